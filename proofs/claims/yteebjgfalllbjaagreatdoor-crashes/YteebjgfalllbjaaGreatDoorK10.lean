import Derived.Test.YteebjgfalllbjaaGreatDoorK9
namespace Go.Proofs.YteebjgfalllbjaaGreatDoor
open Go.RowKit
def lQ(t:TypeId):Prop:=t=111∨t=48∨t=223∨t=220∨t=165∨t=58∨t=119
theorem bP{S:Nat→Prop}{w i:World}{a e size n:Nat}{v:Value}{j:List Value}(h:w.ownsRow a e size v n j)(l:Fr S w i)(m:∀b c,w.heap[b]?=some (.cells c e (0,0))→¬S b):i.ownsRow a e size v n j:=by
 refine⟨h.1,?_⟩;rcases h.2 with o|⟨g,f,d,rfl,p,k,rest⟩
 ·exact .inl o
 ·exact .inr ⟨g,f,d,rfl,p,l.keep k (m g d k),rest⟩
theorem fR{P:Program}{ρ:Operand→Value}{o:Oper}{w b:World}{v:Value}(t:TypeId)(c:Array (Nat×Operand))(e:o.op= .build t c)(d:Array (Nat×Value))(a:(c.map fun(i,x)=>(i,ρ x))=d)(f:(Instr.build t d).run P w= .ok v b):(execOp ρ o).run P w= .ok (.value v) b:=by simp only[execOp,e,a,D9,f,CS,Du]
def cC(w:World)(b:Nat)(a:Option Addr)(c:Nat)(st:List SS):Prop:=w.ownsRow b 165 2 (.slice a st.length c) st.length (an st)
theorem cC.rows{w:World}{b:Nat}{a:Option Addr}{d:Nat}{st:List SS}(h:cC w b a d st):aY w a 2 (st.map dj):=fL h (fun x c=>by simp only[Cx]at c;obtain⟨r,_,rfl⟩:=c;rfl) (by simp)
theorem cC.fr{S:Nat→Prop}{w a:World}{b:Nat}{d:Option Addr}{e:Nat}{st:List SS}(h:cC w b d e st)(f:Fr S w a)(g:∀b c,w.heap[b]?=some (.cells c 165 (0,0))→¬S b):cC a b d e st:=bP h f g
structure Cm(w:World)(b:Nat)(Lv:Value)(L:List RS):Prop where
 o:w.ownsRow b 223 7 Lv L.length (az L)
 s:∀r∈L,cC w b r.sa r.sc r.st
 m:∀r∈L,zP w r∧r.may=[r.S]∧r.mc=1
 n:∀r∈L,r.st.length≤100000
def dY(n:Nat):Bool:=decide (8≤n∧n≤400)
end Go.Proofs.YteebjgfalllbjaaGreatDoor
