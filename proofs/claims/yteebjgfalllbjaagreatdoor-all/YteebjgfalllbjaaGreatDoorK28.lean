import Derived.Test.YteebjgfalllbjaaGreatDoorK25
import Derived.Test.YteebjgfalllbjaaGreatDoorK27
namespace Go.Proofs.YteebjgfalllbjaaGreatDoor
open Go.RowKit Go.Proofs.Tryz
theorem rJ:(prog.info? 52).map (fun i=>(i.zero,i.size,i.bytes))=some (some (.agg #[.int .i64 0,.int .i64 0,.bool false,.string ⟨#[]⟩,.int .i64 0]),5,48):=by kernel_rfl
theorem uQ:(prog.info? 50).map (fun i=>(i.zero,i.size,i.bytes))=some (some (.agg #[.int .i64 0,.int .i64 0,.bool false,.string ⟨#[]⟩]),4,40):=by kernel_rfl
theorem lr(c:CL)(r:Nat)(w:World):(Instr.build 52 #[(0,.agg c.cs.toArray),(1,.int .i64 r)]).run prog w= .ok (.agg (c.cs++[Value.int .i64 r]).toArray) w:=by kernel_rfl
theorem pF{ρ:Operand→Value}{o:Oper}{x y:Operand}{u v z:Value}{w a:World}(b:o.op= .build 52 #[(0,x),(1,y)])(c:ρ x=u)(e:ρ y=v)(g:(Instr.build 52 #[(0,u),(1,v)]).run prog w= .ok z a):(execOp ρ o).run prog w= .ok (.value z) a:=by simp[execOp,b,c,e,g]
theorem oB(c:CL)(r:Nat)(w:World):(Instr.buildSlice 45 1 #[(0,.agg (c.cs++[Value.int .i64 r]).toArray)]).run prog w= .ok (.slice (some ⟨w.heap.size,0,none⟩) 1 1) (w.alloc (.cells (c.cs++[Value.int .i64 r]).toArray 52)):=by kernel_rfl
theorem qe(c:CL)(w:World):(Instr.buildSlice 46 1 #[(0,.agg c.cs.toArray)]).run prog w= .ok (.slice (some ⟨w.heap.size,0,none⟩) 1 1) (w.alloc (.cells c.cs.toArray 50)):=by kernel_rfl
def p7(l:List (CL×Nat)):List Value:=(l.map fun p=>p.1.cs++[Value.int .i64 p.2]).flatten
theorem nL(l:List (CL×Nat))(c:CL)(r:Nat):p7 (l++[(c,r)])=p7 l++(c.cs++[Value.int .i64 r]):=by simp[p7]
theorem nu(l:List CL)(c:CL):js (l++[c])=js l++c.cs:=by simp[js]
theorem cn{w:World}{a e size n:Nat}{v:Value}{i:List Value}(h:w.ownsRow a e size v n i){b:Nat}(c:v.ownBlock=some b):∃cs,w.heap[b]?=some (.cells cs e (0,0)):=by
 rcases h.2 with⟨rfl,_⟩|⟨g,j,k,rfl,_,o,_⟩
 ·cases c
 ·cases c;exact⟨_,o⟩
structure jh(w:World)(Pp d:Nat)(lg ef l:Value)(log:List (CL×Nat))(eff:List CL)(f:List Int)(at':Int):Prop where
 p:w.heap[Pp]?=some (.cells #[lg,ef,l,.int .i64 at'] 48 (0,0))
 lo:w.ownsRow d 52 5 lg log.length (p7 log)
 eo:w.ownsRow d 50 4 ef eff.length (js eff)
 la:w.ownsRow d 3 1 l f.length (f.map fun x=>Value.int .i64 x)
def iB(Pp:Nat)(lg ef l:Value)(b:Nat):Prop:=b=Pp∨lg.ownBlock=some b∨ef.ownBlock=some b∨l.ownBlock=some b
structure rR(w:World)(Pp d:Nat)(lg ef l:Value)(log:List (CL×Nat))(f:List Int)(at':Int)(c:CL)(ef':Value)(eff':List CL)(W:World):Prop where
 p:W.heap[Pp]?=some (.cells #[lg,ef',l,.int .i64 at'] 48 (0,0))
 c:W.heap[w.heap.size]?=some (.cells c.cs.toArray 50 (0,0))
 lo:W.ownsRow d 52 5 lg log.length (p7 log)
 eo:W.ownsRow d 50 4 ef' eff'.length (js eff')
 la:W.ownsRow d 3 1 l f.length (f.map fun x=>Value.int .i64 x)
 fr:Fr (iB Pp lg ef l) w W
 ef:∀b,ef'.ownBlock=some b→iB Pp lg ef l b∨w.heap.size≤b
def gt(k:Int)(done back:Bool):Nat:=if done then(if k=3∨k=4 then 1 else 0)else if k=3∨(k=5∧back=true)then 1 else if k=5 then 2 else if k=4 then 1 else 0
def iE(k:Int)(done:Bool)(eff:List CL)(c:CL):List CL:=if done=true∨k=3∨k=5 then eff else eff++[c]
def yN(w:World)(Pp d:Nat)(lg ef l:Value)(log:List (CL×Nat))(f:List Int)(at':Int)(c:CL)(r:Nat)(a:Value)(e:List CL)(W:World):Prop:=∃g,jh W Pp d g a l (log++[(c,r)]) e f at'∧Fr (iB Pp lg ef l) w W∧(∀b,g.ownBlock=some b→iB Pp lg ef l b∨w.heap.size≤b)∧∀b,a.ownBlock=some b→iB Pp lg ef l b∨w.heap.size≤b
section
variable{w:World}{Pp d:Nat}{lg ef l:Value}{log:List (CL×Nat)}{eff:List CL}{f:List Int}{m:Int}
theorem rR.frz{at':Int}{c:CL}{e:Value}{a:List CL}{W g:World}(h:rR w Pp d lg ef l log f at' c e a W)(b:Fr (fun _=>False) W g):rR w Pp d lg ef l log f at' c e a g:=⟨b.keep h.p jI,b.keep h.c jI,aU h.lo b (fun _ _ _ _ h=>h),aU h.eo b (fun _ _ _ _ h=>h),aU h.la b (fun _ _ _ _ h=>h),h.fr.trans (b.mono (fun _ _ h=>h.elim)) fI,h.ef⟩
theorem xj(l:List CL)(i:Nat)(c:CL)(h:l[i]?=some c)(j:Nat)(v:Value)(g:c.cs[j]?=some v):(js l)[i*4+j]?=some v:=by
 induction l generalizing i with
 |nil=>simp at h
 |cons a l k=>
  have n:j<4:=(Co.1 g).1;have e:js (a::l)=a.cs++js l:=rfl;have b:a.cs.length=4:=rfl;rw[e];cases i with
  |zero=>
   obtain rfl:a=c:=by simpa using h
   rw[CI (by rw[b];omega),F5,D5];exact g
  |succ i=>
   rw[CG (by rw[b];omega),b,show(i+1)*4+j-4=i*4+j by omega];exact k i (by simpa using h)
theorem uH{W:World}{k:Option Addr}{n e:Nat}{eff:List CL}(h:W.ownsRow d 50 4 (.slice k n e) n (js eff)):aY W k 4 (eff.map CL.cs):=by
 intro i r o;rw[CK]at o;obtain⟨c,p,rfl⟩:=Do.1 o;have hi:=(Co.1 p).1;have a:=h.1;rcases h.2 with⟨q,t⟩|⟨g,s,u,q,_,x,_,_,_,y⟩
 ·rw[xy,t]at a;omega
 ·cases q
  refine⟨g,0,rfl,fun j v z=>?_⟩;refine(Cn W g _ _ _ _ x).trans ?_;have b:=xj eff i c p j v z;rw[←y,DE]at b;split at b
  ·rw[D5];simpa using b
  ·cases b
theorem xq{at':Int}{c:CL}{W:World}(h:rR w Pp d lg ef l log f at' c ef eff W)(b:eff.length≤20000000):Calls prog 77 #[.pointer (some ⟨Pp,0,none⟩),.agg c.cs.toArray] W fun e j=>e= .returned (.bool (eff.any (·.same c)))∧Fr (fun _=>False) W j:=by
 obtain⟨i,a,rfl⟩:∃i a,ef= .slice i eff.length a:=by
  rcases h.eo.2 with⟨e,b⟩|⟨g,a,k,e,_⟩
  ·exact⟨none,0,by rw[e,b]⟩
  ·exact⟨_,_,e⟩
 exact yb c h.p (uH h.eo) b
end
section
variable{w:World}{Pp f:Nat}
structure yX where
 log:List (CL×Nat)
 eff:List CL
 at':Nat
def yE(Pp f:Nat)(c:List Int)(s:yX)(F:Nat→Prop)(w:World):Prop:=f≤w.heap.size∧∃lg a l,jh w Pp f lg a l s.log s.eff c s.at'∧∀b,F b↔iB Pp lg a l b
theorem jh.ty{lg j l:Value}{g:List (CL×Nat)}{i:List CL}{k:List Int}{a:Int}(h:jh w Pp f lg j l g i k a){b:Nat}(d:iB Pp lg j l b):∃c t,w.heap[b]?=some (.cells c t (0,0))∧PT t:=by
 rcases d with rfl|d|d|d
 ·exact⟨_,_,h.p,.inl rfl⟩
 ·obtain⟨c,e⟩:=cn h.lo d;exact⟨_,_,e,.inr (.inl rfl)⟩
 ·obtain⟨c,e⟩:=cn h.eo d;exact⟨_,_,e,.inr (.inr (.inl rfl))⟩
 ·obtain⟨c,e⟩:=cn h.la d;exact⟨_,_,e,.inr (.inr (.inr rfl))⟩
theorem jh.fr{lg j l:Value}{c:List (CL×Nat)}{d:List CL}{k:List Int}{a:Int}{S:Nat→Prop}{m:World}(h:jh w Pp f lg j l c d k a)(g:Fr S w m)(i:∀b,iB Pp lg j l b→¬S b):jh m Pp f lg j l c d k a:=⟨g.keep h.p (i _ (.inl rfl)),aU h.lo g (fun b _ _ e=>i b (.inr (.inl e))),aU h.eo g (fun b _ _ e=>i b (.inr (.inr (.inl e)))),aU h.la g (fun b _ _ e=>i b (.inr (.inr (.inr e))))⟩
def wD(b:List Int)(a:Nat):Int:=if b=[]then 0 else b.getD (a%b.length) 0%6
def zQ(b:List Int)(a:Nat):Nat:=if b=[]then a else a+1
def Ap(a:List Int)(s:yX)(c:CL):Nat×yX:=(gt (wD a s.at') (s.eff.any (·.same c)) c.back,⟨s.log++[(c,gt (wD a s.at') (s.eff.any (·.same c)) c.back)],iE (wD a s.at') (s.eff.any (·.same c)) s.eff c,zQ a s.at'⟩)
theorem zw(k:Int)(d b:Bool):gt k d b≤2:=by unfold gt;split<;>(split<;>try omega);split<;>(try omega);split<;>omega
theorem zK(k:Int)(d:Bool)(a:List CL)(c:CL):(iE k d a c).length≤a.length+1:=by
 unfold iE;split
 ·omega
 ·simp
def xN(Pp f:Nat)(g:List Int):Prop:=∀(w:World) (lg i l:Value) (d:List (CL×Nat)) (b:List CL) (a:Nat) (c:CL),jh w Pp f lg i l d b g a→f≤w.heap.size→d.length≤20000000→b.length≤20000000→a≤20000000→Calls prog 47 #[.pointer (some ⟨Pp,0,none⟩),.agg c.cs.toArray] w fun e j=>e= .returned (.int .i64 (gt (wD g a) (b.any (·.same c)) c.back:Nat))∧∃h,yN w Pp f lg i l d g (zQ g a:Nat) c (gt (wD g a) (b.any (·.same c)) c.back) h (iE (wD g a) (b.any (·.same c)) b c) j
def uq(Pp:Nat):Value:= .func (.func 47) #[.pointer (some ⟨Pp,0,none⟩)] #[]
def ep{Pp f:Nat}{d:List Int}(H:xN Pp f d):rT (uq Pp) where
 σ:=yX
 PA:=yE Pp f d
 sz s:=max (max s.log.length s.eff.length) s.at'
 ask:=Ap d
 fr:=by
  rintro S F w D s ⟨a,lg,r,l,h,hF⟩ m M
  exact⟨Ct a m.size,lg,r,l,h.fr m (fun b a=>M b ((hF b).2 a)),hF⟩
 ty:=by
  rintro F w s b ⟨a,lg,r,l,h,hF⟩ v
  exact h.ty ((hF b).1 v)
 le:=fun s c=>zw _ _ _
 szs:=fun s c=>by
  have Z:=zK (wD d s.at') (s.eff.any (·.same c)) s.eff c
  have h2:zQ d s.at'≤s.at'+1:=by unfold zQ;split<;>omega
  show max (max (s.log++[(c,gt (wD d s.at') (s.eff.any (·.same c)) c.back)]).length (iE (wD d s.at') (s.eff.any (·.same c)) s.eff c).length) (zQ d s.at')≤max (max s.log.length s.eff.length) s.at'+1
  rw[Cr,CM]
  omega
 rep:=by
  rintro F w s X J R clock pause c ⟨a,lg,r,l,h,hF⟩ x E
  have G:=x
  have y:¬F X:=fun N=>by
   obtain⟨I,t,o,K⟩:=h.ty ((hF X).1 N)
   have:=o.symm.trans E
   simp at this
   rw[this.2]at K
   revert K
   unfold PT
   decide
  refine(uo c E (F:=F) (Q:=fun k W=>k=((Ap d s c).1:Nat)∧∃n,yE Pp f d (Ap d s c).2 n W∧∀b,n b→F b∨w.heap.size+2≤b) (fun W m O=>?_) y (fun b a=>?_) ?_).mono ?_
  ·have P:=h.fr m fI
   refine(H W lg r l s.log s.eff s.at' c P (Ct a m.size) (by omega) (by omega) (by omega)).mono ?_
   rintro e D ⟨rfl,g,i,z,j,A,B⟩
   refine⟨_,rfl,j.mono (fun b _ h=>(hF b).2 h),rfl,iB Pp i g l,⟨Ct (Ct a m.size) j.size,i,g,l,z,fun b=>Iff.rfl⟩,?_⟩
   rintro b (h|h|h|h)
   ·exact .inl ((hF b).2 (.inl h))
   ·exact(A b h).imp (fun h=>(hF b).2 h) (fun h=>by omega)
   ·exact(B b h).imp (fun h=>(hF b).2 h) (fun h=>by omega)
   ·exact .inl ((hF b).2 (.inr (.inr (.inr h))))
  ·obtain⟨I,t,o,_⟩:=h.ty ((hF b).1 a)
   exact lt_of_heap o
  ·rintro k W W' ⟨T,n,⟨C,i,g,U,V,p⟩,u⟩ q
   refine⟨T,n,⟨Ct C q.size,i,g,U,V.fr q (fun b a e=>?_),p⟩,u⟩
   rcases u b ((p b).2 a)with L|L
   ·obtain⟨I,t,o,_⟩:=h.ty ((hF b).1 L)
    have:=lt_of_heap o
    omega
   ·omega
  ·rintro e D ⟨k,rfl,j,rfl,n,Y,u⟩
   exact⟨rfl,j,n,Y,fun b a=>(u b a).imp id (fun h=>by omega)⟩
end
end Go.Proofs.YteebjgfalllbjaaGreatDoor
