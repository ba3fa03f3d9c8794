import Derived.Test.YteebjgfalllbjaaGreatDoorK0
import Derived.BigQuiet
namespace Go.Proofs.YteebjgfalllbjaaGreatDoor
open Go.RowKit Go.Proofs.Tryz
set_option maxRecDepth 100000
set_option maxHeartbeats 1000000
def wz(v:Value):Array Value:=#[v]++bJ
theorem fU(v:Value):(wz v).size=129:=by simp[wz,bV]
theorem tN(v:Value):(wz v).toList=v::bJ.toList:=by simp[wz]
theorem qx(x:Int)(w:World):(Instr.build 101 #[(0,.int .i64 x)]).run prog w= .ok (.agg (wz (.int .i64 x))) w:=by kernel_rfl
theorem dP(w:World):(Instr.alloc 101 true (.tuple #[])).run prog w= .ok (.pointer (some ⟨w.heap.size,0,none⟩)) (w.alloc (.cells (wz (.int .i64 0)) 101)):=by kernel_rfl
theorem dq:(prog.info? 101).map (·.size)=some 129:=by kernel_rfl
theorem rM:(prog.info? 101).map (fun i=>(i.zero,i.size,i.bytes))=some (some (.agg (wz (.int .i64 0))),129,136):=by kernel_rfl
theorem xm:∀v∈bJ.toList,v.oneCell'=true:=by intro v a;simp[bJ]at a;rw[a];rfl
theorem qC(i:Int)(w:World):(Instr.storeAt 101 (.pointer (some ⟨w.heap.size,0,none⟩)) (.agg (wz (.int .i64 i)))).run prog (w.alloc (.cells (wz (.int .i64 0)) 101))= .ok () (w.alloc (.cells (wz (.int .i64 i)) 101)):=run_storeAt_new w 101 _ _ (by rw[fU];exact dq) (by rw[fU,fU]) (by
 rw[Array.all_eq_true_iff_forall_mem];intro v a;have:v∈(wz (.int .i64 i)).toList:=by simpa using a
 rw[tN]at this;rcases CF.1 this with rfl|h
 ·rfl
 ·exact xm v h)
theorem bU{w:World}{A i:Nat}{u:Value}{cs:Array Value}{d:TypeId}(j:w.heap[A]?=some (.cells cs d (0,0))){a e size k:Nat}{v:Value}{f:List Value}(l:d≠e)(h:w.ownsRow a e size v k f):(w.setCell ⟨A,i,none⟩ u).ownsRow a e size v k f:=by
 refine h.kept (row:=some A) ⟨rfl,rfl,rfl,by simp[World.setCell],fun b _ m=>aK _ _ _ _ (fun e=>m (by rw[e]))⟩ ?_;rcases h.2 with⟨rfl,_⟩|⟨g,n,o,rfl,p,c,_⟩
 ·exact .inl rfl
 ·right;intro e;simp only[Value.ownBlock,Cu]at e;subst e;rw[j]at c;simp at c;exact l c.2
theorem au{P:Program}{w:World}{g o:Nat}{ty t:TypeId}{cur vs:List Value}(c:w.heap[g]?=some (.cells cur.toArray t (0,0)))(d:o+vs.length≤cur.length)(e:∀v∈vs,v.oneCell'=true)(hi:(P.info? ty).map (·.size)=some vs.length):(Instr.storeAt ty (.pointer (some ⟨g,o,none⟩)) (.agg vs.toArray)).run P w= .ok () (w.setRow g (splice cur o vs).toArray):=by
 have a:=FR P g o t vs 0 cur.toArray w c (by simpa using d) e;cases b:P.info? ty with
 |none=>simp[b]at hi
 |some i=>
  have f:i.size=vs.length:=by simpa[b]using hi
  simp[Instr.storeAt,Instr.sureAddr,storeVar,sizeOf,typeInfo,b,f,Value.cells,a,splice]
def gc(a:List (Nat×List Value)):List Value:=a.flatMap fun p=>Value.int .i64 p.1::p.2
theorem tu:∀(a:List (Nat×List Value)) (_:∀p∈a,p.2.length=128) (i:Nat) (p:Nat×List Value),a[i]?=some p→((gc a).drop (i*129)).take 129=Value.int .i64 p.1::p.2
 |[],_,i,p,h=>by simp at h
 |q::r,b,0,p,h=>by simp at h;subst h;have:=b q (by simp);simp[gc,this]
 |q::r,b,i+1,p,h=>by
  have c:=b q (by simp);have d:=tu r (fun p f=>b p (by simp[f])) i p (by simpa using h);have e:gc (q::r)=(Value.int .i64 q.1::q.2)++gc r:=by simp[gc]
  rw[e,DN,CP (by simp;omega)];have g:(i+1)*129-(Value.int .i64 q.1::q.2).length=i*129:=by simp[c];omega
  rw[g];simpa using d
theorem mE:∀(a:List (Nat×List Value)) (_:∀p∈a,p.2.length=128),(gc a).length=a.length*129
 |[],_=>rfl
 |q::r,b=>by
  have c:=b q (by simp);have d:=mE r (fun p f=>b p (by simp[f]));have e:gc (q::r)=(Value.int .i64 q.1::q.2)++gc r:=by simp[gc]
  rw[e,Cr,d];simp[c];omega
def bv(c:List Value)(a:List (Nat×List Value)):List Value:=a.foldl (fun b p=>splice b (p.1*128) p.2) c
theorem og(b:List Value)(a:List (Nat×List Value))(i:Nat)(p:Nat×List Value)(h:a[i]?=some p):bv b (a.take (i+1))=splice (bv b (a.take i)) (p.1*128) p.2:=by have hi:i<a.length:=(Co.1 h).1;have c:a[i]=p:=(Co.1 h).2;rw[Fc hi];simp[bv,c]
theorem eC{l c:List Value}{o:Nat}{v:Value}(h:v∈splice l o c):v∈l∨v∈c:=by
 simp only[splice,Cv]at h;rcases h with h|h|h
 ·exact .inl (CU h)
 ·exact .inr h
 ·exact .inl (D8 h)
theorem cD.splice{w:World}{B n:Nat}{c:List Value}(h:cD w B n c)(a:Nat)(k:a<n)(d:List Value)(f:d.length=128)(g:∀v∈d,v.oneCell'=true):cD (w.setRow B (Go.splice c (a*128) d).toArray) B n (Go.splice c (a*128) d):=by
 obtain⟨i,e,j⟩:=h;refine⟨CA _ _ _ _ _ _ i,?_,fun v b=>?_⟩
 ·rw[length_splice _ _ _ (by rw[f,e];omega),e]
 ·rcases eC b with b|b
  ·exact j v b
  ·exact g v b
theorem qL:(prog.info? 97).map (·.size)=some 128:=by kernel_rfl
theorem gU(p:List Value)(a:p.length=129)(b:∀v∈p,v.oneCell'=true)(w:World):(Instr.storeAt 101 (.pointer (some ⟨w.heap.size,0,none⟩)) (.agg p.toArray)).run prog (w.alloc (.cells (wz (.int .i64 0)) 101))= .ok () (w.alloc (.cells p.toArray 101)):=run_storeAt_new w 101 _ _ (by rw[dq];simp[a]) (by rw[fU];simp[a]) (all_oneCell_toArray b)
theorem kl{w:World}{b k g d:Nat}{a:List (Nat×List Value)}(h:w.ownsRow b 101 129 (.slice (some ⟨g,0,none⟩) k d) k (gc a))(e:∀p∈a,p.2.length=128){i:Nat}{p:Nat×List Value}(f:a[i]?=some p):w.rangeAt g (i*129) (Value.int .i64 p.1::p.2):=by
 intro j v c;have l:=h.cells (g:=g) rfl (i*129+j) v;rw[←tu a e i p f,DE]at c;split at c
 ·rw[E3]at c;have:=l c;rwa[DF,D5]at this
 ·cases c
structure Bx(p:Prop):Prop where
 out:p
section
variable{P:Program}{b:Array Oper}{w:World}{Q:Act→Prop}{a:Act}{o:Oper}{rest:List Oper}
theorem bu(h:∀K:Act→Prop,(∀a,Bx (wpStill P b w Q rest a)→K a)→if Region.wanted o (yielded b a.tmps)then o.still P a w K else K (a.put o.dst undef)):Bx (wpStill P b w Q (o::rest) a):=⟨wpStill_step (fun K c=>h K (fun a d=>c a d.out))⟩
theorem bI(h:Q a):Bx (wpStill P b w Q [] a):=⟨wpStill_nil h⟩
end
def aY(w:World)(c:Option Addr)(size:Nat)(l:List (List Value)):Prop:=∀i cs,l[i]?=some cs→∃g off,c=some ⟨g,off,none⟩∧w.rangeAt g (off+i*size) cs
theorem aY.frz{w c:World}{d:Option Addr}{size:Nat}{l:List (List Value)}(h:aY w d size l)(f:Fr (fun _=>False) w c):aY c d size l:=by intro i cs hi;obtain⟨g,off,e,k⟩:=h i cs hi;exact⟨g,off,e,fun j v m=>f.cell (k j v m) id⟩
abbrev SS:=ByteArray×ByteArray
def dj(p:SS):List Value:=[.string p.1,.string p.2]
abbrev SP:=Int×Int
def wy(p:SP):List Value:=[.int .i64 p.1,.int .i64 p.2]
structure RS where
 id:Int
 sa:Option Addr
 sc:Nat
 st:List SS
 S:SP
 tries:Int
 due:Int
 ma:Option Addr
 mc:Nat
 may:List SP
def RS.cs(r:RS):List Value:=[.int .i64 r.id,.slice r.sa r.st.length r.sc,.int .i64 r.S.1,.int .i64 r.S.2,.int .i64 r.tries,.int .i64 r.due,.slice r.ma r.may.length r.mc]
structure cO(w:World)(ao:Option Addr)(L:List RS):Prop where
 r:aY w ao 7 (L.map RS.cs)
 s:∀r∈L,aY w r.sa 2 (r.st.map dj)
 m:∀r∈L,aY w r.ma 2 (r.may.map wy)
 n:∀r∈L,r.st.length≤1000000
theorem cO.frz{w e:World}{f:Option Addr}{L:List RS}(h:cO w f L)(c:Fr (fun _=>False) w e):cO e f L:=⟨h.r.frz c,fun r d=>(h.s r d).frz c,fun r d=>(h.m r d).frz c,h.n⟩
theorem cO.get{w:World}{c:Option Addr}{L:List RS}(h:cO w c L){i:Nat}{r:RS}(hi:L[i]?=some r):∃g off,c=some ⟨g,off,none⟩∧w.rangeAt g (off+i*7) r.cs:=h.r i r.cs (by simp[hi])
theorem cY{w:World}{A:Option Addr}{r:Nat}{l:List SP}(B:aY w A 2 (l.map wy))(J:l.length≤1000000)(s:SP):Calls prog 119 #[.slice A l.length r,.agg #[.int .i64 s.1,.int .i64 s.2]] w fun e H=>e= .returned (.bool (decide (s∈l)))∧Fr (fun _=>False) w H:=by
 obtain⟨d,f⟩:=s;have I:=af B;have m:Hid (Fr (fun _=>False) w (w.alloc (.cells #[.int .i64 d,.int .i64 f] 220))):=(Fr.refl _ _).alloc _;clear B;go_enter func119,ntmps119;go_wp2;go_loopw [5] (fun c wr=>∃i:Nat,i≤l.length∧c= .int .i64 i∧Hid (Fr (fun _=>False) (w.alloc (.cells #[.int .i64 d,.int .i64 f] 220)) wr)∧Hid ((d,f)∉l.take i)) (fun c _=>l.length-(intOf c).toNat);case atStart=>exact⟨0,CH _,rfl,Fr.refl _ _,(by simp:(d,f)∉l.take 0)⟩
 case round=>
  obtain⟨i,hi,rfl,j,C⟩:=hrel;by_cases t:i<l.length
  ·have k:(i:Int)<l.length:=by omega
   obtain⟨p,u⟩:∃p,l[i]?=some p:=⟨_,Cp t⟩;obtain⟨g,off,rfl,v⟩:=I.out i (wy p) (by simp[u]);obtain⟨n,q⟩:=p;have c0:wr.cell? ⟨g,off+i*2,none⟩=some (.int .i64 n):=j.out.cell (m.out.cell (v 0 _ rfl) id) id;have c1:wr.cell? ⟨g,off+i*2+1,none⟩=some (.int .i64 q):=j.out.cell (m.out.cell (v 1 _ rfl) id) id;have x:=j.out.keep (aa w _) id;have K:wr.cell? ⟨w.heap.size,0,none⟩=some (.int .i64 d):=by rw[Cn wr w.heap.size 0 _ _ _ x];rfl
   have L:wr.cell? ⟨w.heap.size,1,none⟩=some (.int .i64 f):=by rw[Cn wr w.heap.size 1 _ _ _ x];rfl
   clear v x;have D:Hid (l[i]?=some (n,q)):=u;clear u;have E:Hid (¬(n=d∧q=f)→(d,f)∉l.take (i+1)):=fun y=>by rw[D1,D.out];simp only[Option.toList_some,Cv,Db,Prod.mk.injEq,not_or];exact⟨C.out,fun e=>y ⟨e.1.symm,e.2.symm⟩⟩
   by_cases F:n=d
   ·by_cases G:q=f
    ·go_wp2;go_still (by kernel_rfl);go_wp2;go_ret;refine⟨?_,(m.out.trans j.out fI).drew⟩;have:(d,f)∈l:=by rw[←F,←G];exact Cq D.out
     simp[this]
    ·have z:=af (E.out (fun h=>G h.2));go_wp2;go_still (by kernel_rfl);go_wp2;go_roundw;case rel=>exact⟨i+1,by omega,by go_num,j.out.drew,z⟩
     case measure=>simp[intOf];omega
   ·have z:=af (E.out (fun h=>F h.1));go_wp2;go_still (by kernel_rfl);go_wp2;go_roundw;case rel=>exact⟨i+1,by omega,by go_num,j.out.drew,z⟩
    case measure=>simp[intOf];omega
  ·have k:¬(i:Int)<l.length:=by omega
   go_wp2;go_ret;refine⟨?_,m.out.trans j.out fI⟩;have:=C.out;rw[CO (by omega)]at this;simp[this]
def fM(L:List RS)(id:Int)(k:Nat)(t:Bool):Prop:=k≤L.length∧(∀j r,j<k→L[j]?=some r→r.id<id)∧(∀r,L[k]?=some r→id≤r.id)∧(t=true↔∃r,L[k]?=some r∧r.id=id)
def AX(L:List RS)(id:Int)(w:World)(e:Ending)(c:World):Prop:=∃k t,e= .returned (.tuple #[.int .i64 ((k:Nat):Int),.bool t])∧fM L id k t∧Fr (fun _=>False) w c
theorem eK{w:World}{n:Option Addr}{h:Nat}{L:List RS}(E:aY w n 7 (L.map RS.cs))(N:L.length≤1000000)(t u:Int)(f:Bool)(id:Int):Calls prog 121 #[.agg #[.int .i64 t,.int .i64 u,.bool f,.slice n L.length h],.int .i64 id] w fun e H=>AX L id w e H:=by
 have I:=af E;have v:Hid (Fr (fun _=>False) w (w.alloc (.cells #[.int .i64 t,.int .i64 u,.bool f,.slice n L.length h] 109))):=(Fr.refl _ _).alloc _;clear E;go_enter func121,ntmps121;go_wp2;go_loopw [6] (fun c wr=>∃i:Nat,i≤L.length∧c= .int .i64 i∧Hid (Fr (fun _=>False) (w.alloc (.cells #[.int .i64 t,.int .i64 u,.bool f,.slice n L.length h] 109)) wr)∧Hid (∀j r,j<i→L[j]?=some r→r.id<id)) (fun c _=>L.length-(intOf c).toNat);case atStart=>exact⟨0,CH _,rfl,Fr.refl _ _,(fun j _ F=>absurd F (by omega):∀j r,j<0→L[j]?=some r→r.id<id)⟩
 case round=>
  obtain⟨i,hi,rfl,p,x⟩:=hrel;have G:=p.out.keep (aa w _) jI;have O:wr.cell? ⟨w.heap.size,3,none⟩=some (.slice n L.length h):=by rw[Cn wr w.heap.size 3 _ _ _ G];rfl
  clear G;by_cases y:i<L.length
  ·have q:(i:Int)<L.length:=by omega
   obtain⟨r,A⟩:∃r,L[i]?=some r:=⟨_,Cp y⟩;obtain⟨g,off,rfl,s⟩:=I.out i r.cs (by simp[A]);have c0:wr.cell? ⟨g,off+i*7,none⟩=some (.int .i64 r.id):=p.out.cell (v.out.cell (s 0 _ rfl) jI) jI;clear s;have B:=af A;clear A;obtain⟨l,d⟩:∃z,r.id=z:=⟨_,rfl⟩;have m:=af d;rw[d]at c0;clear d;by_cases J:id≤l
   ·have K:Hid (fM L id i (l==id)):=⟨hi,x.out,(fun C k=>by rw[B.out]at k;cases k;rw[m.out];exact J),by simp[B.out,m.out]⟩;go_wp2;go_still (by kernel_rfl);go_wp2;go_ret2;exact⟨i,(l==id),rfl,K.out,(v.out.trans p.out fI).drew⟩
   ·have M:Hid (∀j r,j<i+1→L[j]?=some r→r.id<id):=fun j C F k=>by
     by_cases D:j<i
     ·exact x.out j C D k
     ·obtain rfl:j=i:=by omega
      rw[B.out]at k;cases k;rw[m.out];omega
    go_wp2;go_roundw;case rel=>exact⟨i+1,by omega,by go_num,p,M⟩
    case measure=>simp[intOf];omega
  ·have q:¬(i:Int)<L.length:=by omega
   obtain rfl:i=L.length:=by omega
   go_wp2;go_ret2;exact⟨L.length,false,rfl,⟨Cs _,x.out,(fun C k=>by simp at k),by simp⟩,v.out.trans p.out fI⟩
end Go.Proofs.YteebjgfalllbjaaGreatDoor
