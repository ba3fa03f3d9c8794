import Derived.Test.YteebjgfalllbjaaGreatDoorK37
namespace Go.Proofs.YteebjgfalllbjaaGreatDoor
open Go.RowKit Go.Proofs.Tryz
set_option maxRecDepth 100000
set_option maxHeartbeats 4000000
inductive vZ:List RS→List RS→Prop
 |nil:vZ [] []
 |snoc {L L':List RS} {r d:RS} (h:vZ L L') (hr:tq r d) (h0:r.S.1≠0):vZ (L++[r]) (L'++[d])
 |skip {L L':List RS} {r:RS} (h:vZ L L') (h0:r.S.1=0):vZ (L++[r]) L'
theorem vZ.mem{L j:List RS}(h:vZ L j):∀d∈j,∃r∈L,tq r d∧r.S.1≠0:=by
 induction h with
 |nil=>intro d b;cases b
 |snoc _ b k c=>
  intro q a;rcases Cv.1 a with a|a
  ·obtain⟨r,e,g⟩:=c q a;exact⟨r,by simp[e],g⟩
  ·simp at a;subst a;exact⟨_,by simp,b,k⟩
 |skip _ _ c=>
  intro q a;obtain⟨r,e,g⟩:=c q a;exact⟨r,by simp[e],g⟩
theorem vZ.len{L a:List RS}(h:vZ L a):a.length≤L.length:=by
 induction h with
 |nil=>exact Cs _
 |snoc _ _ _ b=>simp;exact b
 |skip _ _ b=>simp;omega
def yr(w1:World)(L:List RS)(i m:Nat)(f:Value)(wr:World):Prop:=∃a,vZ (L.take i) a∧a.length=m∧wr.ownsRow w1.heap.size 223 7 f m (az a)∧(∀r∈a,gz w1.heap.size wr r)∧a.Pairwise kt∧Fr (fun _=>False) w1 wr
section
variable{w1 wr W:World}{L:List RS}{i m:Nat}{f:Value}{r d:RS}
theorem yr.skip(h:yr w1 L i m f wr)(a:Fr (fun _=>False) wr W)(b:L[i]?=some r)(c:r.S.1=0):yr w1 L (i+1) m f W:=by obtain⟨e,g,j,k,l,n,o⟩:=h;refine⟨e,?_,j,bY k a fI,fun q p=>(l q p).fr a (fun _ _ _ h=>h),n,o.trans a fI⟩;rw[D1,b];exact g.skip c
theorem yr.step(h:yr w1 L i m f wr)(x:Fr (fun _=>False) wr W)(O:L[i]?=some r)(hF:tq r d)(P:r.S.1≠0)(E:gz wr.heap.size W d):∃F,W.ownsRow w1.heap.size 223 7 f m F∧w1.heap.size≤W.heap.size∧∀(u:World) (v:Value),u.ownsRow w1.heap.size 223 7 v (m+1) (F++d.cs)→W.grownBy u f.ownBlock→yr w1 L (i+1) (m+1) v u∧∃y c2,v= .slice y (m+1) c2:=by
 obtain⟨G,Q,R,T,H,z,I⟩:=h;have j:=bY T x fI;have n:=I.trans x fI;refine⟨az G,j,n.size,fun u v o J=>?_⟩;obtain⟨y,c2,w,_⟩:=aN o;have p:=(Fr.refl _ _).grown J fI;have s:∀b c,W.heap[b]?=some (.cells c 220 (0,0))→¬f.ownBlock=some b:=by
  intro b c t e;rcases j.2 with⟨rfl,_⟩|⟨g,U,V,rfl,_,A,_⟩
  ·cases e
  ·simp only[Value.ownBlock,Cu]at e;subst e;rw[A]at t;simp at t
 refine⟨⟨G++[d],?_,by simp[R],?_,fun q l=>?_,?_,?_⟩,y,c2,w⟩
 ·rw[D1,O];exact Q.snoc hF P
 ·rw[de];simpa[az]using o
 ·rw[Cv]at l;rcases l with l|l
  ·exact((H q l).fr x (fun _ _ _ h=>h)).fr p s
  ·simp at l;subst l;obtain⟨g,K,B,M⟩:=E.fr p s;exact⟨g,Ct I.size K,B,M⟩
 ·rw[Dt];refine⟨z,by simp,fun a X b t=>?_⟩;simp at t;subst t;obtain⟨g,K,B,M⟩:=E;obtain⟨Z,_,C,D⟩:=H a X;intro ad N w;rw[B]at w;rw[C]at N;have:=lt_of_heap D;have Y:=N.trans w.symm;simp only[Cu,Ec,ER]at Y;omega
 ·exact n.grown J (fun k hk e=>by have:=(j.lt k e).1;omega)
end
theorem o7{w:World}{ao:Option Addr}{K:Nat}{L:List RS}(hl:cO w ao L)(hn:L.length≤1000000):Calls prog 129 #[.slice ao L.length K] w fun e M=>∃Lv q,e= .returned Lv∧vZ L q∧M.ownsRow w.heap.size 223 7 Lv q.length (az q)∧(∀r∈q,gz w.heap.size M r)∧q.Pairwise kt∧Fr (fun _=>False) w M:=by
 have HL:=af hl;have HI:Hid (yr w L 0 0 (.slice none 0 0) w):=⟨[],.nil,rfl,CT _ _ _ _,(fun r x=>absurd x (by simp)),.nil,Fr.refl _ _⟩;clear hl;go_enter func129,ntmps129;go_wp2;go_loopw [3,4] (fun f c wr=>∃(i m:Nat) (s:Option Addr) (cx:Nat),i≤L.length∧m≤i∧f= .slice s m cx∧c= .int .i64 i∧Hid (yr w L i m f wr)) (fun _ c _=>L.length-(intOf c).toNat);case atStart=>exact⟨0,0,none,0,CH _,Cs _,rfl,rfl,HI⟩
 case round=>
  obtain⟨i,m,s,cx,hi,a0,rfl,rfl,J⟩:=hrel;have N:Fr (fun _=>False) w wr:=by obtain⟨q,_,_,_,_,_,hf⟩:=J.out;exact hf
  by_cases O:i<L.length
  ·have y:(i:Int)<L.length:=by omega
   obtain⟨r,x⟩:∃r,L[i]?=some r:=⟨_,Cp O⟩;obtain⟨g,off,rfl,z⟩:=HL.out.get x;obtain⟨s0,s1,s2,s3,s4,s5,s6⟩:=cH (aW z N);have A:=af x;clear z x;by_cases t:r.S.1=0
   ·have v:Hid (∀o,yr w L (i+1) m (.slice s m cx) (wr.alloc o)):=fun o=>J.out.skip ((Fr.refl _ _).alloc _) A.out t;rw[t]at s2;go_wp2;go_roundw;case rel=>exact⟨i+1,m,s,cx,by omega,by omega,rfl,by go_num,v.out _⟩
    case measure=>simp[intOf];omega
   ·obtain⟨d,n⟩:∃d:RS,Hid (d={r with ma:=some ⟨wr.heap.size+1,0,none⟩,mc:=1,may:=[r.S]}):=⟨_,rfl⟩;have B:((wr.alloc (.cells #[.int .i64 r.id,.slice r.sa r.st.length r.sc,.int .i64 r.S.1,.int .i64 r.S.2,.int .i64 r.tries,.int .i64 r.due,.slice (some ⟨wr.heap.size+1,0,none⟩) 1 1] 223)).alloc (.cells #[.int .i64 r.S.1,.int .i64 r.S.2] 220)).heap[wr.heap.size+1]?=some (.cells #[.int .i64 r.S.1,.int .i64 r.S.2] 220 (0,0)):=Di wr _ _;have C:gz wr.heap.size ((wr.alloc (.cells #[.int .i64 r.id,.slice r.sa r.st.length r.sc,.int .i64 r.S.1,.int .i64 r.S.2,.int .i64 r.tries,.int .i64 r.due,.slice (some ⟨wr.heap.size+1,0,none⟩) 1 1] 223)).alloc (.cells #[.int .i64 r.S.1,.int .i64 r.S.2] 220)) d:=by rw[n.out];exact⟨wr.heap.size+1,by omega,rfl,B⟩
    have D:tq r d:=by rw[n.out];exact⟨rfl,rfl,rfl,rfl,rfl,rfl,rfl,rfl,rfl⟩
    have P:d.cs=[.int .i64 r.id,.slice r.sa r.st.length r.sc,.int .i64 r.S.1,.int .i64 r.S.2,.int .i64 r.tries,.int .i64 r.due,.slice (some ⟨wr.heap.size+1,0,none⟩) 1 1]:=by rw[n.out];rfl
    have E:Fr (fun _=>False) wr ((wr.alloc (.cells #[.int .i64 r.id,.slice r.sa r.st.length r.sc,.int .i64 r.S.1,.int .i64 r.S.2,.int .i64 r.tries,.int .i64 r.due,.slice (some ⟨wr.heap.size+1,0,none⟩) 1 1] 223)).alloc (.cells #[.int .i64 r.S.1,.int .i64 r.S.2] 220)):=((Fr.refl _ _).alloc _).alloc _;obtain⟨Q,R,T,U,V⟩:=Dn dO;obtain⟨X,ho,F,k⟩:=yr.step J.out (E.alloc (.cells #[.int .i64 r.id,.slice r.sa r.st.length r.sc,.int .i64 r.S.1,.int .i64 r.S.2,.int .i64 r.tries,.int .i64 r.due,.slice (some ⟨wr.heap.size+1,0,none⟩) 1 1] 223)) A.out D t (C.fr ((Fr.refl (fun _=>False) _).alloc _) (fun _ _ _ h=>h));have a:∀j u,d.cs[j]?=some u→(((wr.alloc (.cells #[.int .i64 r.id,.slice r.sa r.st.length r.sc,.int .i64 r.S.1,.int .i64 r.S.2,.int .i64 r.tries,.int .i64 r.due,.slice (some ⟨wr.heap.size+1,0,none⟩) 1 1] 223)).alloc (.cells #[.int .i64 r.S.1,.int .i64 r.S.2] 220)).alloc (.cells #[.int .i64 r.id,.slice r.sa r.st.length r.sc,.int .i64 r.S.1,.int .i64 r.S.2,.int .i64 r.tries,.int .i64 r.due,.slice (some ⟨wr.heap.size+1,0,none⟩) 1 1] 223)).cell? ((⟨wr.heap.size+1+1,0,none⟩:Addr).add j)=some u:=by
     rw[P];have hx:=aa ((wr.alloc (.cells #[.int .i64 r.id,.slice r.sa r.st.length r.sc,.int .i64 r.S.1,.int .i64 r.S.2,.int .i64 r.tries,.int .i64 r.due,.slice (some ⟨wr.heap.size+1,0,none⟩) 1 1] 223)).alloc (.cells #[.int .i64 r.S.1,.int .i64 r.S.2] 220)) (.cells #[.int .i64 r.id,.slice r.sa r.st.length r.sc,.int .i64 r.S.1,.int .i64 r.S.2,.int .i64 r.tries,.int .i64 r.due,.slice (some ⟨wr.heap.size+1,0,none⟩) 1 1] 223);rw[show((wr.alloc (.cells #[.int .i64 r.id,.slice r.sa r.st.length r.sc,.int .i64 r.S.1,.int .i64 r.S.2,.int .i64 r.tries,.int .i64 r.due,.slice (some ⟨wr.heap.size+1,0,none⟩) 1 1] 223)).alloc (.cells #[.int .i64 r.S.1,.int .i64 r.S.2] 220)).heap.size=wr.heap.size+1+1 from by simp]at hx;exact CZ hx
    have p:Hid ((((wr.alloc (.cells #[.int .i64 r.id,.slice r.sa r.st.length r.sc,.int .i64 r.S.1,.int .i64 r.S.2,.int .i64 r.tries,.int .i64 r.due,.slice (some ⟨wr.heap.size+1,0,none⟩) 1 1] 223)).alloc (.cells #[.int .i64 r.S.1,.int .i64 r.S.2] 220)).alloc (.cells #[.int .i64 r.id,.slice r.sa r.st.length r.sc,.int .i64 r.S.1,.int .i64 r.S.2,.int .i64 r.tries,.int .i64 r.due,.slice (some ⟨wr.heap.size+1,0,none⟩) 1 1] 223)).ownsRow w.heap.size 223 7 (.slice s m cx) m X∧w.heap.size≤(((wr.alloc (.cells #[.int .i64 r.id,.slice r.sa r.st.length r.sc,.int .i64 r.S.1,.int .i64 r.S.2,.int .i64 r.tries,.int .i64 r.due,.slice (some ⟨wr.heap.size+1,0,none⟩) 1 1] 223)).alloc (.cells #[.int .i64 r.S.1,.int .i64 r.S.2] 220)).alloc (.cells #[.int .i64 r.id,.slice r.sa r.st.length r.sc,.int .i64 r.S.1,.int .i64 r.S.2,.int .i64 r.tries,.int .i64 r.due,.slice (some ⟨wr.heap.size+1,0,none⟩) 1 1] 223)).heap.size∧(∀j u,d.cs[j]?=some u→(((wr.alloc (.cells #[.int .i64 r.id,.slice r.sa r.st.length r.sc,.int .i64 r.S.1,.int .i64 r.S.2,.int .i64 r.tries,.int .i64 r.due,.slice (some ⟨wr.heap.size+1,0,none⟩) 1 1] 223)).alloc (.cells #[.int .i64 r.S.1,.int .i64 r.S.2] 220)).alloc (.cells #[.int .i64 r.id,.slice r.sa r.st.length r.sc,.int .i64 r.S.1,.int .i64 r.S.2,.int .i64 r.tries,.int .i64 r.due,.slice (some ⟨wr.heap.size+1,0,none⟩) 1 1] 223)).cell? ((⟨wr.heap.size+1+1,0,none⟩:Addr).add j)=some u)∧(∀G H,G.ownsRow w.heap.size 223 7 H (m+1) (X++d.cs)→(((wr.alloc (.cells #[.int .i64 r.id,.slice r.sa r.st.length r.sc,.int .i64 r.S.1,.int .i64 r.S.2,.int .i64 r.tries,.int .i64 r.due,.slice (some ⟨wr.heap.size+1,0,none⟩) 1 1] 223)).alloc (.cells #[.int .i64 r.S.1,.int .i64 r.S.2] 220)).alloc (.cells #[.int .i64 r.id,.slice r.sa r.st.length r.sc,.int .i64 r.S.1,.int .i64 r.S.2,.int .i64 r.tries,.int .i64 r.due,.slice (some ⟨wr.heap.size+1,0,none⟩) 1 1] 223)).grownBy G (Value.slice s m cx).ownBlock→yr w L (i+1) (m+1) H G∧∃Y c2,H= .slice Y (m+1) c2)):=⟨ho,F,a,k⟩
    clear ho F a k B C D E n;go_wp2_with (at_builtin;refine DD (((wr.alloc (.cells #[.int .i64 r.id,.slice r.sa r.st.length r.sc,.int .i64 r.S.1,.int .i64 r.S.2,.int .i64 r.tries,.int .i64 r.due,.slice (some ⟨wr.heap.size+1,0,none⟩) 1 1] 223)).alloc (.cells #[.int .i64 r.S.1,.int .i64 r.S.2] 220)).alloc (.cells #[.int .i64 r.id,.slice r.sa r.st.length r.sc,.int .i64 r.S.1,.int .i64 r.S.2,.int .i64 r.tries,.int .i64 r.due,.slice (some ⟨wr.heap.size+1,0,none⟩) 1 1] 223)) rfl _ _ 107 rfl w.heap.size 223 Q _ 7 88 underlying107 R T U V rfl (by decide) (.slice s m cx) m X rfl p.out.1 ⟨wr.heap.size+1+1,0,none⟩ 1 1 d.cs rfl ?_ p.out.2.2.1 d.one ?_ ?_ p.out.2.1 ?_;(rw[d.len]);(unfold maxLen;omega);omega;intro H G l b _;obtain⟨I,Y,Z,rfl⟩:=p.out.2.2.2 G H l b;have v:=af I;clear l b I);go_roundw;case rel=>exact⟨i+1,m+1,Y,Z,by omega,by omega,rfl,by go_num,v⟩
    case measure=>simp[intOf];omega
  ·have y:¬(i:Int)<L.length:=by omega
   obtain rfl:i=L.length:=by omega
   go_wp2;go_ret;obtain⟨q,h1,h2,h3,h4,h5,h6⟩:=J.out;rw[Dj]at h1;subst h2;exact⟨_,rfl,q,h1,h3,h4,h5,h6⟩
section
variable(ck pause:Int)
def AS.dueB(a:AS):Bool:=decide (a.open∧a.due≤ck)
def AU(L b:List AS):Prop:=b=L.map fun a=>if a.dueB ck=true then a.vain ck pause else a
end
structure AM where
 a:AS
 may:List SP
def RS.am(r:RS):AM:=⟨r.a,r.may⟩
def AM.after(m:AM)(b:Nat)(c pause:Int):AM:=if m.a.moves b=true then⟨m.a.go b,[(m.a.go b).S]⟩else⟨m.a.vain c pause,m.may⟩
def AM.cutA(m:AM)(b:Nat)(c pause:Int):AM:=if m.a.moves b=true then⟨m.a,m.may++[(m.a.go b).S]⟩else⟨m.a.vain c pause,m.may⟩
def r5(M:List AM):List AM:=(M.filter fun m=>decide (m.a.S.1≠0)).map fun m=>⟨m.a,[m.a.S]⟩
inductive ii (ck pause:Int) (fails io:Bool) (new:List (CL×Nat)):Nat→List AM→List AM→Bool→Prop
 |nil {k:Nat} (h0:io=false→k=new.length) (h5:io=true→fails=true∨new=[]):ii ck pause fails io new k [] [] io
 |skip {k:Nat} {m:AM} {M M':List AM} {f:Bool} (hw:m.a.dueB ck=false) (h:ii ck pause fails io new k M M' f):ii ck pause fails io new k (m::M) (m::M') f
 |vain {k:Nat} {m:AM} {M M':List AM} {f:Bool} (hw:m.a.dueB ck=true) (hf:fails=true) (h:ii ck pause fails io new k M M' f):ii ck pause fails io new k (m::M) (⟨m.a.vain ck pause,m.may⟩::M') f
 |stop {k:Nat} {m:AM} {M:List AM} (hw:m.a.dueB ck=true) (hf:fails=false) (hk:new=[]) (hio:io=true):ii ck pause fails io new k (m::M) (m::M) true
 |reply {k rp:Nat} {m:AM} {M M':List AM} {f:Bool} (hw:m.a.dueB ck=true) (hf:fails=false) (hlg:new[k]?=some (m.a.asks,rp)) (hr:rp≤2) (hc:io=true→k+1≠new.length) (h:ii ck pause fails io new (k+1) M M' f):ii ck pause fails io new k (m::M) (m.after rp ck pause::M') f
 |cut {k rp:Nat} {m:AM} {M:List AM} (hw:m.a.dueB ck=true) (hf:fails=false) (hlg:new[k]?=some (m.a.asks,rp)) (hr:rp≤2) (hio:io=true) (hk:k+1=new.length):ii ck pause fails io new k (m::M) (m.cutA rp ck pause::M) true
theorem ii.len{e pause:Int}{a g f:Bool}{c:List (CL×Nat)}{k:Nat}{M d:List AM}(h:ii e pause a g c k M d f):d.length=M.length:=by
 induction h with
 |nil=>rfl
 |skip _ _ b=>simp[b]
 |vain _ _ _ b=>simp[b]
 |stop=>rfl
 |reply _ _ _ _ _ _ b=>simp[b]
 |cut=>rfl
theorem vZ.am{L d:List RS}(h:vZ L d):d.map RS.am=r5 (L.map RS.am):=by
 induction h with
 |nil=>rfl
 |snoc h f c b=>
  unfold r5 at b⊢;rw[CV,CV,F9,CV,b];congr 1;obtain⟨g,n,o,i,j,k,l,m,p⟩:=f;rename_i r q;have e:decide (r.am.a.S.1≠0)=true:=Dg c;simp only[CY,Ed,FW,e,FH,List.filter_nil];simp only[RS.am,RS.a,g,i,j,k,l,m]
 |skip h c b=>
  unfold r5 at b⊢;rw[CV,F9,CV,b];rename_i r;have e:decide (r.am.a.S.1≠0)=false:=Dl (fun h=>h c);simp only[CY,Ed,FW,e,List.filter_nil];simp
def th(p:Int)(n:Nat)(nn:Bool)(a:Int)(s b:DS):Prop:=if p<1∨64<p then a=8 else if dY n=false then a=7 else a=0∨(a=5∧s.d.told<b.d.told)∨(a=6∧nn=true)
theorem y8{Post:Option Addr→Int→DS→World→Prop}{Qf:Addr→World→World→Prop}{S C:Nat→Prop}{w:World}{D A B n o k:Nat}{nn em fd:Bool}{x Lv:Value}{f clock:Int}{s:DS}{lo:Option Addr}{lm u:Nat}{pe pl pa:Value}(h:aH w D A o n nn em x f clock fd Lv)(T:DG w k A B n s C)(hP:w.heap[o]?=some (.cells #[.slice lo lm u,pe,pl,pa] 48 (0,0)))(U:D≠A∧D≠B∧¬C D)(hG:cN w)(ar:NG (fun b=>b=D))(au:NG S)(av:¬S D)(ax:¬S o)(p:Int)(hO:∀V,Fr (· =D) w V→Calls prog 33 #[.pointer (some ⟨A,0,none⟩),.int .i64 p,.pointer (some ⟨o,0,none⟩)] V fun e E=>∃l v m i k',e= .returned (.tuple #[.pointer l,v])∧oQ E v m∧(l=none↔m≠0)∧k'≤100000∧DG E k' A B n i C∧i.d.writes=s.d.writes∧i.ents.length=s.ents.length∧th p n nn m s i∧Post l m i E∧Fr S V E)(hF:∀y F N i,Post (some N) 0 i y→Fr (fun _=>False) y F→aH F D A o n nn em (.pointer none) f clock fd Lv→Calls prog 82 #[.pointer (some ⟨D,0,none⟩),.pointer (some N),.int .i64 p] F fun e E=>e= .returned (.bool true)∧Qf N F E):Calls prog 53 #[.pointer (some ⟨D,0,none⟩),.int .i64 p] w fun e E=>e= .returned (.bool true)∧∃V wS l m i,Fr (· =D) w V∧Fr S V wS∧th p n nn m s i∧Post l m i wS∧((m≠0∧l=none∧aH E D A o n nn em (.pointer none) f clock fd Lv∧Fr (fun _=>False) wS E)∨(m=0∧∃N F,l=some N∧Fr (fun _=>False) wS F∧aH F D A o n nn em (.pointer none) f clock fd Lv∧Qf N F E)):=by
 have ay:o≠D:=fun e=>by subst e;have:=hP.symm.trans h;simp at this
 have h1:=h.set5 (.pointer none);have G:Fr (· =D) w (w.setCell ⟨D,5,none⟩ (.pointer none)):=Fr.set1 _ _ _ _;have c5:=h.c5;have f5:=h.fz 5;obtain⟨W,HW⟩:=aw (w.setCell ⟨D,5,none⟩ (.pointer none));rw[←HW.out]at h1 G;have z:=T.fr G (fun e=>U.1 e.symm) (fun e=>U.2.1 e.symm) (fun b hb e=>U.2.2 (e▸hb));have h5:(Instr.storeAt 32 (.pointer (some ⟨D,5,none⟩)) (.pointer none)).run prog w= .ok () W:=by rw[HW.out];exact ah c5 f5 (by kernel_rfl) rfl
 have a7:=hG.fr G ar;have X:=G.keep hP ay;have az:=af G;have c0:=h1.c0;have c1:=h1.c1;have Y:W.cell? ⟨o,0,none⟩=some (.slice lo lm u):=(Cn W o 0 _ _ _ X).trans rfl;have Z:=z.told;have a0:=z.writes;have a1:=z.pend;obtain⟨wr,a8⟩:=aw s.d.writes;obtain⟨pd,a9⟩:=aw s.ents.length;obtain⟨td,a2⟩:=aw s.d.told;rw[←a8.out]at a0;rw[←a9.out]at a1;rw[←a2.out]at Z;have aJ:0≤td:=by rw[a2.out];exact T.1.t0
 clear h T c5 f5 HW G hP;go_enter func53,ntmps53;go_wp2_with (refine ae 32 (w':=W) _ _ rfl rfl ?_ ?_;exact h5);refine Z.mono ?_;rintro e V ⟨rfl,g⟩;rw[g];clear g;go_wp2_with fail;refine a0.mono ?_;rintro e aK ⟨rfl,g⟩;rw[g];clear g;go_wp2_with fail;refine a1.mono ?_;rintro e aL ⟨rfl,g⟩;rw[g];clear g Z a0 a1;go_wp2_with fail;have a3:=zl;obtain⟨q,I⟩:=aw W.drew;have P:aH q D A o n nn em (.pointer none) f clock fd Lv:=by rw[I.out];exact h1
 have aa:cN q:=by rw[I.out];exact a7
 have ab:q.heap[o]?=some (.cells #[.slice lo lm u,pe,pl,pa] 48 (0,0)):=by rw[I.out];exact X
 have ad:Hid (Fr (· =D) w q):=by rw[I.out];exact az.out.drew
 clear c0 c1 Y X h1 a7 z h5;let S0:World→Prop:=fun E=>E.cell? ⟨D,0,none⟩=some (.pointer (some ⟨A,0,none⟩))∧E.cell? ⟨D,1,none⟩=some (.pointer (some ⟨o,0,none⟩))
 have O:S0 q:=⟨P.c0,P.c1⟩;refine ET (S:=S0) a3 ?_;change wpAnyH _ _ _ _ S0 _ _ _ (World.drew _);rw[show W.drew=q from I.out.symm];refine bM 0 42 0 (.pointer (some ⟨D,0,none⟩)) rfl O ?_;refine d4 1 43 42 (.pointer (some ⟨D,0,none⟩)) rfl O ?_;refine bT 2 44 111 43 0 (.pointer (some ⟨D,0,none⟩)) rfl O ?_;refine cU 3 45 31 44 (.pointer (some ⟨A,0,none⟩)) ⟨D,0,none⟩ rfl (fun _ hs=>hs.1) underlying31 O ?_;refine bM 4 46 1 (.int .i64 p) rfl O ?_;refine bM 5 47 0 (.pointer (some ⟨D,0,none⟩)) rfl O ?_;refine d4 6 48 47 (.pointer (some ⟨D,0,none⟩)) rfl O ?_;refine bT 7 49 111 48 1 (.pointer (some ⟨D,1,none⟩)) rfl O ?_;refine cU 8 50 28 49 (.pointer (some ⟨o,0,none⟩)) ⟨D,1,none⟩ rfl (fun _ hs=>hs.2) underlying28 O ?_;simp only[Act.put,aC,aB,aE];refine dN 9 51 33 #[.tmp 45,.tmp 46,.tmp 50] #[.pointer (some ⟨A,0,none⟩),.int .i64 p,.pointer (some ⟨o,0,none⟩)] rfl ?_;refine(hO q ad.out).mono ?_;rintro e y ⟨l,v,m,i,k',rfl,hv,ag,aM,a4,ai,aj,j,J,K⟩;have h2:=P.fr K av;have ak:=aa.fr K au;have aN:=hv.1;have al:=hv.2 y (Fr.refl _ _) ak;have an:=K.keep ab ax;have r:S0 y:=⟨h2.c0,h2.c1⟩;refine⟨_,rfl,r,?_⟩;refine bM 10 41 51 (.tuple #[.pointer l,v]) rfl r ?_;refine kL 11 52 41 0 (.pointer l) rfl r ?_;refine kL 12 53 41 1 v rfl r ?_;refine mB 13 9 52 (.pointer l) rfl r ?_;refine mB 14 10 53 v rfl r ?_;simp only[Act.put,aC,aB,aE];refine dn ?_;have c:Hid (Fr (· =D) w q∧Fr S q y∧th p n nn m s i∧Post l m i y):=⟨ad.out,K,j,J⟩;have L:=af ag;have HE:Hid (i.d.writes=wr∧i.ents.length=pd):=⟨by rw[a8.out];exact ai,by rw[a9.out];exact aj⟩;have ao:=af a4;have aO:i.d.told≤100000000:=by have:=a4.1.t1;omega
 clear O r P aa ab hO J K j ag hv ai aj a4;go_wp2_with fail;refine al.mono ?_;rintro e F ⟨rfl,M⟩;have h3:=h2.fr M jI;have Q:=ao.out.fr M jI jI fI;have t:=af M;have ap:=M.keep an jI;have H:=Q.told;have a5:=Q.writes;have a6:=Q.pend;rw[HE.out.1]at a5;rw[HE.out.2]at a6;clear h2 ak M an al Q ao;go_wp2_with fail;refine(eS m _).mono ?_;rintro e w4 ⟨rfl,g⟩;rw[g];clear g;go_wp2_with fail;refine(oW h3).mono ?_;rintro e w5 ⟨rfl,g⟩;rw[g];clear g;have c0:=h3.c0;have c1:=h3.c1;have c3:=h3.c3;have Y:F.cell? ⟨o,0,none⟩=some (.slice lo lm u):=(Cn F o 0 _ _ _ ap).trans rfl;have H3:=af h3;go_wp2_with fail;refine a5.mono ?_;rintro e w6 ⟨rfl,g⟩;rw[g];clear g;go_wp2_with fail;refine a6.mono ?_;rintro e w7 ⟨rfl,g⟩;rw[g];clear g;clear h3 ap a5 a6;have j:=c.out.2.2.1;by_cases R:p<1∨64<p
 ·have aA:m=8:=by simpa[th,R]using j
  obtain rfl:l=none:=L.out.2 (by omega);subst aA;clear j H hF;rcases R with R|R
  ·go_wp2;go_ret;exact⟨rfl,q,y,none,8,i,c.out.1,c.out.2.1,c.out.2.2.1,c.out.2.2.2,.inl ⟨by decide,rfl,H3.out,t.out⟩⟩
  ·have aD:decide (p<1)=false:=by simp;omega
   go_wp2;go_ret;exact⟨rfl,q,y,none,8,i,c.out.1,c.out.2.1,c.out.2.2.1,c.out.2.2.2,.inl ⟨by decide,rfl,H3.out,t.out⟩⟩
 ·have aD:decide (p<1)=false:=by simp;omega
  have aP:decide (64<p)=false:=by simp;omega
  have aQ:¬p<1:=by omega
  have aR:¬64<p:=by omega
  cases hi:dY n
  ·have aF:m=7:=by simpa[th,R,hi]using j
   obtain rfl:l=none:=L.out.2 (by omega);subst aF;clear j H hF hi R;go_wp2;go_ret;exact⟨rfl,q,y,none,7,i,c.out.1,c.out.2.1,c.out.2.2.1,c.out.2.2.2,.inl ⟨by decide,rfl,H3.out,t.out⟩⟩
  ·have aG:m=0∨(m=5∧s.d.told<i.d.told)∨(m=6∧nn=true):=by simpa[th,R,hi]using j
   clear j hi R;rcases aG with rfl|⟨rfl,aI⟩|⟨rfl,rfl⟩
   ·obtain⟨N,rfl⟩:∃a,l=some a:=by
     cases hx:l with
     |none=>exact absurd rfl (L.out.1 hx)
     |some a=>exact⟨a,rfl⟩
    go_wp2_with fail;refine H.mono ?_;rintro e w8 ⟨rfl,g⟩;rw[g];clear g;have aq:=hF y F N i c.out.2.2.2 t.out H3.out;clear c0 c1 c3 Y H hF;go_wp2_with fail;refine aq.mono ?_;rintro e w9 ⟨rfl,hq⟩;have HQ:=af hq;clear hq aq;go_wp2;go_ret;exact⟨rfl,q,y,some N,0,i,c.out.1,c.out.2.1,c.out.2.2.1,c.out.2.2.2,.inr ⟨rfl,N,F,rfl,t.out,H3.out,HQ.out⟩⟩
   ·obtain rfl:l=none:=L.out.2 (by omega);have aS:0<i.d.told-td:=by rw[a2.out];omega
    have aT:wrap64 (i.d.told-td)=i.d.told-td:=bN (by omega);have aU:decide (td<i.d.told)=true:=by simp;omega
    go_wp2_with fail;refine H.mono ?_;rintro e w8 ⟨rfl,g⟩;rw[g];clear g aI;go_wp2;go_ret;exact⟨rfl,q,y,none,5,i,c.out.1,c.out.2.1,c.out.2.2.1,c.out.2.2.2,.inl ⟨by decide,rfl,H3.out,t.out⟩⟩
   ·obtain rfl:l=none:=L.out.2 (by omega);go_wp2_with fail;refine H.mono ?_;rintro e w8 ⟨rfl,g⟩;rw[g];clear g;go_wp2;go_ret;exact⟨rfl,q,y,none,6,i,c.out.1,c.out.2.1,c.out.2.2.1,c.out.2.2.2,.inl ⟨by decide,rfl,H3.out,t.out⟩⟩
def uh(S:Nat→Prop)(w:World)(v:Value)(a:Int):Prop:=v.oneCell'=true∧∀W,Fr S w W→cN W→Calls prog 29 #[v] W fun e b=>e= .returned (.int .i64 a)∧Fr (fun _=>False) W b
theorem bZ.tellX{S:Nat→Prop}{w:World}{v:Value}{a:Int}(h:bZ w v a)(d:∀b c,w.heap[b]?=some (.cells c 119 (0,0))→¬S b):uh S w v a:=⟨h.one,fun _ e f=>mG (h.fr e d) f⟩
theorem eT.tellX{S:Nat→Prop}{w:World}{v:Value}(h:eT w v)(a:∀b c t,w.heap[b]?=some (.cells c t (0,0))→t=262∨t=119→¬S b):uh S w v 5:=by
 have d:v.oneCell'=true:=by obtain⟨f,t,g,rfl,_⟩:=h;rfl
 exact⟨d,fun W e i=>eT.told (h.fr e a) i⟩
def dt(l:List SP):List Value:=(l.map wy).flatten
theorem jc(a b:List SP):dt (a++b)=dt a++dt b:=by simp[dt]
def cm(w:World)(b:Nat)(r:RS):Prop:=w.ownsRow b 220 2 (.slice r.ma r.may.length r.mc) r.may.length (dt r.may)
theorem cm.rows{w:World}{b:Nat}{r:RS}(h:cm w b r):aY w r.ma 2 (r.may.map wy):=fL h (fun x a=>by simp only[Cx]at a;obtain⟨p,_,rfl⟩:=a;rfl) (by simp)
def RS.mb(r:RS)(b:Nat):Prop:=∃o s,r.ma=some ⟨b,o,s⟩
theorem cm.fr{S:Nat→Prop}{w d:World}{b:Nat}{r:RS}(h:cm w b r)(f:Fr S w d)(i:∀g,r.mb g→¬S g):cm d b r:=by
 refine⟨h.1,?_⟩;rcases h.2 with j|⟨g,a,c,e,k,l,rest⟩
 ·exact .inl j
 ·refine .inr ⟨g,a,c,e,k,f.keep l (i g ⟨0,none,?_⟩),rest⟩;simp at e;exact e.1
theorem gz.o{b:Nat}{w:World}{r:RS}(h:gz b w r)(a:r.may=[r.S])(c:r.mc=1):cm w b r:=by obtain⟨g,d,e,f⟩:=h;unfold cm;rw[a,c,e];exact⟨rfl,.inr ⟨g,1,_,rfl,d,f,Cs _,by decide,rfl,rfl⟩⟩
structure LG(w:World)(b:Nat)(Lv:Value)(L:List RS):Prop where
 o:w.ownsRow b 223 7 Lv L.length (az L)
 s:∀r∈L,cC w b r.sa r.sc r.st
 m:∀r∈L,cm w b r
 ne:L.Pairwise kt
 n:∀r∈L,r.st.length≤100000
theorem LG.fr{S:Nat→Prop}{w g:World}{b:Nat}{Lv:Value}{L:List RS}(h:LG w b Lv L)(d:Fr S w g)(e:∀b c t,w.heap[b]?=some (.cells c t (0,0))→t=223∨t=165∨t=220→¬S b):LG g b Lv L:=⟨bP h.o d (fun b c a=>e b c _ a (.inl rfl)),fun r f=>(h.s r f).fr d (fun b c a=>e b c _ a (.inr (.inl rfl))),fun r f=>bP (h.m r f) d (fun b c a=>e b c _ a (.inr (.inr rfl))),h.ne,h.n⟩
theorem LG.frz{w a:World}{b:Nat}{Lv:Value}{L:List RS}(h:LG w b Lv L)(c:Fr (fun _=>False) w a):LG a b Lv L:=h.fr c (fun _ _ _ _ _ h=>h)
theorem LG.sagas{w:World}{b:Nat}{d:Option Addr}{c:Nat}{L:List RS}(h:LG w b (.slice d L.length c) L):cO w d L:=⟨kg h.o,fun r a=>(h.s r a).rows,fun r a=>(h.m r a).rows,fun r a=>by have:=h.n r a;omega⟩
section
variable{w:World}{D A Pp n:Nat}{nn em fd:Bool}{x Lv:Value}{pause clock:Int}
theorem gL(h:aH w D A Pp n nn em x pause clock fd Lv):w.rangeAt D 6 [.int .i64 pause,.int .i64 clock,.bool fd,Lv]:=by
 intro j v a;match j,a with
 |0,a=>simp at a;subst a;exact h.c6
 |1,a=>simp at a;subst a;exact h.c7
 |2,a=>simp at a;subst a;exact h.c8
 |3,a=>simp at a;subst a;exact h.c9
theorem fo(a:Bool)(v:Value)(h:aH w D A Pp n nn em x pause clock fd Lv)(b:v.oneCell'=true:=by rfl):(Instr.storeAt 109 (.pointer (some ⟨D,6,none⟩)) (.agg #[.int .i64 pause,.int .i64 clock,.bool a,v])).run prog w= .ok () (w.setRow D (lg A Pp n nn em x pause clock a v))∧aH (w.setRow D (lg A Pp n nn em x pause clock a v)) D A Pp n nn em x pause clock a v:=by have:=au (P:=prog) (o:=6) (ty:=109) (cur:=(lg A Pp n nn em x pause clock fd Lv).toList) (vs:=[.int .i64 pause,.int .i64 clock,.bool a,v]) h (by simp[lg]) (by simpa[Value.oneCell']using b) (by kernel_rfl);exact⟨this,CA _ _ _ _ _ _ h⟩
end
def zY(Acc:Int→Int→Prop)(a:Int→World→Prop)(S T:Nat→Prop)(A g:Nat)(w:World)(e:Ending)(d:World):Prop:=∃v f c,e= .returned v∧uh (· =g) d v f∧Acc f c∧(∀W,Fr (fun b=>T b∨b=g) d W→Calls prog 37 #[.pointer (some ⟨A,0,none⟩)] W fun e h=>e= .returned (.int .i64 c)∧h=W)∧a f d∧Fr S w d
def Ay(a:Int→World→Prop)(D A Pp n:Nat)(nn em:Bool)(x:Value)(pause clock:Int)(fd:Bool)(Lv:Value)(f:Int)(w:World)(e:Ending)(d:World):Prop:=e= .returned (.bool true)∧∃c g,a f c∧w.heap.size≤g∧(∃cs,c.heap[g]?=some (.cells cs 58 (0,0)))∧Fr (fun b=>b=D∨b=g) c d∧aH d D A Pp n nn em x pause clock fd Lv
def xx(a:Int→World→Prop)(c:List RS)(D A Pp n:Nat)(nn em:Bool)(x:Value)(pause clock:Int)(fd:Bool)(mb:Nat→Prop)(i:Option Addr)(k:Nat)(id:Int)(st:List SS)(f:World→RS→Prop)(l:Int)(w:World)(e:Ending)(d:World):Prop:=e= .returned (.bool true)∧∃h g,a l h∧w.heap.size≤g∧(∃cs,h.heap[g]?=some (.cells cs 58 (0,0)))∧Fr (fun b=>b=D∨b=g∨mb b) h d∧∃j t v s,fM c id j t∧aH d D A Pp n nn em x pause clock fd v∧d.ownsRow w.heap.size 223 7 v (c.length+1) (az (c.take j++s::c.drop j))∧s.id=id∧s.sa=i∧s.sc=k∧s.st=st∧s.tries=0∧s.due=0∧f d s
theorem nI{w:World}{D A Pp n:Nat}{nn em fd:Bool}{x Lv:Value}{pause clock:Int}(h:aH w D A Pp n nn em x pause clock fd Lv)(r:RS)(reply:Int)(h2:1≤r.S.2)(h3:r.S.2≤6)(h0:0≤r.tries)(h1:r.tries≤1000000)(a5:0≤clock)(a6:clock≤1000000)(a7:1≤pause)(a8:pause≤64):Calls prog 134 #[.pointer (some ⟨D,0,none⟩),.agg r.cs.toArray,.int .i64 reply,.bool false] w fun e C=>∃r',e= .returned (.agg r'.cs.toArray)∧(if r.moves reply then ∃M,r'=r.turn reply M∧gz w.heap.size C r' else r'=r.vain clock pause)∧Fr (fun _=>False) w C:=by
 have HM:=fun C=>mH C r reply;have HV:=fun C=>lC C r clock pause h0 h1 a5 a6 a7 a8;have HN:=fun C=>o6 C r reply h2 h3;obtain⟨X,Y⟩:=aw (r.vain clock pause);obtain⟨nx,G⟩:=aw (r.next reply);rw[←Y.out]at HV;rw[←G.out]at HN;obtain⟨Z,HZ⟩:∃Z:List Value,Hid (Z=[.int .i64 0,.slice none 0 0,.int .i64 0,.int .i64 0,.int .i64 0,.int .i64 0,.slice none 0 0]):=⟨_,rfl⟩;obtain⟨W,Q⟩:=aw ((w.alloc (.cells #[.int .i64 r.id,.slice r.sa r.st.length r.sc,.int .i64 r.S.1,.int .i64 r.S.2,.int .i64 r.tries,.int .i64 r.due,.slice r.ma r.may.length r.mc] 223)).alloc (.cells Z.toArray 223));have hF:Fr (fun _=>False) w W:=by rw[Q.out];exact((Fr.refl _ _).alloc _).alloc _
 have r0:aQ W w.heap.size r:=by unfold aQ;rw[Q.out,ai _ _ _ (by simp)];exact aa _ _
 have r1:W.heap[w.heap.size+1]?=some (.cells Z.toArray 223 (0,0)):=by rw[Q.out];exact Di w _ _
 have a0:Z.length=7:=by rw[HZ.out];rfl
 rw[HZ.out]at Q;unfold RS.cs at*
 go_enter func134,ntmps134;go_wp2_with fail;rw[←Q.out];refine(HM W).mono ?_;rintro e w2 ⟨rfl,p⟩;have k:=hF.trans p fI;have b2:aQ w2 w.heap.size r:=p.keep r0 jI;have z2:=p.keep r1 jI;have H:=h.fr k jI;obtain⟨s0,s1,s2,s3,s4,s5,s6⟩:=b2.c;have c6:=H.c6;have c7:=H.c7;clear Q hF r0 r1 p H h;by_cases hm:r.moves reply=true
 ·rw[hm];clear HV;go_wp2_with fail;refine(HN w2).mono ?_;rintro e q ⟨rfl,a⟩;have b3:aQ q w.heap.size r:=a.keep b2 jI;have R:=a.keep z2 jI;have l:=k.trans a fI;clear s0 s1 s2 s3 s4 s5 s6 c6 c7 b2 z2 k a;have a1:=aa q (.cells #[.int .i64 nx.1,.int .i64 nx.2] 220);have d:Fr (fun _=>False) q (q.alloc (.cells #[.int .i64 nx.1,.int .i64 nx.2] 220)):=(Fr.refl _ _).alloc _;have b4:aQ (q.alloc (.cells #[.int .i64 nx.1,.int .i64 nx.2] 220)) w.heap.size r:=d.keep b3 jI;have T:=d.keep R jI;have ab:=lt_of_heap R;obtain⟨a2,b5⟩:=kD nx b4;obtain⟨U,I⟩:=aw ((q.alloc (.cells #[.int .i64 nx.1,.int .i64 nx.2] 220)).setRow w.heap.size ({r with S:=nx}:RS).cs.toArray);have s:Fr (fun b=>b=w.heap.size) (q.alloc (.cells #[.int .i64 nx.1,.int .i64 nx.2] 220)) U:=by rw[I.out];exact Fr.setRow (S:=fun b=>b=w.heap.size) (Fr.refl _ _) _ (fun _=>rfl) _
  rw[←I.out]at a2 b5;have n5:=s.keep a1 (by omega);have z5:=s.keep T (by omega);have a3:=(l.trans d fI).trans s (fun b hb h=>by omega);have t0:U.cell? ⟨q.heap.size,0,none⟩=some (.int .i64 nx.1):=(Cn _ _ 0 _ _ _ n5).trans rfl;have t1:U.cell? ⟨q.heap.size,1,none⟩=some (.int .i64 nx.2):=(Cn _ _ 1 _ _ _ n5).trans rfl;obtain⟨M,J⟩:=aw U.heap.size;obtain⟨E,t⟩:=aw (U.alloc (.cells #[.int .i64 nx.1,.int .i64 nx.2] 220));have u:=j9 t;have b6:aQ E w.heap.size {r with S:=nx}:=u.keep b5 jI;have z6:=u.keep z5 jI;have m6:E.heap[M]?=some (.cells #[.int .i64 nx.1,.int .i64 nx.2] 220 (0,0)):=by rw[t.out,J.out];exact aa _ _
  have ad:w.heap.size+1<M:=by rw[J.out];exact lt_of_heap z5
  obtain⟨L,y⟩:=aw (E.setCell ⟨w.heap.size,6,none⟩ (.slice (some ⟨M,0,none⟩) 1 1));have h7:(Instr.storeAt 221 (.pointer (some ⟨w.heap.size,6,none⟩)) (.slice (some ⟨M,0,none⟩) 1 1)).run prog E= .ok () L:=by rw[y.out];exact ah b6.c.2.2.2.2.2.2 (b6.fz 6) (by kernel_rfl) rfl
  have b7:aQ L w.heap.size {r with S:=nx,ma:=some ⟨M,0,none⟩,mc:=1,may:=[nx]}:=by rw[y.out];exact ag E w.heap.size 6 _ _ _ b6
  have f7:Fr (fun b=>b=w.heap.size) E L:=by rw[y.out];exact Fr.setCell (S:=fun b=>b=w.heap.size) (Fr.refl _ _) _ (fun _=>rfl) _
  obtain⟨N,z⟩:=aw (L.setCell ⟨w.heap.size,4,none⟩ (.int .i64 0));have h8:(Instr.storeAt 3 (.pointer (some ⟨w.heap.size,4,none⟩)) (.int .i64 0)).run prog L= .ok () N:=by rw[z.out];exact ah b7.c.2.2.2.2.1 (b7.fz 4) (by kernel_rfl) rfl
  have b8:aQ N w.heap.size {r with S:=nx,ma:=some ⟨M,0,none⟩,mc:=1,may:=[nx],tries:=0}:=by rw[z.out];exact ag L w.heap.size 4 _ _ _ b7
  have f8:Fr (fun b=>b=w.heap.size) E N:=by rw[z.out];exact f7.setCell _ (fun _=>rfl) _
  obtain⟨O,B⟩:=aw (N.setCell ⟨w.heap.size,5,none⟩ (.int .i64 0));have h9:(Instr.storeAt 3 (.pointer (some ⟨w.heap.size,5,none⟩)) (.int .i64 0)).run prog N= .ok () O:=by rw[B.out];exact ah b8.c.2.2.2.2.2.1 (b8.fz 5) (by kernel_rfl) rfl
  obtain⟨rt,m⟩:=aw (r.turn reply M);have b9:aQ O w.heap.size rt:=by rw[B.out,m.out,RS.turn,←G.out];exact ag N w.heap.size 5 _ _ _ b8
  have f9:Fr (fun b=>b=w.heap.size) E O:=by rw[B.out];exact f8.setCell _ (fun _=>rfl) _
  have z9:=f9.keep z6 (by omega);have m9:=f9.keep m6 (by omega);have a4:=(a3.trans u fI).trans f9 (fun b hb h=>by omega);have i:=gM (r:=rt) z9 a0;have o:=CA O (w.heap.size+1) _ rt.cs.toArray 223 (0,0) z9;obtain⟨F,j⟩:=aw (O.setRow (w.heap.size+1) rt.cs.toArray);have V:Fr (fun b=>b=w.heap.size+1) O F:=by rw[j.out];exact Fr.setRow (S:=fun b=>b=w.heap.size+1) (Fr.refl _ _) _ (fun _=>rfl) _
  rw[←j.out]at i o;have f:Hid (zP F rt∧Fr (fun _=>False) w F∧w.heap.size≤M):=⟨⟨M,by rw[m.out];rfl,by rw[m.out];show F.heap[M]?=some (.cells #[.int .i64 (r.next reply).1,.int .i64 (r.next reply).2] 220 (0,0));rw[←G.out];exact V.keep m9 (by omega)⟩,a4.trans V (fun b hb h=>by omega),by omega⟩;rw[t.out,J.out]at h7;obtain⟨p0,p1,p2,p3,p4,p5,p6⟩:=b9.c;unfold RS.cs at i;clear a1 d b4 T b5 s n5 z5 a3 u b6 z6 m6 b7 f7 b8 f8 b9 f9 z9 m9 a4 j V B z y t I b3 R l HN HM;go_wp2_with (first
   |(refine ae 220 (w':=U) _ _ rfl rfl ?_ ?_;exact a2)
   |(refine ae 221 (w':=L) _ _ rfl rfl ?_ ?_;exact h7)
   |(refine ae 3 (w':=N) _ _ rfl rfl ?_ ?_;exact h8)
   |(refine ae 3 (w':=O) _ _ rfl rfl ?_ ?_;exact h9)
   |(refine ae 223 (w':=F) _ _ rfl rfl ?_ ?_;exact i))
  refine CJ (v:= .agg rt.cs.toArray) (Dd Tryz.results134 _ _ (w.heap.size+1) 223 _ (0,0) _ rfl o underlying223 rfl (by kernel_rfl)) rfl ?_;refine⟨rt,rfl,?_,f.out.2.1⟩;refine⟨⟨M,m.out⟩,?_⟩;obtain⟨g,e,hg⟩:=f.out.1;have e2:rt.ma=some ⟨M,0,none⟩:=by rw[m.out];rfl
  refine⟨g,?_,e,hg⟩;rw[e2]at e;simp at e;have:=f.out.2.2;omega
 ·have a9:r.moves reply=false:=by simpa using hm
  rw[a9];clear HN;go_wp2_with fail;refine wp_region_still_tail 11 (by kernel_rfl) (by kernel_rfl) (Bx.out ?_);simp only[CW,Dc,CQ,D2];repeat(refine bu (fun K hK=>?_);go_simp;refine hK _ ?_;clear hK K)
  refine bI ?_;obtain⟨W3,P⟩:=aw w2.drew;have a:=eG P;rw[ww P];have R:=a.keep z2 jI;have l:=k.trans a fI;clear s0 s1 s2 s3 s4 s5 s6 c6 c7 b2 z2 k a P;go_wp2_with fail;refine(HV W3).mono ?_;rintro e w4 ⟨rfl,d⟩;have T:=d.keep R jI;have i:=gM (r:=X) T a0;have o:=CA w4 (w.heap.size+1) _ X.cs.toArray 223 (0,0) T;obtain⟨F,j⟩:=aw (w4.setRow (w.heap.size+1) X.cs.toArray);have V:Fr (fun b=>b=w.heap.size+1) w4 F:=by rw[j.out];exact Fr.setRow (S:=fun b=>b=w.heap.size+1) (Fr.refl _ _) _ (fun _=>rfl) _
  rw[←j.out]at i o;have f:=af ((l.trans d fI).trans V (fun b hb h=>by omega));unfold RS.cs at i;clear R T l d j V HV HM;go_wp2_with (refine ae 223 (w':=F) _ _ rfl rfl ?_ ?_;exact i);refine CJ (v:= .agg X.cs.toArray) (Dd Tryz.results134 _ _ (w.heap.size+1) 223 _ (0,0) _ rfl o underlying223 rfl (by kernel_rfl)) rfl ?_;exact⟨X,rfl,Y.out,f.out⟩
section
variable{P:Program}(w:World)
theorem oY(s:Nat)(t ty e:TypeId)(i:TypeInfo)(z:Value)(size bytes:Nat)(C:P.underlying t=some (.slice e))(hi:P.info? e=some i)(I:i.zero=some z)(p:i.size=size)(D:i.bytes=bytes)(v:Value)(n:Nat)(J:List Value)(h:w.ownsRow s e size v n J)(a:Addr)(m c:Nat)(b:List Value)(A:b.length=m*size)(d:∀j u,b[j]?=some u→w.cell? (a.add j)=some u)(K:∀u∈b,u.oneCell'=true)(E:n+m≤maxLen)(f:(n+m)*bytes≤140737488355328)(S:m≠0){F:Value}{L:World}(o:(Builtin.append_ #[t,t] ty #[v,.slice (some a) m c]).run P w= .ok F L):F.ownBlock=v.ownBlock∨F.ownBlock=some w.heap.size:=by
 subst p;subst D;have B:n+m≤9223372036854775807:=by simp only[maxLen]at E;omega
 rcases h.2 with⟨rfl,rfl⟩|⟨g,q,x,rfl,M,N,O,Q,G,H⟩
 ·have k:=run_append_nil (P:=P) w t ty e i z C hi I a m c b A d (by omega) (by omega) (by have R:=f;simp only[D5]at R;omega);rw[k]at o;simp only[Result.ok.injEq]at o;rw[←o.1];exact .inr rfl
 ·by_cases l:n+m≤q
  ·have y:n*i.size+b.length≤x.size:=by rw[A,G,←Nat.add_mul];exact Nat.mul_le_mul_right _ l
   have k:=run_append_room (P:=P) w t ty e i C hi g n q x N a m c b A d K l y;rw[k]at o;simp only[Result.ok.injEq]at o;rw[←o.1];exact .inl rfl
  ·have r:=h.cells (g:=g) rfl;have k:=run_append_grow (P:=P) w t ty e i z C hi I ⟨g,0,none⟩ n q J h.1 r a m c b A d (by omega) (by omega) (growslice_fits (by omega) f);rw[k]at o;simp only[Result.ok.injEq]at o;rw[←o.1];exact .inr rfl
theorem kz{r:Array Oper}{rest:List Oper}{o:Oper}{a:Act}{Q:Exit→Act→World→Prop}(E:o.guard=none)(s x:Operand)(t:TypeId)(M:o.op= .call {callee:= .builtin .append,args:=#[s,x],argTypes:=#[t,t]})(d:Nat)(e:TypeId)(i:TypeInfo)(z:Value)(size bytes:Nat)(H:P.underlying t=some (.slice e))(hi:P.info? e=some i)(I:i.zero=some z)(g:i.size=size)(y:i.bytes=bytes)(F:z.cells.size=size)(G:0<size)(v:Value)(n:Nat)(C:List Value)(N:a.eval s=v)(l:w.ownsRow d e size v n C)(D:Addr)(m c:Nat)(b:List Value)(O:a.eval x= .slice (some D) m c)(J:b.length=m*size)(k:∀j u,b[j]?=some u→w.cell? (D.add j)=some u)(K:∀u∈b,u.oneCell'=true)(A:n+m≤maxLen)(f:(n+m)*bytes≤140737488355328)(p:d≤w.heap.size)(R:m≠0)(h:∀q B,B.ownsRow d e size q (n+m) (C++b)→w.grownBy B v.ownBlock→(q.ownBlock=v.ownBlock∨q.ownBlock=some w.heap.size)→wpList P r Q rest (a.put o.dst q) B):wpList P r Q (o::rest) a w:=FX E fun _ S=>by obtain⟨q,B,L,T,U,_⟩:=run_append_own (P:=P) w d t o.type e i z size bytes H hi I g y F G v n C l D m c b J k K A f p;have V:=oY (P:=P) w d t o.type e i z size bytes H hi I g y v n C l D m c b J k K A f R L;unfold Oper.wp execOp;simp only[M,resolve,invoke,builtin,D9,Du,CS,EC,CY,Ed,N,O,L];exact S _ _ (h q B T U V)
end
end Go.Proofs.YteebjgfalllbjaaGreatDoor
