import Derived.Test.YteebjgfalllbjaaGreatDoorK26
import Derived.Test.YteebjgfalllbjaaGreatDoorK29
namespace Go.Proofs.YteebjgfalllbjaaGreatDoor
open Go.RowKit Go.Proofs.Tryz
set_option maxRecDepth 100000
set_option maxHeartbeats 4000000
def oH(w:World)(a:Option Addr)(b:List Int):Prop:=∀(i:Nat) (z:Int),b[i]?=some z→∃g off,a=some ⟨g,off,none⟩∧w.cell? ⟨g,off+i,none⟩=some (.int .i64 z)
structure tM(w:World)(J V A B n base:Nat)(a:Value)(s:DS)(e:Int)(sb:Bool):Prop where
 v:aZ w V A n
 d:bi w A B n base a s
 j:ed w J V e sb
def br(sb:Bool)(s:DS)(e:Nat):Bool×DS:=if sb=true then(true,s)else s.put e zB
def dI(sb:Bool)(s:DS)(e:Nat)(blk:List Value):Bool×DS:=if(br sb s e).1=true then(br sb s e).2.put e blk else(false,(br sb s e).2)
def Hi(base A B J:Nat):Prop:=1<base∧base≤A∧base≤B∧base≤J
def dU(A B J:Nat)(a:Value)(b:Nat):Prop:=fK A B a b∨b=J
section
variable{w w':World}{J V A B n base e:Nat}{a:Value}{s:DS}{sb:Bool}
theorem tM.frz{e:Int}(h:tM w J V A B n base a s e sb)(b:Fr (fun _=>False) w w'):tM w' J V A B n base a s e sb:=⟨h.v.fr b id,h.d.frz b,h.j.fr b id⟩
theorem tM.fr{e:Int}{S:Nat→Prop}(h:tM w J V A B n base a s e sb)(c:Fr S w w')(f:∀b,dU A B J a b∨b=V→¬S b):tM w' J V A B n base a s e sb:=⟨h.v.fr c (f _ (.inr rfl)),h.d.fr c (fun b g=>f b (.inl (.inl g))),h.j.fr c (f _ (.inl (.inr rfl)))⟩
theorem CB.trans{w d:World}{c c1 c2:Value}(h:CB w c c1)(g:CB d c1 c2)(j:w.heap.size≤d.heap.size):CB w c c2:=fun b i=>by
 rcases g b i with f|f
 ·exact h b f
 ·right;omega
theorem CB.refl(w:World)(c:Value):CB w c c:=fun _ h=> .inl h
theorem yj{w f g:World}{c c1:Value}(j:Fr (dU A B J c) w f)(k:CB w c c1)(d:Fr (dU A B J c1) f g):Fr (dU A B J c) w g:=j.trans d (fun b l h=>by
 rcases h with(h|h|h)|h
 ·exact .inl (.inl h)
 ·exact .inl (.inr (.inl h))
 ·rcases k b h with i|i
  ·exact .inl (.inr (.inr i))
  ·omega
 ·exact .inr h)
theorem oL(c:cN w)(b:Hi base A B J)(h:bi w A B n base a s)(d:Fr (dU A B J a) w w'):cN w':=c.fr d (fun g f=>by
 have:=f.le;rintro((e|e|e)|e)
 ·have:=b;unfold Hi at this;omega
 ·have:=b;unfold Hi at this;omega
 ·have:=(h.q.o.lt _ e).1;have:=b.1;omega
 ·have:=b;unfold Hi at this;omega)
def qn(ok:Bool)(w':World)(v:Value)(P Q:Prop):Prop:=gp ok (v= .nilIface∧P) (Q∧∃g,v=eg g∧dH w' g)
theorem mP(h:tM w J V A B n base a s e sb)(hH:Hi base A B J)(hq:s.d.Q)(K:s.ents.length<900000)(he:e<n)(HI:li e)(hG:cN w):Calls prog 91 #[.pointer (some ⟨J,0,none⟩)] w fun L w'=>∃v i,L= .returned v∧bi w' A B n base i (br sb s e).2∧CB w a i∧aZ w' V A n∧Fr (dU A B J a) w w'∧qn (br sb s e).1 w' v (ed w' J V e true) (ed w' J V e false):=by
 have a0:=re;have x:Fr (fun _=>False) w (w.alloc (.cells #[.pointer (some ⟨J,0,none⟩)] 87)):=(Fr.refl _ _).alloc _;have M:=aa w (.cells #[.pointer (some ⟨J,0,none⟩)] 87);have z:=h.frz x;have c2:=z.j.c2;have a1:=lt_of_heap h.j;have a2:=h.d.d.lt;have a3:=lt_of_heap h.d.r.1;have a4:=lt_of_heap h.v;have N:=fun b p=>(h.d.q.o.lt b p).2;cases sb
 ·have hT:=jX (w:=w.alloc (.cells #[.pointer (some ⟨J,0,none⟩)] 87)) (f:=138) (caps:=#[.pointer (some ⟨w.heap.size,0,none⟩)]) (Q:=fun v w'=>∃i,bi w' A B n base i (br false s e).2∧CB w a i∧aZ w' V A n∧Fr (dU A B J a) w w'∧qn (br false s e).1 w' v (ed w' J V e true) (ed w' J V e false)) (fun _=>by kernel_rfl) (by
   have C:Fr (fun _=>False) (w.alloc (.cells #[.pointer (some ⟨J,0,none⟩)] 87)) ((w.alloc (.cells #[.pointer (some ⟨J,0,none⟩)] 87)).alloc (.cells #[.nilIface] 36)):=(Fr.refl _ _).alloc _;have O:=z.frz C;have D:=x.trans C fI;refine(qU (C.keep M jI) O.j O.v O.d hq K he HI (hG.fr D ka) (fun g hg e=>by have e:=e;have:=hg.le;have:=hH;unfold Hi at this;omega)).mono ?_;rintro L w1 ⟨k,P,R,v1,f1,r1⟩;have S:∀b,w.heap.size≤b→¬(fK A B a b∨b=J):=by
    rintro b p ((e|e|e)|e)
    ·omega
    ·omega
    ·have:=N b e;omega
    ·omega
   have T:=f1.keep (aa _ _) (S _ (by simp));have y:CB w a k:=fun b p=>(R b p).imp_right (fun h=>Ct D.size h);have E:Fr (dU A B J a) w w1:=(D.mono (fun _ _ h=>h.elim)).trans f1 fI;have l:∀(u:World) (v:Value),Fr (fun b=>b=w.heap.size+1) u (u.setCell ⟨(w.alloc (.cells #[.pointer (some ⟨J,0,none⟩)] 87)).heap.size,0,none⟩ v):=fun u v=>by have:=Fr.set1 u (w.alloc (.cells #[.pointer (some ⟨J,0,none⟩)] 87)).heap.size 0 v;simpa using this
   have F:∀{u:World} {s':DS},bi u A B n base k s'→u.heap[(w.alloc (.cells #[.pointer (some ⟨J,0,none⟩)] 87)).heap.size]?=some (.cells #[.nilIface] 36 (0,0))→∀b,fK A B k b→¬b=w.heap.size+1:=by
    intro u s' hu U b p e;subst e;have G:u.heap[w.heap.size+1]?=some (.cells #[.nilIface] 36 (0,0)):=by simpa using U
    exact hu.not G (by decide) p
   refine⟨T,?_⟩;have a5:br false s e=s.put e zB:=rfl;rcases r1.out with⟨ok,rfl,W⟩|⟨bad,W,g,rfl,I⟩
   ·refine .inl ⟨_,rfl,rfl,k,P.fr (l _ _) (F P T),y,v1.fr (l _ _) (by omega),(E.trans (l _ _) (fun b p h=>by omega)),gp.pos ok ⟨rfl,W.fr (l _ _) (by omega)⟩⟩
   ·refine .inr ⟨g,rfl,oL hG hH h.d E,fun w2 m=>?_⟩;have H:=m.keep T jI;have d2:=P.frz m;refine⟨k,d2.fr (l _ _) (F d2 H),y,(v1.fr m id).fr (l _ _) (by omega),((E.trans (m.mono (fun _ _ h=>h.elim)) fI).trans (l _ _) (fun b p h=>by omega)),gp.neg bad ⟨(W.fr m id).fr (l _ _) (by omega),g,rfl,?_⟩⟩;refine(I.fr m (fun _ _ _ _ _ h=>h)).fr (l _ _) (fun b c t p I e=>?_);subst e;have X:w2.heap[w.heap.size+1]?=some (.cells #[.nilIface] 36 (0,0)):=by simpa using H
    rw[X]at p;simp at p;rw[←p.2]at I;revert I;decide)
  clear x M z;go_enter func91,ntmps91;go_wp2_with fail;refine hT.mono ?_;rintro L w1 ⟨v,rfl,hQ⟩;have Y:=af hQ;clear hT hQ;go_wp2;go_ret;obtain⟨Z,q⟩:=Y.out;exact⟨_,Z,rfl,q⟩
 ·have Y:Hid (∃i,bi (w.alloc (.cells #[.pointer (some ⟨J,0,none⟩)] 87)) A B n base i (br true s e).2∧CB w a i∧aZ (w.alloc (.cells #[.pointer (some ⟨J,0,none⟩)] 87)) V A n∧Fr (dU A B J a) w (w.alloc (.cells #[.pointer (some ⟨J,0,none⟩)] 87))∧qn (br true s e).1 (w.alloc (.cells #[.pointer (some ⟨J,0,none⟩)] 87)) .nilIface (ed (w.alloc (.cells #[.pointer (some ⟨J,0,none⟩)] 87)) J V e true) (ed (w.alloc (.cells #[.pointer (some ⟨J,0,none⟩)] 87)) J V e false)):=⟨a,z.d,CB.refl _ _,z.v,x.mono (fun _ _ h=>h.elim),gp.pos rfl ⟨rfl,z.j⟩⟩;clear x M z;go_enter func91,ntmps91;go_wp2;go_ret;obtain⟨Z,q⟩:=Y.out;exact⟨_,Z,rfl,q⟩
theorem tT{blk:List Value}(h:tM w J V A B n base a s e sb)(hH:Hi base A B J)(hq:s.d.Q)(R:(br sb s e).2.d.Q)(ad:s.ents.length<800000)(he:e<n)(hn:n≤400)(HI:li e)(hG:cN w)(hl:blk.length=128)(a1:∀v∈blk,v.oneCell'=true):Calls prog 61 #[.pointer (some ⟨J,0,none⟩),.agg blk.toArray] w fun e' w'=>∃v i,e'= .returned v∧bi w' A B n base i (dI sb s e blk).2∧CB w a i∧aZ w' V A n∧Fr (dU A B J a) w w'∧qn (dI sb s e blk).1 w' v (ed w' J V ((e:Int)+1) true) (∃D,ed w' J V e D):=by
 have ae:=re;obtain⟨W,L⟩:=aw ((w.alloc (.cells #[.pointer (some ⟨J,0,none⟩)] 87)).alloc (.cells blk.toArray 130));have z:Fr (fun _=>False) w W:=by rw[L.out];exact((Fr.refl _ _).alloc _).alloc _
 have hx:W.heap[w.heap.size]?=some (.cells #[.pointer (some ⟨J,0,none⟩)] 87 (0,0)):=by rw[L.out,ai _ _ _ (by simp)];exact aa _ _
 have M:W.heap[w.heap.size+1]?=some (.cells blk.toArray 130 (0,0)):=by rw[L.out];exact Di w _ _
 have hA:=h.frz z;have cx:((w.alloc (.cells #[.pointer (some ⟨J,0,none⟩)] 87)).alloc (.cells blk.toArray 130)).cell? ⟨w.heap.size,0,none⟩=some (.pointer (some ⟨J,0,none⟩)):=by rw[←L.out];exact(Cn W _ 0 _ _ _ hx).trans rfl
 have ag:=lt_of_heap h.j;have ah:=h.d.d.lt;have aj:=lt_of_heap h.d.r.1;have ak:=lt_of_heap h.v;have a2:=fun b p=>(h.d.q.o.lt b p).2;have S:∀b,w.heap.size≤b→¬dU A B J a b:=by
  rintro b p ((e|e|e)|e)
  ·omega
  ·omega
  ·have:=a2 b e;omega
  ·omega
 have hs:=mP hA hH hq (by omega) he HI (hG.fr z ka);have a3:=hG;go_enter func61,ntmps61;go_wp2_with fail;rw[←L.out];refine hs.mono ?_;rintro e' y ⟨v1,m,rfl,T,a4,N,E,r1⟩;have x1:=E.keep hx (S _ (Cs _));have x2:=E.keep M (S _ (by omega));have F:CB w a m:=fun b p=>(a4 b p).imp_right (fun h=>Ct z.size h);have H:=(z.mono (fun _ _ h=>h.elim)).trans E fI;have a5:=oL hG hH h.d H;have ab:=lt_of_heap x2;have G:(br sb s e).2.ents.length<900000:=by
  unfold br DS.put DS.store DS.secure DS.fail;repeat' split
  all_goals simp
  all_goals omega
 rcases r1.out with⟨ok,rfl,j1⟩|⟨bad,j1,g,rfl,O⟩
 ·clear L z hx M hA cx hs E;have U:=fun b p=>(T.q.o.lt b p).2;have X:∀b,y.heap.size≤b→¬dU A B J m b:=by
   rintro b p ((e|e|e)|e)
   ·omega
   ·omega
   ·have:=U b e;omega
   ·omega
  have I:dI sb s e blk=(br sb s e).2.put e blk:=by unfold dI;rw[CE ok]
  obtain⟨s1,a6⟩:=aw ((br sb s e).2);rw[←a6.out]at T I R G;have hT:=jX (w:=y) (f:=93) (caps:=#[.pointer (some ⟨w.heap.size,0,none⟩),.pointer (some ⟨w.heap.size+1,0,none⟩)]) (Q:=fun v w'=>∃i,bi w' A B n base i (dI sb s e blk).2∧CB w a i∧aZ w' V A n∧Fr (dU A B J a) w w'∧qn (dI sb s e blk).1 w' v (ed w' J V ((e:Int)+1) true) (∃D,ed w' J V e D)) (fun _=>by kernel_rfl) (by
   have x:Fr (fun _=>False) y (y.alloc (.cells #[.nilIface] 36)):=(Fr.refl _ _).alloc _;refine(wU (x.keep x1 jI) (x.keep x2 jI) hl a1 (j1.fr x id) (N.fr x id) (T.frz x) R G he hn HI (a5.fr x ka) (fun g hg e=>by have e:=e;have:=hg.le;have:=hH;unfold Hi at this;omega)).mono ?_;rintro e' w2 ⟨l,d2,a7,v2,f2,r2⟩;have K:=F.trans (fun b p=>(a7 b p).imp_right (fun h=>Ct x.size h)) H.size;have P:=yj H F ((x.mono (fun _ _ h=>h.elim)).trans f2 fI);have hE:=f2.keep (aa _ _) (X _ (Cs _));have k:∀(u:World) (v:Value),Fr (fun b=>b=y.heap.size) u (u.setCell ⟨y.heap.size,0,none⟩ v):=fun u v=>Fr.set1 _ _ _ _;have Y:∀{u:World} {s':DS},bi u A B n base l s'→u.heap[y.heap.size]?=some (.cells #[.nilIface] 36 (0,0))→∀b,fK A B l b→¬b=y.heap.size:=by intro u s' hu a8 b p e;subst e;exact hu.not a8 (by decide) p
   rw[I];refine⟨hE,?_⟩;rcases r2.out with⟨a9,rfl,j2⟩|⟨Z,j2,g,rfl,O⟩
   ·exact .inl ⟨_,rfl,rfl,l,d2.fr (k _ _) (Y d2 hE),K,v2.fr (k _ _) (by omega),(P.trans (k _ _) (fun b p h=>by omega)),gp.pos a9 ⟨rfl,j2.fr (k _ _) (by omega)⟩⟩
   ·refine .inr ⟨g,rfl,oL a3 hH h.d P,fun w3 C=>?_⟩;have a0:=C.keep hE jI;have d3:=d2.frz C;refine⟨l,d3.fr (k _ _) (Y d3 a0),K,(v2.fr C id).fr (k _ _) (by omega),((P.trans (C.mono (fun _ _ h=>h.elim)) fI).trans (k _ _) (fun b p h=>by omega)),gp.neg Z ⟨⟨true,(j2.fr C id).fr (k _ _) (by omega)⟩,g,rfl,?_⟩⟩;refine(O.fr C (fun _ _ _ _ _ h=>h)).fr (k _ _) (fun b c t p O e=>?_);subst e;rw[a0]at p;simp at p;rw[←p.2]at O;revert O;decide)
  go_wp2_with fail;refine hT.mono ?_;rintro e' w3 ⟨v,rfl,hQ⟩;have HQ:=af hQ;clear hT hQ;go_wp2;go_ret;obtain⟨c',q⟩:=HQ.out;exact⟨_,c',rfl,q⟩
 ·have I:dI sb s e blk=(false,(br sb s e).2):=by unfold dI;rw[Cz bad]
  have HQ:Hid (∃i,bi y A B n base i (dI sb s e blk).2∧CB w a i∧aZ y V A n∧Fr (dU A B J a) w y∧qn (dI sb s e blk).1 y (eg g) (ed y J V ((e:Int)+1) true) (∃D,ed y J V e D)):=by rw[I];exact⟨m,T,F,N,H,gp.neg (by simp) ⟨⟨_,j1⟩,g,rfl,O⟩⟩
  clear L z hx M hA cx hs E T N j1 O;unfold eg at*
  go_wp2;go_ret;obtain⟨c',q⟩:=HQ.out;exact⟨_,c',rfl,q⟩
end
theorem jA(l:List UInt8):eQ (Lib.byteCells l):=fun v a=>by obtain⟨b,_,rfl⟩:=Cx.1 a;exact⟨b.toNat,b.toNat_lt,rfl⟩
theorem mL{n:Nat}(c:n≤400):eQ (bc n):=by
 intro v a;simp only[bc,je,Cv,CF,Dy,EF,Cx,D6]at a;rcases a with(rfl|rfl|rfl)|⟨b,_,rfl⟩|⟨_,rfl⟩
 ·exact⟨1,by decide,rfl⟩
 ·exact⟨n/256,by omega,Ej _ (by omega)⟩
 ·exact⟨n%256,by omega,Ej _ (by omega)⟩
 ·exact⟨b.toNat,b.toNat_lt,rfl⟩
 ·exact⟨0,by decide,rfl⟩
theorem pW{id n:Nat}{l:List SS}(c:id≤1000)(f:n≤6)(d:∀p∈l,p.1.size≤8∧p.2.size≤8)(i:Nat):eQ (be id n l i):=by
 intro v b;simp only[be,dD,gA,dR,zv,Cv,CF,Dy,EF,Ee,Cx,D6]at b;rcases b with(rfl|rfl|rfl)|⟨x,⟨q,e,rfl⟩,a⟩|⟨_,rfl⟩
 ·exact⟨id/256,by omega,rfl⟩
 ·exact⟨id%256,by omega,rfl⟩
 ·exact⟨n,by omega,rfl⟩
 ·have g:=d q (CU e);rcases CF.1 a with rfl|a
  ·exact⟨q.1.size*16+q.2.size,by omega,rfl⟩
  ·rcases Cv.1 a with a|a
   ·rcases Cv.1 a with a|a
    ·exact jA _ _ a
    ·exact⟨0,by decide,(D6.1 a).2⟩
   ·rcases Cv.1 a with a|a
    ·exact jA _ _ a
    ·exact⟨0,by decide,(D6.1 a).2⟩
 ·exact⟨0,by decide,rfl⟩
theorem yt{k:Nat}(d:k<256){b:List Value}(h:eQ b)(i:Nat):eQ (di k b i):=fun v c=>by
 simp only[di,iH,Cv,Ee,Cx,D6]at c;rcases c with⟨x,⟨j,_,rfl⟩,a⟩|⟨_,rfl⟩
 ·rcases CF.1 a with rfl|a
  ·exact⟨k,d,rfl⟩
  ·exact h v (D8 (CU a))
 ·exact⟨0,by decide,rfl⟩
theorem yW{id:Nat}{st:List SS}(h:aO (id:Int) st=true):eQ (ba.take id st).bytes:=by obtain⟨c,d,_,a,b⟩:=cZ id st h;exact yt (by decide) (pW (by omega) a (fC b) 6) 4
theorem zk{id r:Nat}(a:id≤1000)(b:r≤2):eQ (ba.move id r).bytes:=yt (by decide) (pW (l:=[]) a (Ct b (by decide)) (fun p c=>absurd c (by simp)) 0) 4
theorem DP.nx_add(d:DP)(a c:Nat):(d.nx a).nx c=d.nx (a+c):=by
 induction c with
 |zero=>rfl
 |succ c b=>show((d.nx a).nx c).next=(d.nx (a+c)).next;rw[b]
theorem DS.after_after(s:DS)(a c:Nat):(s.after a).after c=s.after (a+c):=by unfold DS.after;rw[DP.nx_add]
structure ph(w:World)(p z y x V J A B n base:Nat)(k tv fv:Value)(s:DS):Prop where
 x1:w.heap[p]?=some (.cells #[.pointer (some ⟨V,0,none⟩)] 155 (0,0))
 x2:w.heap[z]?=some (.cells #[.pointer (some ⟨J,0,none⟩)] 87 (0,0))
 x3:w.heap[y]?=some (.cells #[tv] 127 (0,0))
 x4:w.heap[x]?=some (.cells #[fv] 162 (0,0))
 s:t8 w J V A B n base k s 0
section
variable{w w':World}{p z y x V J A B n base:Nat}{k tv fv:Value}{s s':DS}
theorem ph.c1(h:ph w p z y x V J A B n base k tv fv s):w.cell? ⟨p,0,none⟩=some (.pointer (some ⟨V,0,none⟩)):=(Cn w p 0 _ _ _ h.x1).trans rfl
theorem ph.c2(h:ph w p z y x V J A B n base k tv fv s):w.cell? ⟨z,0,none⟩=some (.pointer (some ⟨J,0,none⟩)):=(Cn w z 0 _ _ _ h.x2).trans rfl
theorem ph.fr{S:Nat→Prop}(h:ph w p z y x V J A B n base k tv fv s)(a:Fr S w w')(b:¬S p)(c:¬S z)(d:¬S y)(e:¬S x)(f:¬S V)(g:¬S J)(i:bi w' A B n base k s'):ph w' p z y x V J A B n base k tv fv s':=⟨a.keep h.x1 b,a.keep h.x2 c,a.keep h.x3 d,a.keep h.x4 e,⟨h.s.v.fr a f,i,h.s.j.fr a g⟩⟩
theorem ph.frz(h:ph w p z y x V J A B n base k tv fv s)(a:Fr (fun _=>False) w w'):ph w' p z y x V J A B n base k tv fv s:=h.fr a id id id id id id (h.s.d.frz a)
theorem ph.ne(h:ph w p z y x V J A B n base k tv fv s):p≠A∧z≠A∧y≠A∧x≠A∧V≠A∧J≠A∧p≠J∧z≠J∧y≠J∧x≠J:=by
 have a:=h.s.d.d;have b:=h.s.j;refine⟨?_,?_,?_,?_,h.s.v.neK a,?_,?_,?_,?_,?_⟩<;>intro e
 ·rw[←e]at a;have:=a.symm.trans h.x1;simp at this
 ·rw[←e]at a;have:=a.symm.trans h.x2;simp at this
 ·rw[←e]at a;have:=a.symm.trans h.x3;simp at this
 ·rw[←e]at a;have:=a.symm.trans h.x4;simp at this
 ·rw[←e]at a;have:=a.symm.trans b;simp at this
 ·rw[←e]at b;have:=b.symm.trans h.x1;simp at this
 ·rw[←e]at b;have:=b.symm.trans h.x2;simp at this
 ·rw[←e]at b;have:=b.symm.trans h.x3;simp at this
 ·rw[←e]at b;have:=b.symm.trans h.x4;simp at this
end
theorem uF{a:List (List Value)}{tl:List Value}{w:World}{p z y x V J A B n base:Nat}{k tv fv:Value}{s:DS}(h:ph w p z y x V J A B n base k tv fv s)(hq:s.d.Q)(Y:(s.after 1).d.Q)(Z:8≤n)(hn:n≤400)(hL:yx n (bv s.bs s.ents) a tl)(a0:a.length<n)(H:∀r∈a,jN r)(I:¬s.d.good→∀i,i<n→li i)(K:NG (fun b=>b=A))(D:Nat→World→Prop)(j:Nat→Prop)(hR:∀w',Fr (fun b=>b=A) w w'→D 0 w')(hP:∀i W W',D i W→Fr (fun b=>b=A∨b=J) W W'→D i W')(L:(∀b,fK A B k b→¬j b)∧¬j J∧¬j V∧¬j z∧¬j y∧¬j x)(M:∀W,Fr (fun b=>b=A∨b=J∨j b) w W→cN W)(hH:∀i r W,a[i]?=some r→D i W→W.heap[y]?=some (.cells #[tv] 127 (0,0))→W.heap[x]?=some (.cells #[fv] 162 (0,0))→Calls prog 115 #[.agg r.toArray,.pointer (some ⟨y,0,none⟩),.pointer (some ⟨x,0,none⟩)] W fun e w'=>e= .returned (.bool true)∧D (i+1) w'∧Fr j W w'):Calls prog 111 #[.pointer (some ⟨p,0,none⟩),.pointer (some ⟨z,0,none⟩),.pointer (some ⟨y,0,none⟩),.pointer (some ⟨x,0,none⟩)] w fun e w'=>C3 D j J V A B n base k s a.length (n+1) w e w':=by
 obtain⟨n1,n2,n3,n4,nV,nJ,m1,m2,m3,m4⟩:=h.ne;obtain⟨U,N⟩:∃U,U=false:=⟨_,rfl⟩;have a1:∀w,(binOp .neq 130 (.agg (aI (bv s.bs s.ents) 0).toArray) (.agg (bc n).toArray)).run prog w= .ok (.bool U) w:=by intro w;rw[N,hL.head];exact xl n w
 go_enter func111,ntmps111;go_wp2_with fail;obtain⟨W,HW⟩:=aw w.drew;have E:=eG HW;have l:=h.frz E;have O:Fr (fun b=>b=A) w W:=E.mono (fun _ _ h=>h.elim);let S:World→Prop:=fun w'=>w'.cell? ⟨p,0,none⟩=some (.pointer (some ⟨V,0,none⟩))
 have hS:S W:=l.c1;refine dZ S HW ?_;clear HW;refine cU 0 5 155 0 (.pointer (some ⟨V,0,none⟩)) ⟨p,0,none⟩ rfl (fun _ hs=>hs) underlying155 hS ?_;refine cU 2 7 155 0 (.pointer (some ⟨V,0,none⟩)) ⟨p,0,none⟩ rfl (fun _ hs=>hs) underlying155 hS ?_;simp only[Act.put,aC,aB,aE];refine cj 1 ?_;have P:=k6 l.s.v l.s.d hq.ok 0 (by omega) (fun hg=>I hg 0 (by omega)) (M W (E.mono (fun _ _ h=>h.elim))) K;rcases Ey s.d.bad with m|m
 ·refine cW (o:=⟨some 6,.call {callee:= .value (.func 112),args:=#[.tmp 5,.const (.int .i64 0)],argTypes:=_},_,_,_,none⟩) (f:=112) (args:=#[.pointer (some ⟨V,0,none⟩),.int .i64 0]) rfl rfl (by kernel_rfl) ?_;refine P.mono ?_;rintro e w2 ⟨F,q,g⟩;rw[CE m]at g;obtain⟨gg,rfl,G⟩:=g;exact⟨_,rfl,rfl,.inr ⟨gg,0,rfl,G,F,m,by omega,(O.mono (fun _ _ h=> .inl h)).trans q (fun _ _ h=> .inl h)⟩⟩
 refine bl (o:=⟨some 6,.call {callee:= .value (.func 112),args:=#[.tmp 5,.const (.int .i64 0)],argTypes:=_},_,_,_,none⟩) (f:=112) (args:=#[.pointer (some ⟨V,0,none⟩),.int .i64 0]) rfl rfl (by kernel_rfl) ?_;refine P.mono ?_;rintro e w2 ⟨F,q,g⟩;rw[Cz (by rw[m];simp)]at g;subst g;have t:ph w2 p z y x V J A B n base k tv fv (s.after 1):=l.fr q n1 n2 n3 n4 nV nJ F;have a2:=O.trans q fI;refine⟨_,rfl,t.c1,?_⟩;simp only[Act.put,aC,aB,aE];refine dN 3 8 110 #[.tmp 7] #[.pointer (some ⟨V,0,none⟩)] rfl ?_;refine(cJ t.s.v).mono ?_;rintro e w' ⟨rfl,rfl⟩;refine⟨_,rfl,t.c1,?_⟩;simp only[Act.put,aC,aB,aE];refine dN 4 9 113 #[.tmp 8] #[.int .i64 n] rfl ?_;refine(oK _ n hn).mono ?_;rintro e w3 ⟨rfl,R⟩;have c:=t.frz R;have u:=a2.trans R (fun _ _ h=>h.elim);have T:S w3:=c.c1;refine⟨_,rfl,c.c1,?_⟩;simp only[Act.put,aC,aB,aE];refine eW (S:=S) (i:=5) (oi:=⟨some 10,.binOp .neq 130 (.tmp 6) (.tmp 9) 130,_,_,_,none⟩) (v:= .bool U) rfl (Or.inl ⟨rfl,fun w' _=>cS rfl rfl rfl (a1 w')⟩) T ?_;simp only[Act.put,aC,aB,aE];refine dn ?_;clear hS T;subst N;have c2:=c.c2;have a3:=hR w3 u;have a6:=L;obtain⟨q1,q2,q3,q5,q6,q7⟩:=L;have HJ:=wi (t1:=y) (t2:=x) D j c.s Y hL Z hn a0 H a3 (fun hg=>I (fun h=>hg (h.after 1))) (fun W X=>M W ((u.mono (fun _ _ h=> .inl h)).trans X fI)) K hP ⟨q1,q2,q3⟩ (fun i r W hr a4 X=>hH i r W hr a4 (X.keep c.x3 (by rintro(e|e|e);exact n3 e;exact m3 e;exact q6 e)) (X.keep c.x4 (by rintro(e|e|e);exact n4 e;exact m4 e;exact q7 e)));go_wp2_with fail;refine HJ.mono ?_;rintro e w4 (⟨rfl,cl,g1,g3,g4,g5⟩|⟨gg,cl,rfl,G,hd,C,hc,g5⟩)
 ·have a5:=af ((u.mono (fun _ _ h=> .inl h)).trans g5 fI);rw[DS.after_after]at g3;go_wp2;go_ret;exact .inl ⟨rfl,1+cl,by omega,g3,g4,a5.out⟩
 ·rw[DS.after_after]at hd C;exact⟨rfl,.inr ⟨gg,1+cl,rfl,G,hd,C,by omega,(u.mono (fun _ _ h=> .inl h)).trans g5 fI⟩⟩
theorem zS{w:World}{V A B n base:Nat}{k tv fv:Value}{s:DS}(b:aZ w V A n)(c:bi w A B n base k s):ph (um w V tv fv) w.heap.size (w.heap.size+4) (w.heap.size+1) (w.heap.size+2) V (w.heap.size+3) A B n base k tv fv s:=by
 have a:=rE w V tv fv;refine⟨?_,?_,?_,?_,b.fr a id,c.frz a,?_⟩
 ·unfold um;rw[ai _ _ _ (by simp<;>omega),ai _ _ _ (by simp<;>omega),ai _ _ _ (by simp<;>omega),ai _ _ _ (by simp<;>omega)];exact aa _ _
 ·unfold um;have:=aa ((((w.alloc (.cells #[.pointer (some ⟨V,0,none⟩)] 155)).alloc (.cells #[tv] 127)).alloc (.cells #[fv] 162)).alloc (.cells #[.pointer (some ⟨V,0,none⟩),.int .i64 1,.bool false] 179)) (.cells #[.pointer (some ⟨w.heap.size+1+1+1,0,none⟩)] 87);simpa using this
 ·unfold um;rw[ai _ _ _ (by simp<;>omega),ai _ _ _ (by simp<;>omega),ai _ _ _ (by simp<;>omega)];have:=aa (w.alloc (.cells #[.pointer (some ⟨V,0,none⟩)] 155)) (.cells #[tv] 127);simpa using this
 ·unfold um;rw[ai _ _ _ (by simp<;>omega),ai _ _ _ (by simp<;>omega)];have:=aa ((w.alloc (.cells #[.pointer (some ⟨V,0,none⟩)] 155)).alloc (.cells #[tv] 127)) (.cells #[fv] 162);simpa using this
 ·unfold um ed;rw[ai _ _ _ (by simp<;>omega)];have:=aa (((w.alloc (.cells #[.pointer (some ⟨V,0,none⟩)] 155)).alloc (.cells #[tv] 127)).alloc (.cells #[fv] 162)) (.cells #[.pointer (some ⟨V,0,none⟩),.int .i64 1,.bool false] 179);simpa using this
section
variable{w:World}{V A B n base:Nat}{k:Value}{s:DS}{tfn ffn:Fn}{ta tc fa fc:Array Value}
def Cc(f:Nat→World→Prop)(a:Nat→Prop)(J V A B n base:Nat)(k:Value)(s:DS)(l m:Nat)(w:World)(e:Ending)(w':World):Prop:=(e= .returned (.tuple #[.pointer (some ⟨J,0,none⟩),.nilIface])∧∃c,c≤m∧t8 w' J V A B n base k (s.after c) l∧f l w'∧Fr (fun b=>b=A∨a b) w w'∧w.heap.size+6≤w'.heap.size)∨(∃g c,e= .returned (.tuple #[.pointer none,eg g])∧dH w' g∧bi w' A B n base k (s.after (c+1))∧(s.after c).d.bad=true∧c≤m∧Fr (fun b=>b=A∨a b) w w')
theorem wW{l:List (List Value)}{tl:List Value}(hv:aZ w V A n)(hd:bi w A B n base k s)(hq:s.d.Q)(a1:(s.after 1).d.Q)(a2:8≤n)(hn:n≤400)(hL:yx n (bv s.bs s.ents) l tl)(a3:l.length<n)(P:∀r∈l,jN r)(a4:¬s.d.good→∀i,i<n→li i)(F:NG (fun b=>b=A))(I:cN w)(H:Nat→World→Prop)(E:Nat→Prop)(hR:∀w',Fr (fun b=>b=A) w w'→w.heap.size+6≤w'.heap.size→H 0 w')(hP:∀i W W',H i W→Fr (fun b=>b=A∨(w.heap.size≤b∧b<w.heap.size+6)) W W'→H i W')(D:∀b,E b→b<w.heap.size∧¬fK A B k b∧b≠V∧1<b)(hH:∀i r W,l[i]?=some r→H i W→W.heap[w.heap.size+1]?=some (.cells #[.func tfn ta tc] 127 (0,0))→W.heap[w.heap.size+2]?=some (.cells #[.func ffn fa fc] 162 (0,0))→Calls prog 115 #[.agg r.toArray,.pointer (some ⟨w.heap.size+1,0,none⟩),.pointer (some ⟨w.heap.size+2,0,none⟩)] W fun e w'=>e= .returned (.bool true)∧H (i+1) w'∧Fr (fun b=>E b∨w.heap.size+6≤b) W w'):Calls prog 75 #[.pointer (some ⟨V,0,none⟩),.func tfn ta tc,.func ffn fa fc] w fun e w'=>Cc H E (w.heap.size+3) V A B n base k s l.length (n+1) w e w':=by
 have ad:=re;have hs:=zS (tv:= .func tfn ta tc) (fv:= .func ffn fa fc) hv hd;have K:=rE w V (.func tfn ta tc) (.func ffn fa fc);have a5:=qO w V (.func tfn ta tc) (.func ffn fa fc);obtain⟨W,R⟩:=aw (um w V (.func tfn ta tc) (.func ffn fa fc));rw[←R.out]at hs K a5;have ae:=hd.d.lt;have ag:=lt_of_heap hv;have ah:=I.lt;have S:∀b,fK A B k b→b<w.heap.size:=by
  rintro b (e|e|e)
  ·omega
  ·rw[e];exact lt_of_heap hd.r.1
  ·exact(hd.q.o.lt b e).2
 have hT:=jX (w:=W) (f:=111) (caps:=#[.pointer (some ⟨w.heap.size,0,none⟩),.pointer (some ⟨w.heap.size+4,0,none⟩),.pointer (some ⟨w.heap.size+1,0,none⟩),.pointer (some ⟨w.heap.size+2,0,none⟩)]) (Q:=fun v w'=>(v= .nilIface∧w'.cell? ⟨w.heap.size+4,0,none⟩=some (.pointer (some ⟨w.heap.size+3,0,none⟩))∧∃c,c≤n+1∧t8 w' (w.heap.size+3) V A B n base k (s.after c) l.length∧H l.length w'∧Fr (fun b=>b=A∨E b) w w'∧w.heap.size+6≤w'.heap.size)∨(∃g c,v=eg g∧dH w' g∧bi w' A B n base k (s.after (c+1))∧(s.after c).d.bad=true∧c≤n+1∧Fr (fun b=>b=A∨E b) w w')) (fun _=>by kernel_rfl) (by
  have T:Fr (fun _=>False) W (W.alloc (.cells #[.nilIface] 36)):=(Fr.refl _ _).alloc _;have L:Fr (fun b=>b=A) w (W.alloc (.cells #[.nilIface] 36)):=(K.mono (fun _ _ h=>h.elim)).trans (T.mono (fun _ _ h=>h.elim)) fI;have U:=hs.frz T;have M:∀b,b<w.heap.size+6→w.heap.size≤b→¬(E b∨w.heap.size+6≤b):=fun b h1 h2 h=>by
   rcases h with h|h
   ·have:=(D b h).1;omega
   ·omega
  refine(uF U hq a1 a2 hn hL a3 P a4 F H (fun b=>E b∨w.heap.size+6≤b) (fun w' X=>hR w' (L.trans X fI) (by have h1:=X.size;simp at h1;omega)) (fun i W1 W2 N m=>hP i W1 W2 N (m.mono (fun b _ h=>by rcases h with h|h;exact .inl h;exact .inr (by omega)))) ⟨?_,M _ (by omega) (by omega),?_,M _ (by omega) (by omega),M _ (by omega) (by omega),M _ (by omega) (by omega)⟩ (fun W1 m=>?_) (fun i r W1 N a6 h3 h4=>hH i r W1 N a6 h3 h4)).mono ?_
  ·rintro b C (h|h)
   ·exact(D _ h).2.1 C
   ·have:=S b C;omega
  ·rintro(h|h)
   ·exact(D _ h).2.2.1 rfl
   ·omega
  ·refine(I.fr L F).fr m (fun g Y=>?_);have:=Y.le;rintro(h|h|h|h)
   ·exact F g Y h
   ·omega
   ·have:=(D _ h).2.2.2;omega
   ·omega
  rintro e w' hj;have gF:∀{w':World},Fr (fun b=>b=A∨b=w.heap.size+3∨(E b∨w.heap.size+6≤b)) (W.alloc (.cells #[.nilIface] 36)) w'→Fr (fun b=>b=A∨E b) w w':=fun G=>(L.mono (fun _ _ h=> .inl h)).trans G (fun b C h=>by
   rcases h with h|h|h|h
   ·exact .inl h
   ·omega
   ·exact .inr h
   ·omega)
  have a:∀(u:World) (v:Value),Fr (fun b=>b=W.heap.size) u (u.setCell ⟨W.heap.size,0,none⟩ v):=fun u v=>Fr.set1 _ _ _ _;have Z:∀b,fK A B k b→¬b=W.heap.size:=fun b C e=>by have:=S b C;omega
  rcases hj with⟨rfl,c,g1,g3,g4,G⟩|⟨g,c,rfl,a7,a8,a9,hc,G⟩
  ·have hk:∀{b:Nat} {o:Obj},(W.alloc (.cells #[.nilIface] 36)).heap[b]?=some o→b≠A→b≠w.heap.size+3→¬(E b∨w.heap.size+6≤b)→w'.heap[b]?=some o:=fun C h1 h2 h3=>G.keep C (by rintro(h|h|h);exact h1 h;exact h2 h;exact h3 h);have hE:=hk (aa _ _) (by omega) (by omega) (M _ (by omega) (by omega));have ab:=hk U.x2 (by omega) (by omega) (M _ (by omega) (by omega));refine⟨hE,.inl ⟨_,rfl,rfl,.inl ⟨rfl,(a _ _).cell ((Cn w' _ 0 _ _ _ ab).trans rfl) (by simp;omega),c,g1,⟨g3.v.fr (a _ _) (by omega),g3.d.fr (a _ _) Z,g3.j.fr (a _ _) (by omega)⟩,hP _ _ _ g4 ((a _ _).mono (fun b _ h=> .inr (by omega))),(gF G).trans (a _ _) (fun b C h=>by omega),?_⟩⟩⟩;have h5:=G.size;have h6:=(a w' .nilIface).size;simp at h5;omega
  ·have hE:=G.keep (aa _ _) (by rintro(h|h|h);omega;omega;exact M _ (by omega) (by omega) h);have a0:=I.fr (gF G) (fun g Y=>by have:=Y.le;rintro(h|h);exact F g Y h;have:=(D _ h).2.2.2;omega);refine⟨hE,.inr ⟨g,rfl,a0,fun w1 m=> .inr ⟨g,c,rfl,?_,(a8.frz m).fr (a _ _) Z,a9,hc,((gF G).trans (m.mono (fun _ _ h=>h.elim)) fI).trans (a _ _) (fun b C h=>by omega)⟩⟩⟩;refine(a7.fr m (fun _ _ _ _ _ h=>h)).fr (a _ _) (fun b cc t C ht e=>?_);subst e;rw[m.keep hE jI]at C;simp at C;rw[←C.2]at ht;revert ht;decide)
 unfold um at R;clear hs K;go_enter func75,ntmps75;go_wp2_with fail;rw[←R.out];refine hT.mono ?_;rintro e w' ⟨v,rfl,⟨rfl,hc,HX⟩|⟨g,c,rfl,HX⟩⟩
 ·have O:=af HX;clear R hT HX;go_wp2;go_ret2;exact .inl ⟨rfl,O.out⟩
 ·have O:=af HX;clear R hT HX;unfold eg;go_wp2;go_ret2;exact .inr ⟨g,c,rfl,O.out⟩
end
end Go.Proofs.YteebjgfalllbjaaGreatDoor
