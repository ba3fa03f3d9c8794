import Derived.Test.YteebjgfalllbjaaGreatDoorK45
import Derived.Test.YteebjgfalllbjaaGreatDoorK46
namespace Go.Proofs.YteebjgfalllbjaaGreatDoor
open Go.RowKit Go.Proofs.Tryz
set_option maxRecDepth 100000
set_option maxHeartbeats 4000000
theorem oC(w:World)(a b:Addr)(u v:Value)(h:a.block≠b.block):(w.setCell a u).setCell b v=(w.setCell b v).setCell a u:=by
 unfold World.setCell;simp only;congr 1;apply Array.ext_getElem?;intro k;simp only[Array.getElem?_modify];by_cases c:a.block=k
 ·have d:¬b.block=k:=fun e=>h (c.trans e.symm);simp[c,d]
 ·by_cases d:b.block=k
  ·simp[c,d]
  ·simp[c,d]
theorem cN.below{w b:World}{a:Nat}(h:cN w)(c:Below a w b)(d:1<a):cN b:=by
 have f:=(show Gx 0 from .inl rfl).le;unfold cN at*
 refine⟨?_,?_⟩
 ·rw[c.cell (by show 0<a;omega)];exact h.1
 ·have e:=fun g (d:Gx g)=>d.le;rw[c.cell (by have:=e _ (.inr rfl);show _<a;omega)];exact h.2
theorem tj{w:World}{d:Nat}{b:Value}{m:Nat}{c:List Nat}(h:w.ownsRow d 105 1 b m (c.map fun D=>Value.pointer (some ⟨D,0,none⟩)))(e:0<m):∃g a,b= .slice (some ⟨g,0,none⟩) m a∧∀(i:Nat) (D:Nat),c[i]?=some D→w.cell? ⟨g,i,none⟩=some (.pointer (some ⟨D,0,none⟩)):=by obtain⟨g,a,rfl,_,_⟩:=h.form e;refine⟨g,a,rfl,fun i D hi=>?_⟩;have:=h.cells (g:=g) rfl i (.pointer (some ⟨D,0,none⟩)) (by rw[CK,hi];rfl);rwa[DF,D5]at this
theorem qt{w C j:World}{z A s i:Nat}{m:List DQ}{K:List Bool}{b B:DQ}(L:i9 C z A (s+1) i m K)(hi:m[i]?=some b)(M:Below z w C){E:Option Addr}(n:dE C z (s+2) b B (j.setCell ⟨b.D,5,none⟩ (.pointer E))){fb:Bool}(N:B.x≠none→B.fl=fb):∃a f,a≠b.D∧j.cell? ⟨A,4,none⟩=some (.slice (some ⟨a,0,none⟩) m.length f)∧(∃v,j.cell? ⟨a,i,none⟩=some v)∧j.frozen? ⟨a,i,none⟩=false∧(∀c t,j.heap[a]?=some (.cells c t (0,0))→t=4)∧cV w z A s (.returned (.bool true)) ((j.setCell ⟨a,i,none⟩ (.bool fb)).setCell ⟨b.D,5,none⟩ (.pointer E)):=by
 have F:=(Co.1 hi).1;obtain⟨G,O⟩:=L.upd i hi (show s+1≤s+2 by omega) n;have P:=G.len;have Q:(m.set i B).length=m.length:=DV;have R:A≠b.D:=fun e=>by obtain⟨Z,rv,sv,dv,fv,k,r,st,S,T,ch,U,o,_⟩:=G;have p:=n.i.l;rw[n.d]at p;have:=o.hw;rw[e]at this;have:=this.symm.trans p;simp at this
 obtain⟨a,f,c4,_,⟨v,J⟩,H,u,y⟩:=i9.setF i G (by omega);have h:a≠b.D:=fun e=>by have p:=n.i.l;rw[n.d]at p;have:=u _ _ ((Ej (fun g=>(j.setCell ⟨b.D,5,none⟩ (.pointer E)).heap[g]?) e).trans p);simp at this
 refine⟨a,f,h,?_,⟨v,?_⟩,?_,fun c t V=>u c t ?_,?_⟩
 ·rw[Eg _ _ _ _ (fun e=>R (Ej Addr.block e).symm),Q]at c4;exact c4
 ·rw[Eg _ _ _ _ (fun e=>h (Ej Addr.block e).symm)]at J;exact J
 ·have o:=H;unfold World.frozen? at o⊢;rw[aK _ _ _ _ (show(⟨a,i,none⟩:Addr).block≠(⟨b.D,5,none⟩:Addr).block from h)]at o;exact o
 ·rw[aK _ _ _ _ (show(⟨a,i,none⟩:Addr).block≠(⟨b.D,5,none⟩:Addr).block from h)];exact V
 ·rw[oC _ _ _ _ _ (show(⟨a,i,none⟩:Addr).block≠(⟨b.D,5,none⟩:Addr).block from h)];obtain⟨W,X⟩:=y fb;refine⟨_,_,rfl,W.back (fun q I Y=>?_),(M.trans O).trans X⟩;rw[E8,CE rfl,CE F]at I;simp only[Cu]at I;subst I;rw[E8,CE rfl,CE (by omega),N Y]
theorem wb{w:World}{G H s:Nat}{Q:List DQ}{fs:List Bool}(h:dm w G H s Q fs)(hs:s<40000)(hG:cN w)(hg:1<G)(i:Nat)(q:DQ)(hi:Q[i]?=some q)(p:Int):Calls prog 54 #[.pointer (some ⟨H,0,none⟩),.int .i64 i,.int .i64 p] w fun e T=>cV w G H s e T:=by
 have ak:=(Co.1 hi).1;have ay:(i:Int)<Q.length:=by omega
 have y:=af h;have X:=af hi;have HG:=af hG;obtain⟨kv,rv,sv,dv,fv,k,r,st,az,aA,ch,aB,hI,aC,hk,hr,aD,hm,a8,al⟩:=h;obtain⟨g,aE,an,a9⟩:=tj hI.hd (by omega);subst an;have c3:=hI.c3;have hD:=a9 i q.D (by rw[CK,hi];rfl);have Y:=a8 q (Cq hi);have d0:=Y.l.c0;obtain⟨m,Z,a0⟩:=qi Y (by omega) hg;have a1:=fun e=>a0 (fun _=>False) w (Fr.refl _ _) fI (fun _ _ _ h=>h) HG.out (fun _=>e) p;clear hI a9 a8 al Y hi hG;by_cases aa:m=0
 ·have ab:=a1 aa;clear a1 a0;subst aa;go_enter func54,ntmps54;go_wp2_with fail;refine Z.mono ?_;rintro e T ⟨rfl,rfl⟩;go_wp2_with fail;refine ab.mono ?_;rintro e w1 ⟨rfl,q1,n,ao⟩;have a:=af n;have z:=n.i.l;rw[n.d]at z;have d5:=z.c5;have aF:=z.c0;obtain⟨u1,u2⟩:=i9.upd i (y.out.e i) X.out (DC s) n;have HU:Hid (i9 w1 G H (s+1) i (Q.set i q1) fs∧Below G T w1):=⟨u1,u2⟩;have I:=HG.out.below u2 hg;clear c3 hD d0 ab n z Z u1 u2;rcases ao with hx|⟨_,U,rfl,ad⟩
  ·have J:Hid (cV T G H s (.returned (.bool true)) w1):=by obtain⟨v1,v2⟩:=y.out.upd i X.out (show s≤s+2 by omega) ⟨a.out.d,a.out.o,a.out.i.mono (by omega),a.out.f⟩ (fun e=>absurd hx e);exact⟨_,_,rfl,v1,v2⟩
   rw[hx]at d5;clear I;go_wp2;go_ret;exact J.out
  ·have B:=wN a.out.i U (by omega) I (ad rfl);have HX:Hid (q1.x=none∨∃A,q1.x=some A):=by cases q1.x with|none=>exact .inl rfl|some A=>exact .inr ⟨A,rfl⟩
   rcases HX.out with hx|⟨X1,hx⟩
   ·have J:Hid (cV T G H s (.returned (.bool true)) w1):=by obtain⟨v1,v2⟩:=y.out.upd i X.out (show s≤s+2 by omega) ⟨a.out.d,a.out.o,a.out.i.mono (by omega),a.out.f⟩ (fun e=>absurd hx e);exact⟨_,_,rfl,v1,v2⟩
    rw[hx]at d5;clear I B;go_wp2;go_ret;exact J.out
   ·rw[hx]at d5;clear ad U HX;go_wp2_with fail;refine B.mono ?_;rintro e w2 ⟨xo,v,kk,rfl,hT,a2,a3,a4⟩;obtain⟨W2,L⟩:=aw w2.drew;have M:=eG L;obtain⟨q2,C,E⟩:=a4 W2 M;have R:(Q.set i q1)[i]?=some q1:=by rw[E8,CE rfl,CE ak]
    have j:=(a.out.i.l.fr a2 a.out.i.nDA).fr M jI;have F:(Q.set i q1).length=Q.length:=DV;rcases a3 with⟨rfl,rfl,ap⟩|⟨rfl,rfl,⟨t,u,rfl⟩,V⟩
    ·obtain⟨W,N,O,c4,⟨v4,aq⟩,ae,S,hE⟩:=qt (fb:=true) HU.out.1 R HU.out.2 C (fun e=>(E e).1);rw[a.out.d]at O hE j;rw[F,L.out]at c4;have c4:w2.cell? ⟨H,4,none⟩=some (.slice (some ⟨W,0,none⟩) Q.length N):=c4;have J:=af hE;have e5:=j.c5;have ar:=j.fz 5;have ag:¬q.D=W:=fun e=>O e.symm;clear j hE S B hT a2 a4 M C E R F ap I;go_wp2_with fail;refine wp_region_still_tail 8 (by kernel_rfl) (by kernel_rfl) (Bx.out ?_);simp only[CW,Dc,CQ,D2];repeat(refine bu (fun K hK=>?_);go_simp;refine hK _ ?_;clear hK K)
     refine bI ?_;rw[ww L];go_wp2;go_ret;exact J.out
    ·obtain⟨W,N,O,c4,⟨v4,aq⟩,ae,S,hE⟩:=qt (fb:=false) HU.out.1 R HU.out.2 C (fun e=>by have:=(E e).2;cases this);rw[a.out.d]at O hE j;rw[F,L.out]at c4;have c4:w2.cell? ⟨H,4,none⟩=some (.slice (some ⟨W,0,none⟩) Q.length N):=c4;have e5:=j.c5;have ar:=j.fz 5;have ag:¬q.D=W:=fun e=>O e.symm;obtain⟨W3,a5⟩:=aw ((W2.setCell ⟨W,i,none⟩ (.bool false)).setCell ⟨q.D,5,none⟩ (.pointer none));rw[←a5.out]at hE;have ah:Fr (fun b=>b=W∨b=q.D) W2 W3:=by rw[a5.out];exact((Fr.set1 W2 W i (.bool false)).mono (fun _ _ h=> .inl h)).trans (Fr.set1 _ q.D 5 _) (fun _ _ h=> .inr h)
     have P:eT W3 (.iface t u):=(V.fr M (fun _ _ _ _ _ h=>h)).fr ah (fun b c t' hb ht e=>by
      rcases e with rfl|rfl
      ·have:=S _ _ hb;subst this;revert ht;decide
      ·have:=hb.symm.trans j;simp at this;rw[this.2]at ht;revert ht;decide)
     obtain⟨au,av,_,ai,a6⟩:=hE;have aj:=P.told (HG.out.below a6 hg);have J:Hid (dm W3 G H (s+2) au av∧Below G T W3):=⟨ai,a6⟩;clear j S B hT a2 a4 M C E R F I V P ah ai a6;go_wp2_with fail;refine wp_region_still_tail 8 (by kernel_rfl) (by kernel_rfl) (Bx.out ?_);simp only[CW,Dc,CQ,D2];repeat(refine bu (fun K hK=>?_);go_simp;refine hK _ ?_;clear hK K)
     refine bI ?_;rw[ww L];go_wp2_with fail;rw[←a5.out];refine aj.mono ?_;rintro e w4 ⟨rfl,a7⟩;have ax:Hid (cV T G H s (.returned (.bool true)) w4):=⟨_,_,rfl,J.out.1.frz a7 (Cs _),J.out.2.trans (bH a7 J.out.1.size)⟩;clear a7 aj;go_wp2_with fail;refine(eS 5 _).mono ?_;rintro e w5 ⟨rfl,hw⟩;rw[hw];clear hw;go_wp2;go_ret;exact ax.out
 ·have aG:(0:Int)<m:=by omega
  have J:Hid (cV w G H s (.returned (.bool true)) w):=⟨_,_,rfl,y.out.frz (Fr.refl _ _) (by omega),EX _ _⟩;clear a0 a1;go_enter func54,ntmps54;go_wp2_with fail;refine Z.mono ?_;rintro e T ⟨rfl,rfl⟩;go_wp2;go_ret;exact J.out
def qw(w:World)(b s:Nat)(q:DQ)(e:Ending)(c:World):Prop:=e= .returned (.bool true)∧∃a,a.fl=q.fl∧dE w b (s+2) q a c
theorem dE.mono{w a:World}{b s c:Nat}{q e:DQ}(h:dE w b s q e a)(g:s≤c):dE w b c q e a:=⟨h.d,h.o,h.i.mono g,h.f⟩
theorem qw.of1{w b:World}{c s:Nat}{q:DQ}{e:Ending}(h:e= .returned (.bool true)∧∃a,a.fl=q.fl∧dE w c (s+1) q a b):qw w c s q e b:=⟨h.1,by obtain⟨_,a,d,f⟩:=h;exact⟨a,d,f.mono (by omega)⟩⟩
theorem qw.of0{w a:World}{b s:Nat}{q:DQ}{e:Ending}(h:e= .returned (.bool true)∧dE w b (s+1) q q a):qw w b s q e a:=⟨h.1,q,rfl,h.2.mono (by omega)⟩
theorem qw.pre{w g j:World}{k s:Nat}{q:DQ}{e:Ending}(l:Fr (fun _=>False) w g)(h:qw g k s q e j):qw w k s q e j:=by obtain⟨m,n,c,a⟩:=h;exact⟨m,n,c,a.d,fun b p=>(a.o b p).imp_right (fun h=>Ct l.size h),a.i,(l.mono (fun _ _ h=>h.elim)).trans a.f fI⟩
theorem yU{w:World}{k u s:Nat}{q:DQ}(h:cG w k s q)(F:s<40000)(y:cN w)(z:1<k)(m:q.x≠none){A:Value}{ch:List SS}(B:w.cell? ⟨u,2,none⟩=some A)(i:w.ownsRow k 165 2 A ch.length (an ch))(G:ch.length≤s)(K X a b:Int)(S T:ByteArray)(n:K=13∨K=14∨K=15∨K=16):Calls prog 55 #[.pointer (some ⟨u,0,none⟩),.pointer (some ⟨q.D,0,none⟩),.bool q.fl,.agg (fe K X a b S T)] w fun e l=>qw w k s q e l:=by
 obtain⟨C,E,rfl,_,_⟩:=aN i;obtain⟨W,o⟩:=aw (w.alloc (.cells (fe K X a b S T) 74));obtain⟨O,p⟩:=aw w.heap.size;have hF:=j9 o;have r:W.heap[O]?=some (.cells (fe K X a b S T) 74 (0,0)):=by rw[o.out,p.out];exact aa _ _
 have H:W.cell? ⟨O,0,none⟩=some (.int .i64 K):=(Cn W O 0 _ _ _ r).trans rfl;have I:W.cell? ⟨O,2,none⟩=some (.int .i64 a):=(Cn W O 2 _ _ _ r).trans rfl;have c:(Instr.box 74 (.agg (fe K X a b S T))).run prog w= .ok (.pointer (some ⟨O,0,none⟩)) W:=by rw[o.out,p.out];rfl
 have c2:=hF.cell B jI;have d:Hid (cG W k s q∧cN W∧cC W k C E ch∧Fr (fun _=>False) w W):=⟨h.frz hF,y.fr hF fI,bY i hF fI,hF⟩;clear h y i hF r B o p;rcases n with rfl|rfl|rfl|rfl
 ·go_enter func55,ntmps55;go_wp2_with (refine cX 74 _ (v:= .pointer (some ⟨O,0,none⟩)) (w':=W) rfl rfl ?_ ?_;exact c);refine wp_region_still_tail 7 (by kernel_rfl) (by kernel_rfl) (Bx.out ?_);simp only[CW,Dc,CQ,D2];repeat(refine bu (fun K n=>?_);go_simp;refine n _ ?_;clear n K)
  refine bI ?_;have t:Fr (fun _=>False) W W.drew:=(Fr.refl _ _).drew;have g:=oy (w:=W.drew) (d.out.1.frz t) (by omega) d.out.2.1 z m a (bo:=C) (cb:=E) (st:=ch) (bY d.out.2.2.1 t fI) (by omega);clear t;go_wp2_with fail;refine g.mono ?_;rintro e l f;have j:=af (qw.pre d.out.2.2.2.drew (qw.of1 f));obtain⟨rfl,_⟩:=f;clear g;go_wp2;go_ret;exact j.out
 ·go_enter func55,ntmps55;go_wp2_with (refine cX 74 _ (v:= .pointer (some ⟨O,0,none⟩)) (w':=W) rfl rfl ?_ ?_;exact c);refine(vz d.out.1 F d.out.2.1 z m).mono ?_;rintro e l f;have j:=af (qw.pre d.out.2.2.2 f);obtain⟨rfl,_⟩:=f;go_wp2;go_ret;exact j.out
 ·go_enter func55,ntmps55;go_wp2_with (refine cX 74 _ (v:= .pointer (some ⟨O,0,none⟩)) (w':=W) rfl rfl ?_ ?_;exact c);refine(yO d.out.1 (by omega) d.out.2.1 m a).mono ?_;rintro e l f;have j:=af (qw.pre d.out.2.2.2 (qw.of0 f));obtain⟨rfl,_⟩:=f;go_wp2;go_ret;exact j.out
 ·go_enter func55,ntmps55;go_wp2_with (refine cX 74 _ (v:= .pointer (some ⟨O,0,none⟩)) (w':=W) rfl rfl ?_ ?_;exact c);refine(vR d.out.1 (by omega) m a).mono ?_;rintro e l f;have j:=af (qw.pre d.out.2.2.2 (qw.of0 f));obtain⟨rfl,_⟩:=f;go_wp2;go_ret;exact j.out
theorem zI{w:World}{c d s:Nat}{i:List DQ}{j:List Bool}(h:dm w c d s i j)(k:1<c)(n:s<60000)(K X a b:Int)(S T:ByteArray)(f: -9223372036854775808≤a)(g:a≤9223372036854775807)(o:1≤K)(p:K≤6):Calls prog 49 #[.pointer (some ⟨d,0,none⟩),.agg (fe K X a b S T)] w fun e l=>cV w c d s e l:=by
 have m:K=1∨K=2∨K=3∨K=4∨K=5∨K=6:=by omega
 rcases m with rfl|rfl|rfl|rfl|rfl|rfl
 ·exact ri h (by omega) X a b S T
 ·exact rY h X a b S T
 ·exact pi h (by omega) X a b S T f g
 ·exact rH h (by omega) X a b S T
 ·exact qJ h X a b S T
 ·exact sx h k (by omega) X a b S T
theorem yn{w:World}{f g s:Nat}{q:List DQ}{r:List Bool}(h:dm w f g s q r)(A:s<40000)(t:1<f)(K X a b:Int)(S T:ByteArray)(i: -9223372036854775808≤a)(j:a≤9223372036854775807)(u:1≤K)(v:K≤6):Calls prog 38 #[.pointer (some ⟨g,0,none⟩),.agg (fe K X a b S T)] w fun e x=>cV w f g s e x:=by
 have k:=h.size;have hF:Fr (fun _=>False) w (w.alloc (.cells (fe K X a b S T) 74)):=(Fr.refl _ _).alloc _;have n:=h.frz hF (Cs _);have o:=bH hF k;have p:=zI n t (by omega) K X a b S T i j u v;clear hF n h;unfold fe at*
 go_enter func38,ntmps38;go_wp2_with fail;refine p.mono ?_;rintro e y ⟨l,m,rfl,c,d⟩;have z:Hid (cV w f g s (.returned (.bool true)) y):=⟨l,m,rfl,c,o.trans d⟩;clear c d p o;go_wp2;go_ret;exact z.out
theorem lO{w:World}{l g s:Nat}{f:List DQ}{t:List Bool}(h:dm w l g s f t)(K X a b:Int)(S T:ByteArray)(u:K<1∨(6<K∧f=[])):Calls prog 38 #[.pointer (some ⟨g,0,none⟩),.agg (fe K X a b S T)] w fun e y=>cV w l g s e y:=by
 have m:=h.size;have hF:Fr (fun _=>False) w (w.alloc (.cells (fe K X a b S T) 74)):=(Fr.refl _ _).alloc _;have i:(w.alloc (.cells (fe K X a b S T) 74)).cell? ⟨w.heap.size,0,none⟩=some (.int .i64 K):=by rw[Cn _ w.heap.size 0 _ _ _ (aa _ _)];rfl
 have v:=iM (w:=w.alloc (.cells (fe K X a b S T) 74)) (W0:=g) K X a b S T (by omega);unfold fe at*
 go_enter func38,ntmps38;go_wp2_with fail;refine v.mono ?_;rintro e z ⟨rfl,d⟩;have c:=hF.trans d fI;have n:=h.frz c (Cs _);have x:Hid (cV w l g s (.returned (.bool true)) z):=⟨f,t,rfl,h.frz c (by omega),bH c m⟩;have A:=d.cell i id;obtain⟨E,F,G,H,I,k,r,st,B,C,ch,D,o,_⟩:=n;obtain⟨J,L,j⟩:=jH o.hd;have c3:=o.c3;rw[j]at c3;clear o j hF i v d c h;by_cases p:f.length=0
 ·have q:((f.length:Int)==0)=true:=by simp[p]
  go_wp2;go_ret;exact x.out
 ·have q:((f.length:Int)==0)=false:=by simp;exact fun e=>p (by simp[e])
  have M:decide (K<7)=true:=by
   rcases u with u|⟨_,e⟩
   ·simp;omega
   ·exact absurd (by simp[e]) p
  go_wp2;go_ret;exact x.out
end Go.Proofs.YteebjgfalllbjaaGreatDoor
