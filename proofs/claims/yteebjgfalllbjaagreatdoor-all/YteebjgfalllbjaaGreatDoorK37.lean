import Derived.Test.YteebjgfalllbjaaGreatDoorK36
namespace Go.Proofs.YteebjgfalllbjaaGreatDoor
open Go.RowKit Go.Proofs.Tryz
set_option maxRecDepth 100000
set_option maxHeartbeats 8000000
inductive wH (fd:Bool) (most:Int) (ch:List ST):Nat→List RS→Prop
 |nil:wH fd most ch ch.length []
 |hit {i:Nat} {s:ST} {r:RS} {L:List RS} (h:ch[i]?=some s) (hid:s.id=r.id) (hs:ud fd s r) (hl:wH fd most ch (i+1) L):wH fd most ch i (r::L)
 |miss {i:Nat} {r:RS} {L:List RS} (h:∀s,ch[i]?=some s→s.id≠r.id) (hi:i≤ch.length) (hn:tm fd r∨most≤i) (hl:wH fd most ch i L):wH fd most ch i (r::L)
theorem yg{w:World}{D A Pp n:Nat}{nn em fd:Bool}{x:Value}{pause clock:Int}{ao:Option Addr}{a1:Nat}{L:List RS}(h:aH w D A Pp n nn em x pause clock fd (.slice ao L.length a1))(hl:cO w ao L)(a7:∀r∈L,r.may.length≤1000000)(hn:L.length≤1000000)(f:Int)(ch:List ST)(aq:ch.length≤1000000)(hL:wH fd f ch 0 L)(hA:Calls prog 35 #[x,.int .i64 f] w fun e w'=>lx ch w e w'):Calls prog 87 #[.pointer (some ⟨D,0,none⟩),.int .i64 f] w fun e w'=>e= .returned (.bool true)∧Fr (fun _=>False) w w':=by
 have a8:Hid (cO w ao L∧∀r∈L,r.may.length≤1000000):=⟨hl,a7⟩;have HL:=af hl.r;have HD:=af h;have Y:Hid (wH fd f ch 0 (L.drop 0)):=hL;obtain⟨m,hm⟩:∃m,m=ch.length:=⟨_,rfl⟩;have HM:=af hm;have ax:m≤1000000:=by omega
 have c5:=h.c5;clear h hl hL a7;go_enter func87,ntmps87;go_wp2_with fail;refine hA.mono ?_;rintro e w1 ⟨bo,cb,rfl,hb,a9⟩;rw[←hm];have HB:=af hb;have N:=af a9;clear hA c5 hb a9 hm aq;go_wp2;go_loopw [6,7] (fun q c wr=>∃(i k:Nat),i≤L.length∧k≤m∧q= .int .i64 k∧c= .int .i64 i∧Hid (Fr (fun _=>False) w1 wr∧wH fd f ch k (L.drop i))) (fun _ c _=>L.length-(intOf c).toNat);case atStart=>exact⟨0,0,CH _,CH _,rfl,rfl,Fr.refl _ _,Y.out⟩
 case round=>
  clear Y;obtain⟨i,k,hi,J,rfl,rfl,Z⟩:=hrel;have p:=HD.out.fr (N.out.trans Z.out.1 fI) jI;have c9:=p.c9;have c8:=p.c8;have ab:=af p;clear p;by_cases ad:i<L.length
  ·have ae:(i:Int)<L.length:=by omega
   obtain⟨r,hr⟩:∃r,L[i]?=some r:=⟨_,Cp ad⟩;have ag:L.drop i=r::L.drop (i+1):=by rw[Dk ad,(Co.1 hr).2]
   obtain⟨g,off,rfl,ah⟩:=HL.out i r.cs (by simp[hr]);have h7:=cH (aW (aW ah N.out) Z.out.1);obtain⟨s0,s1,s2,s3,s4,s5,s6⟩:=h7;have a2:Hid (aY wr r.ma 2 (r.may.map wy)∧r.may.length≤1000000):=⟨((a8.out.1.m r (Cq hr)).frz N.out).frz Z.out.1,a8.out.2 r (Cq hr)⟩;have ai:=Z.out.2;rw[ag]at ai;have aj:=af Z.out.1;clear ah ag Z hr;obtain⟨W,HW⟩:=aw (wr.alloc (.cells #[.int .i64 r.id,.slice r.sa r.st.length r.sc,.int .i64 r.S.1,.int .i64 r.S.2,.int .i64 r.tries,.int .i64 r.due,.slice r.ma r.may.length r.mc] 223));obtain⟨B,a3⟩:=aw wr.heap.size;have O:=j9 HW;have ak:W.rangeAt B 0 r.cs:=by rw[HW.out,a3.out];intro j v hv;rw[Cn _ wr.heap.size _ _ _ _ (aa wr _),D5];simpa[RS.cs]using hv
   obtain⟨q0,q1,q2,q3,q4,q5,q6⟩:=cH ak;have C:Hid (aH W D A Pp n nn em x pause clock fd (.slice (some ⟨g,off,none⟩) L.length a1)∧Fr (fun _=>False) w1 W):=⟨ab.out.fr O jI,aj.out.trans O fI⟩;have e8:=C.out.1.c8;have t:Hid (aY W r.ma 2 (r.may.map wy)∧r.may.length≤1000000):=⟨a2.out.1.frz O,a2.out.2⟩;have ar:=af C.out.2;clear ak O a2 ab aj;go_wp2_with fail;rw[←HW.out,←a3.out];clear HW a3 s0 s1 s2 s3 s4 s5 s6 c8 c9;cases ai with
   |hit G a4 al u=>
    rename_i s;obtain⟨au,P,Q,R,T,U⟩:=s;have a4:au=r.id:=a4;subst a4;have V:k<m:=by rw[HM.out];exact(Co.1 G).1
    have a0:(k:Int)<m:=by omega
    obtain⟨g2,o2,rfl,E⟩:=HB.out k (ST.cs ⟨r.id,P,Q,R,T,U⟩) (by rw[CK,G];rfl);have y:=aW E C.out.2;have u0:W.cell? ⟨g2,o2+k*6,none⟩=some (.int .i64 r.id):=y 0 _ rfl;have u1:W.cell? ⟨g2,o2+k*6+1,none⟩=some (.int .i64 P):=y 1 _ rfl;have u2:W.cell? ⟨g2,o2+k*6+2,none⟩=some (.int .i64 Q):=y 2 _ rfl;have u3:W.cell? ⟨g2,o2+k*6+3,none⟩=some (.int .i64 R):=y 3 _ rfl;have u4:W.cell? ⟨g2,o2+k*6+4,none⟩=some (.int .i64 T):=y 4 _ rfl;have u5:W.cell? ⟨g2,o2+k*6+5,none⟩=some (.int .i64 U):=y 5 _ rfl;have H:Hid (wH fd f ch (k+1) (L.drop (i+1))∧ud fd ⟨r.id,P,Q,R,T,U⟩ r):=⟨u,al⟩;clear E y G al u;go_region;obtain⟨W2,z⟩:=aw W.drew;have b:=eG z;rw[←z.out];have a:Hid (aH W2.drew D A Pp n nn em x pause clock fd (.slice (some ⟨g,off,none⟩) L.length a1)∧Fr (fun _=>False) w1 W2.drew∧aY W2.drew r.ma 2 (r.may.map wy)):=⟨(C.out.1.fr b jI).fr (Fr.refl (fun _=>False) W2).drew jI,(C.out.2.trans b fI).drew,(t.out.1.frz b).frz (Fr.refl (fun _=>False) W2).drew⟩;have v0:=b.cell u0 jI;have v1:=b.cell u1 jI;have v2:=b.cell u2 jI;have v3:=b.cell u3 jI;have v4:=b.cell u4 jI;have v5:=b.cell u5 jI;have p0:=b.cell q0 jI;have p1:=b.cell q1 jI;have F:=b.cell q2 jI;have p3:=b.cell q3 jI;have p4:=b.cell q4 jI;have p5:=b.cell q5 jI;have M:=b.cell q6 jI;clear q0 q1 q2 q3 q4 q5 q6 u0 u1 u2 u3 u4 u5 b z e8 C;go_wp2_with fail;refine wp_region_still_tail 6 (by kernel_rfl) (by kernel_rfl) (Bx.out ?_);simp only[CW,Dc,CQ,D2];repeat(refine bu (fun K hK=>?_);go_simp;refine hK _ ?_;clear hK K)
    refine bI ?_;go_wp2_with fail;refine(np a.out.1 ⟨r.id,P,Q,R,T,U⟩ r a.out.2.2 t.out.2 H.out.2).mono ?_;rintro e w3 ⟨rfl,an⟩;have av:Hid (Fr (fun _=>False) w1 w3∧wH fd f ch (k+1) (L.drop (i+1))):=⟨a.out.2.1.trans an fI,H.out.1⟩;clear an p0 p1 F p3 p4 p5 M v0 v1 v2 v3 v4 v5 a;go_wp2;go_roundw;case rel=>exact⟨i+1,k+1,by omega,by omega,by go_num,by go_num,av⟩
    case measure=>simp[intOf];omega
   |miss a5 ay ap u=>
    have H:=af u;have X:=af ap;clear u ap;obtain⟨W2,z⟩:=aw W.drew;have b:=eG z;have F:=b.cell q2 jI;have M:=b.cell q6 jI;have p8:=b.cell e8 jI;have a:Hid (Fr (fun _=>False) w1 W2∧aY W2 r.ma 2 (r.may.map wy)):=⟨C.out.2.trans b fI,t.out.1.frz b⟩;clear C b;by_cases V:k<m
    ·have a0:(k:Int)<m:=by omega
     obtain⟨s,G⟩:∃s,ch[k]?=some s:=⟨_,Cp (by rw[←HM.out];exact V)⟩;have az:=a5 s G;obtain⟨g2,o2,rfl,E⟩:=HB.out k s.cs (by rw[CK,G];rfl);have u0:W.cell? ⟨g2,o2+k*6,none⟩=some (.int .i64 s.id):=(aW E ar.out) 0 _ rfl;clear E G a5;go_region;rw[←z.out];clear z q0 q1 q2 q3 q4 q5 q6 u0 e8;cases fd with
     |false=>
      by_cases I:r.S.1=0
      ·rw[I]at F;go_wp2;go_roundw;case rel=>exact⟨i+1,k,by omega,J,rfl,by go_num,a.out.1,H.out⟩
       case measure=>simp[intOf];omega
      ·have a6:¬(k:Int)<f:=by
        rcases X.out with h|h
        ·unfold tm at h;rw[Cz (by simp)]at h;exact absurd h I
        ·omega
       go_wp2;go_roundw;case rel=>exact⟨i+1,k,by omega,J,rfl,by go_num,a.out.1,H.out⟩
       case measure=>simp[intOf];omega
     |true=>
      by_cases l:((0,0):SP)∈r.may
      ·have p:=Dg l;by_cases I:r.S.1=0
       ·rw[I]at F;go_wp2_with fail;refine(cY a.out.2 t.out.2 (0,0)).mono ?_;rintro e w4 ⟨rfl,d⟩;rw[p];have o:=af (a.out.1.trans d fI);clear d F M p8 p l;go_wp2;go_roundw;case rel=>exact⟨i+1,k,by omega,J,rfl,by go_num,o.out,H.out⟩
        case measure=>simp[intOf];omega
       ·go_wp2_with fail;refine(cY a.out.2 t.out.2 (0,0)).mono ?_;rintro e w4 ⟨rfl,d⟩;rw[p];have o:=af (a.out.1.trans d fI);clear d F M p8 p l;go_wp2;go_roundw;case rel=>exact⟨i+1,k,by omega,J,rfl,by go_num,o.out,H.out⟩
        case measure=>simp[intOf];omega
      ·have p:=Dl l;have a6:¬(k:Int)<f:=by
        rcases X.out with h|h
        ·unfold tm at h;rw[CE rfl]at h;exact absurd h l
        ·omega
       by_cases I:r.S.1=0
       ·rw[I]at F;go_wp2_with fail;refine(cY a.out.2 t.out.2 (0,0)).mono ?_;rintro e w4 ⟨rfl,d⟩;rw[p];have o:=af (a.out.1.trans d fI);clear d F M p8 p l;go_wp2;go_roundw;case rel=>exact⟨i+1,k,by omega,J,rfl,by go_num,o.out,H.out⟩
        case measure=>simp[intOf];omega
       ·go_wp2_with fail;refine(cY a.out.2 t.out.2 (0,0)).mono ?_;rintro e w4 ⟨rfl,d⟩;rw[p];have o:=af (a.out.1.trans d fI);clear d F M p8 p l;go_wp2;go_roundw;case rel=>exact⟨i+1,k,by omega,J,rfl,by go_num,o.out,H.out⟩
        case measure=>simp[intOf];omega
    ·have a0:¬(k:Int)<m:=by omega
     clear a5;go_region;rw[←z.out];clear z q0 q1 q2 q3 q4 q5 q6 e8;cases fd with
     |false=>
      by_cases I:r.S.1=0
      ·rw[I]at F;go_wp2;go_roundw;case rel=>exact⟨i+1,k,by omega,J,rfl,by go_num,a.out.1,H.out⟩
       case measure=>simp[intOf];omega
      ·have a6:¬(k:Int)<f:=by
        rcases X.out with h|h
        ·unfold tm at h;rw[Cz (by simp)]at h;exact absurd h I
        ·omega
       go_wp2;go_roundw;case rel=>exact⟨i+1,k,by omega,J,rfl,by go_num,a.out.1,H.out⟩
       case measure=>simp[intOf];omega
     |true=>
      by_cases l:((0,0):SP)∈r.may
      ·have p:=Dg l;by_cases I:r.S.1=0
       ·rw[I]at F;go_wp2_with fail;refine(cY a.out.2 t.out.2 (0,0)).mono ?_;rintro e w4 ⟨rfl,d⟩;rw[p];have o:=af (a.out.1.trans d fI);clear d F M p8 p l;go_wp2;go_roundw;case rel=>exact⟨i+1,k,by omega,J,rfl,by go_num,o.out,H.out⟩
        case measure=>simp[intOf];omega
       ·go_wp2_with fail;refine(cY a.out.2 t.out.2 (0,0)).mono ?_;rintro e w4 ⟨rfl,d⟩;rw[p];have o:=af (a.out.1.trans d fI);clear d F M p8 p l;go_wp2;go_roundw;case rel=>exact⟨i+1,k,by omega,J,rfl,by go_num,o.out,H.out⟩
        case measure=>simp[intOf];omega
      ·have p:=Dl l;have a6:¬(k:Int)<f:=by
        rcases X.out with h|h
        ·unfold tm at h;rw[CE rfl]at h;exact absurd h l
        ·omega
       by_cases I:r.S.1=0
       ·rw[I]at F;go_wp2_with fail;refine(cY a.out.2 t.out.2 (0,0)).mono ?_;rintro e w4 ⟨rfl,d⟩;rw[p];have o:=af (a.out.1.trans d fI);clear d F M p8 p l;go_wp2;go_roundw;case rel=>exact⟨i+1,k,by omega,J,rfl,by go_num,o.out,H.out⟩
        case measure=>simp[intOf];omega
       ·go_wp2_with fail;refine(cY a.out.2 t.out.2 (0,0)).mono ?_;rintro e w4 ⟨rfl,d⟩;rw[p];have o:=af (a.out.1.trans d fI);clear d F M p8 p l;go_wp2;go_roundw;case rel=>exact⟨i+1,k,by omega,J,rfl,by go_num,o.out,H.out⟩
        case measure=>simp[intOf];omega
  ·have ae:¬(i:Int)<L.length:=by omega
   have V:k=m:=by
    have h1:=Z.out.2;rw[CP (by omega)]at h1;cases h1
    exact HM.out.symm
   subst V;go_wp2;go_ret;exact⟨rfl,N.out.trans Z.out.1 fI⟩
section
variable{w:World}{k A B n:Nat}{s:DS}{C:Nat→Prop}
theorem ur{a:Value}{d:DP}(h:aP w A B n a d):Calls prog 37 #[.pointer (some ⟨A,0,none⟩)] w fun e b=>e= .returned (.int .i64 d.told)∧b=w:=by have c4:w.cell? ⟨A,4,none⟩=some (.int .i64 d.told):=h.c rfl;go_enter func37,ntmps37;go_wp2;go_ret;exact⟨rfl,rfl⟩
theorem DG.told(h:DG w k A B n s C):Calls prog 37 #[.pointer (some ⟨A,0,none⟩)] w fun e c=>e= .returned (.int .i64 s.d.told)∧c=w:=by obtain⟨_,b,a,f,_⟩:=h;exact ur f.d
def oQ(w:World)(v:Value)(a:Int):Prop:=v.oneCell'=true∧∀W,Fr (fun _=>False) w W→cN W→Calls prog 29 #[v] W fun e b=>e= .returned (.int .i64 a)∧Fr (fun _=>False) W b
theorem bZ.tell{v:Value}{a:Int}(h:bZ w v a):oQ w v a:=⟨h.one,fun _ b c=>mG (h.fr b (fun _ _ _ h=>h)) c⟩
theorem eT.tell{v:Value}(h:eT w v):oQ w v 5:=by obtain⟨f,t,g,rfl,b,c⟩:=h;exact⟨rfl,fun W a d=>eT.told ⟨f,t,g,rfl,a.keep b jI,c.fr a (fun _ _ _ _ _ h=>h)⟩ d⟩
theorem DG.formats(h:DG w k A B n s C)(t:k<60000)(u:cN w):Calls prog 40 #[.pointer (some ⟨A,0,none⟩)] w fun e f=>∃v m g o,e= .returned v∧oQ f v o∧DG f (k+1) A B n m g∧(∀b,g b→C b∨w.heap.size≤b)∧Fr (fun b=>b=A∨b=B∨C b) w f∧((dY n=false∧o=7∧m=s)∨(dY n=true∧m=(bF s n).2∧((o=0∧(bF s n).1=true)∨(o=5∧¬(bF s n).1=true∧s.d.told<m.d.told)))):=by
 by_cases hi:8≤n∧n≤400
 ·refine(h.format t hi.1 hi.2 (fun i x=>jM (by omega)) u).mono ?_;rintro e f ⟨v,g,rfl,p,q,j,a⟩;rcases a with⟨rfl,ok⟩|⟨y,bad,z⟩
  ·exact⟨_,_,g,0,rfl,bZ.tell (.inl ⟨rfl,rfl⟩),p,q,j,.inr ⟨by simp[dY,hi],rfl,.inl ⟨rfl,ok⟩⟩⟩
  ·exact⟨v,_,g,5,rfl,y.tell,p,q,j,.inr ⟨by simp[dY,hi],rfl,.inr ⟨rfl,bad,z⟩⟩⟩
 ·obtain⟨D,l,c,r,E⟩:=h;refine(oN r.d (by omega)).mono ?_;rintro e f ⟨v,rfl,F,j⟩;exact⟨v,s,C,7,rfl,F.tell,⟨D.mono (by omega),l,c,r.frz j,E⟩,fun _ h=> .inl h,j.mono (fun _ _ h=>h.elim),.inl ⟨by simp[dY];omega,rfl,rfl⟩⟩
end
theorem oW{w:World}{D A f n:Nat}{nn em fd:Bool}{x Lv:Value}{pause clock:Int}(h:aH w D A f n nn em x pause clock fd Lv):Calls prog 81 #[.pointer (some ⟨D,0,none⟩)] w fun e g=>e= .returned (.bool (dY n))∧g=w:=by
 have c2:=h.c2;by_cases c:8≤n
 ·have a:decide ((8:Int)≤n)=true:=by simp;omega
  by_cases d:n≤400
  ·have hi:dY n=true:=by simp[dY,c,d]
   have b:decide ((n:Int)≤400)=true:=by simp;omega
   rw[hi];clear hi;go_enter func81,ntmps81;go_wp2;go_ret;exact⟨rfl,rfl⟩
  ·have hi:dY n=false:=by simp[dY,d]
   have b:decide ((n:Int)≤400)=false:=by simp;omega
   rw[hi];clear hi;go_enter func81,ntmps81;go_wp2;go_ret;exact⟨rfl,rfl⟩
 ·have a:decide ((8:Int)≤n)=false:=by simp;omega
  have hi:dY n=false:=by simp[dY,c]
  rw[hi];clear hi;go_enter func81,ntmps81;go_wp2;go_ret;exact⟨rfl,rfl⟩
def AF(D A B c n k:Nat)(nn em:Bool)(pause clock:Int)(fd:Bool)(Lv:Value)(s:DS)(C:Nat→Prop)(w:World)(e:Ending)(a:World):Prop:=e= .returned (.bool true)∧∃d f,DG a (k+1) A B n d f∧(∀b,f b→C b∨w.heap.size≤b)∧Fr (fun b=>b=D∨b=A∨b=B∨C b) w a∧((dY n=false∧d=s∧aH a D A c n nn em (.pointer none) pause clock fd Lv)∨(dY n=true∧d=(bF s n).2∧(((bF s n).1=true∧aH a D A c n false false (.pointer none) 0 0 false (.slice none 0 0))∨(¬(bF s n).1=true∧aH a D A c n true true (.pointer none) pause clock fd Lv))))
theorem pR{w:World}{D A B n Z k:Nat}{nn em fd:Bool}{x Lv:Value}{pause clock:Int}{s:DS}{C:Nat→Prop}(h:aH w D A Z n nn em x pause clock fd Lv)(hD:DG w k A B n s C)(hk:k<60000)(a:D≠A∧D≠B∧¬C D)(hG:cN w)(M:NG (fun b=>b=D∨b=A∨b=B∨C b)):Calls prog 52 #[.pointer (some ⟨D,0,none⟩)] w fun e w'=>AF D A B Z n k nn em pause clock fd Lv s C w e w':=by
 have a1:=lt_of_heap h;have U:=h.set5 (.pointer none);have f:Fr (· =D) w (w.setCell ⟨D,5,none⟩ (.pointer none)):=Fr.set1 _ _ _ _;have c5:=h.c5;have f5:=h.fz 5;obtain⟨W,HW⟩:=aw (w.setCell ⟨D,5,none⟩ (.pointer none));rw[←HW.out]at U f;have y:=hD.fr f (fun e=>a.1 e.symm) (fun e=>a.2.1 e.symm) (fun b z e=>a.2.2 (e▸z));have h5:(Instr.storeAt 32 (.pointer (some ⟨D,5,none⟩)) (.pointer none)).run prog w= .ok () W:=by rw[HW.out];exact ah c5 f5 (by kernel_rfl) rfl
 have E:=hG.fr f (M.mono (fun _ h=> .inl h));have N:=af f;have H1:=af U;have c0:=U.c0;have O:=y.told;have P:=y.formats hk E;clear h hD c5 f5 HW f;go_enter func52,ntmps52;go_wp2_with (refine ae 32 (w':=W) _ _ rfl rfl ?_ ?_;exact h5);refine O.mono ?_;rintro e w1 ⟨rfl,g⟩;rw[g];clear g;go_wp2_with fail;refine P.mono ?_;rintro e w2 ⟨v,F,i,kk,rfl,hv,Q,R,j,G⟩;have h2:=H1.out.fr j (by rintro(e|e|e);exact a.1 e;exact a.2.1 e;exact a.2.2 e);have S:=E.fr j (M.mono (fun _ h=> .inr h));have a2:=hv.1;have T:=hv.2 w2 (Fr.refl _ _) S;have q:Hid (Fr (fun b=>b=D∨b=A∨b=B∨C b) w w2):=(N.out.mono (fun _ _ h=> .inl h)).trans j (fun _ _ h=> .inr h);have V:Hid (DG w2 (k+1) A B n F i∧∀b,i b→C b∨w.heap.size≤b):=⟨Q,fun b z=>(R b z).imp_right (fun h=>Ct N.out.size h)⟩;clear c0 U E j h5 H1 y O P hv Q R;go_wp2_with fail;refine T.mono ?_;rintro e J ⟨rfl,l⟩;have c:=h2.fr l jI;have m:Hid (DG J (k+1) A B n F i∧(∀b,i b→C b∨w.heap.size≤b)∧Fr (fun b=>b=D∨b=A∨b=B∨C b) w J∧¬i D):=⟨V.out.1.fr l jI jI fI,V.out.2,q.out.trans (l.mono (fun _ _ h=>h.elim)) fI,fun hc=>by
  rcases V.out.2 D hc with h|h
  ·exact a.2.2 h
  ·omega⟩
 clear h2 S l T V q;go_wp2_with fail;refine(eS kk _).mono ?_;rintro e w4 ⟨rfl,g⟩;rw[g];clear g;go_wp2_with fail;refine(oW c).mono ?_;rintro e w5 ⟨rfl,g⟩;rw[g];clear g;have c3:=c.c3;have c4:=c.c4;have c6:=c.c6;have c7:=c.c7;have c8:=c.c8;have c9:=c.c9;have fz:=c.fz;have H3:=af c;have c0:=c.c0;rcases G with⟨hi,rfl,rfl⟩|⟨hi,o,⟨rfl,ok⟩|⟨rfl,bad,ht⟩⟩
 ·rw[hi];have p:=af hi;clear hi c;go_wp2;go_ret;obtain⟨r,t,u,_⟩:=m.out;exact⟨rfl,_,i,r,t,u,.inl ⟨p.out,rfl,H3.out⟩⟩
 ·rw[hi];have p:Hid (dY n=true∧F=(bF s n).2∧(bF s n).1=true):=⟨hi,o,ok⟩;clear hi o ok c;go_wp2;go_ret;have K:=H3.out.set3 false;have X:=K.set4 false;have e6:=X.set6 0;have e7:=e6.set7 0;have e8:=e7.set8 false;have e9:=e8.set9 (.slice none 0 0);have d:Fr (· =D) J ((((((J.setCell ⟨D,3,none⟩ (.bool false)).setCell ⟨D,4,none⟩ (.bool false)).setCell ⟨D,6,none⟩ (.int .i64 0)).setCell ⟨D,7,none⟩ (.int .i64 0)).setCell ⟨D,8,none⟩ (.bool false)).setCell ⟨D,9,none⟩ (.slice none 0 0)):=eh.set (eh.set (eh.set (eh.set (eh.set (eh.set (Fr.refl _ _))))));obtain⟨r,t,u,L⟩:=m.out;exact⟨rfl,F,i,r.fr d (fun e=>a.1 e.symm) (fun e=>a.2.1 e.symm) (fun b z e=>L (e▸z)),t,u.trans (d.mono (fun _ _ h=> .inl h)) fI,.inr ⟨p.out.1,p.out.2.1,.inl ⟨p.out.2.2,e9⟩⟩⟩
 ·rw[hi];have p:Hid (dY n=true∧F=(bF s n).2∧¬(bF s n).1=true):=⟨hi,o,bad⟩;have X:=H3.out.set4 true;have K:=X.set3 true;obtain⟨Y,H⟩:=aw ((J.setCell ⟨D,4,none⟩ (.bool true)).setCell ⟨D,3,none⟩ (.bool true));have d:Fr (· =D) J Y:=by rw[H.out];exact eh.set (eh.set (Fr.refl _ _))
  rw[←H.out]at K;obtain⟨r,t,u,L⟩:=m.out;have I:=r.fr d (fun e=>a.1 e.symm) (fun e=>a.2.1 e.symm) (fun b z e=>L (e▸z));have a0:=I.told;have HE:Hid (DG Y (k+1) A B n F i∧(∀b,i b→C b∨w.heap.size≤b)∧Fr (fun b=>b=D∨b=A∨b=B∨C b) w Y∧aH Y D A Z n true true (.pointer none) pause clock fd Lv):=⟨I,t,u.trans (d.mono (fun _ _ h=> .inl h)) fI,K⟩;have x0:=K.c0;clear hi o bad c X K d r t u L I m;go_wp2_with fail;rw[←H.out];refine a0.mono ?_;rintro e w6 ⟨rfl,g⟩;rw[g];clear g;go_wp2;go_ret;obtain⟨r,t,u,L⟩:=HE.out;exact⟨rfl,F,i,r,t,u,.inr ⟨p.out.1,p.out.2.1,.inr ⟨p.out.2.2,L⟩⟩⟩
def stOf(rs:List ba)(id:Int):SP:=(((bh rs).find? fun a=>decide (a.id=id)).map AS.S).getD (0,0)
structure bw(L:List RS)(rs:List ba):Prop where
 may:∀r∈L,stOf rs r.id∈r.may
 st:∀r∈L,∀a∈bh rs,a.id=r.id→a.st=r.st
 all:∀a∈bh rs,∃r∈L,r.id=a.id
section
variable{rs:List ba}{id:Int}
theorem fj(h:∀a∈bh rs,a.id≠id):stOf rs id=(0,0):=by unfold stOf;rw[List.find?_eq_none.2 (fun a b=>by simpa using h a b)];rfl
theorem dx(d:bE rs){a:AS}(f:a∈bh rs)(c:a.id=id):stOf rs id=a.S:=by
 unfold stOf;cases h:(bh rs).find? fun a=>decide (a.id=id)with
 |none=>exact absurd c (by simpa using List.find?_eq_none.1 h a f)
 |some b=>
  have g:=List.mem_of_find?_eq_some h;have e:=List.find?_some h;have e:b.id=id:=by simpa using e
  rw[lA (gH d).so f g (c.trans e.symm)];rfl
theorem vU{i:Nat}{st:List SS}(d:bE (rs++[ba.take i st])):stOf (rs++[ba.take i st]) id=if id=(i:Int)then(1,1)else stOf rs id:=by
 obtain⟨h,j,k⟩:=dl.1 d;have e:bh (rs++[ba.take i st])=dS (bS i st) (bh rs):=dw _ _;by_cases b:id=(i:Int)
 ·rw[CE b,dx d (a:=bS i st) (by rw[e];exact cP.2 (.inl rfl)) b.symm];rfl
 ·rw[Cz b];by_cases hex:∃a∈bh rs,a.id=id
  ·obtain⟨a,c,f⟩:=hex;rw[dx h c f,dx d (a:=a) (by rw[e];exact cP.2 (.inr c)) f]
  ·rw[fj (fun a c e=>hex ⟨a,c,e⟩),fj];intro a c g;rw[e]at c;rcases cP.1 c with rfl|c
   ·exact b g.symm
   ·exact hex ⟨a,c,g⟩
structure Ar(L L':List RS)(i:Int)(P:RS→Prop):Prop where
 old:∀r∈L',r.id≠i→r∈L
 new:∀r∈L',r.id=i→P r
 kept:∀r∈L,r.id≠i→r∈L'
 some:∃r∈L',r.id=i
variable{L L':List RS}{P:RS→Prop}
theorem bw.turn(h:bw L rs){i:Int}(d:Ar L L' i P)(j:∀r,r.id=i→P r→stOf rs i∈r.may∧∀a∈bh rs,a.id=i→a.st=r.st):bw L' rs:=by
 refine⟨fun r b=>?_,fun r b a f e=>?_,fun a f=>?_⟩
 ·by_cases e:r.id=i
  ·rw[e];exact(j r e (d.new r b e)).1
  ·exact h.may r (d.old r b e)
 ·by_cases c:r.id=i
  ·exact(j r c (d.new r b c)).2 a f (e.trans c)
  ·exact h.st r (d.old r b c) a f e
 ·obtain⟨r,b,e⟩:=h.all a f;by_cases c:r.id=i
  ·obtain⟨k,g,l⟩:=d.some;exact⟨k,g,by rw[l,←c,e]⟩
  ·exact⟨r,d.kept r b c,e⟩
theorem bw.take(h:bw L rs){i:Nat}{st:List SS}(g:bE (rs++[ba.take i st]))(f:Ar L L' (i:Int) P)(k:∀r,r.id=(i:Int)→P r→((1,1):SP)∈r.may∧r.st=st):bw L' (rs++[ba.take i st]):=by
 have e:bh (rs++[ba.take i st])=dS (bS i st) (bh rs):=dw _ _;obtain⟨m,n,l⟩:=dl.1 g;refine⟨fun r d=>?_,fun r d a b c=>?_,fun a b=>?_⟩
 ·rw[vU g];by_cases c:r.id=(i:Int)
  ·rw[CE c];exact(k r c (f.new r d c)).1
  ·rw[Cz c];exact h.may r (f.old r d c)
 ·rw[e]at b;by_cases j:r.id=(i:Int)
  ·rcases cP.1 b with rfl|b
   ·exact(k r j (f.new r d j)).2.symm
   ·exact absurd (c.trans j) (l a b)
  ·rcases cP.1 b with rfl|b
   ·exact absurd c.symm j
   ·exact h.st r (f.old r d j) a b c
 ·rw[e]at b;rcases cP.1 b with rfl|b
  ·exact f.some
  ·obtain⟨r,d,c⟩:=h.all a b;exact⟨r,f.kept r d (by rw[c];exact l a b),c⟩
end
structure ci(fd:Bool)(Le:List AS)(L:List RS):Prop where
 hit:∀a∈Le,∀r∈L,a.id=r.id→ud fd a.told r
 miss:∀r∈L,(∀a∈Le,a.id≠r.id)→tm fd r
 all:∀a∈Le,∃r∈L,r.id=a.id
theorem j4{fd:Bool}{most:Int}(o:List AS):∀(L:List RS) (pre c:List AS),o=pre++c→c.Pairwise (fun a b=>a.id<b.id)→L.Pairwise (fun a b=>a.id<b.id)→ci fd c L→wH fd most ((o.take most.toNat).map AS.told) (min pre.length most.toNat) L
 |[],pre,c,t,_,_,m=>by
  obtain rfl:c=[]:=by
   cases c with
   |nil=>rfl
   |cons a l=>obtain⟨r,y,_⟩:=m.all a (by simp);cases y
  have e:min pre.length most.toNat=((o.take most.toNat).map AS.told).length:=by rw[t,D4,CR,Cy];omega
  rw[e];exact .nil
 |r::L,pre,c,t,v,u,m=>by
  have g:((o.take most.toNat).map AS.told).length=min most.toNat (pre.length+c.length):=by rw[t,CR,Cy,Cr]
  rw[Ds]at u;cases c with
  |nil=>
   have d:=j4 (fd:=fd) (most:=most) o L pre [] t .nil u.2 ⟨fun a w=>(by cases w),fun q f h=>m.miss q (by simp[f]) h,fun a w=>(by cases w)⟩;refine .miss (fun s j=>?_) (by rw[g];simp;omega) (.inl (m.miss r (by simp) (fun a w=>by cases w))) d;have:=(Co.1 j).1;rw[g]at this;simp at this;omega
  |cons a c=>
   rw[Ds]at v;have p:pre.length<most.toNat→((o.take most.toNat).map AS.told)[min pre.length most.toNat]?=some a.told:=fun h=>by rw[CK,DE,CE (by omega),t,show min pre.length most.toNat=pre.length by omega,CG (Cs _)];simp
   by_cases n:a.id=r.id
   ·have k:ci fd c L:=by
     refine⟨fun b i q f e=>m.hit b (by simp[i]) q (by simp[f]) e,fun q f h=>m.miss q (by simp[f]) (fun b i=>?_),fun b i=>?_⟩
     ·rcases CF.1 i with rfl|i
      ·have:=u.1 q f;omega
      ·exact h b i
     ·obtain⟨q,f,e⟩:=m.all b (by simp[i]);rcases CF.1 f with rfl|f
      ·have:=v.1 b i;omega
      ·exact⟨q,f,e⟩
    have d:=j4 (fd:=fd) (most:=most) o L (pre++[a]) c (by rw[t];simp) v.2 u.2 k;rw[Cr,CM]at d;by_cases z:pre.length<most.toNat
    ·rw[show min (pre.length+1) most.toNat=min pre.length most.toNat+1 by omega]at d;exact .hit (p z) n (m.hit a (by simp) r (by simp) n) d
    ·rw[show min (pre.length+1) most.toNat=min pre.length most.toNat by omega]at d;refine .miss (fun s j=>?_) (by rw[g];simp;omega) (.inr (by omega)) d;have:=(Co.1 j).1;rw[g]at this;omega
   ·have x:∀b∈a::c,b.id≠r.id:=fun b i e=>by
     rcases CF.1 i with rfl|i
     ·exact n e
     ·obtain⟨q,f,A⟩:=m.all a (by simp);rcases CF.1 f with rfl|f
      ·exact n A.symm
      ·have:=v.1 b i;have:=u.1 q f;omega
    have k:ci fd (a::c) L:=by
     refine⟨fun b i q f e=>m.hit b i q (by simp[f]) e,fun q f h=>m.miss q (by simp[f]) h,fun b i=>?_⟩;obtain⟨q,f,e⟩:=m.all b i;rcases CF.1 f with rfl|f
     ·exact absurd e.symm (x b i)
     ·exact⟨q,f,e⟩
    have d:=j4 (fd:=fd) (most:=most) o L pre (a::c) t (Ds.2 v) u.2 k;refine .miss (fun s j=>?_) (by rw[g];simp;omega) (.inl (m.miss r (by simp) x)) d;have B:=(Co.1 j).1;rw[g]at B;rw[p (by omega)]at j;obtain rfl:a.told=s:=by simpa using j
    exact n
theorem ci.lst{fd:Bool}{c:Int}{d:List AS}{L:List RS}(h:ci fd d L)(e:d.Pairwise (fun a b=>a.id<b.id))(f:L.Pairwise (fun a b=>a.id<b.id)):wH fd c ((d.take c.toNat).map AS.told) 0 L:=by have:=j4 (fd:=fd) (most:=c) d L [] d rfl e f h;simpa using this
theorem ci.stat{fd:Bool}{j:List AS}{L:List RS}{id:Int}{w k:World}{e:Ending}(h:ci fd j L)(n:oh j id w e k):zR fd L id w e k:=by
 obtain⟨s,v,l,m,⟨a,c,f,rfl,g⟩|⟨i,rfl,g⟩⟩:=n
 ·obtain⟨r,d,b⟩:=h.all a c;exact⟨_,v,l,m,.inl ⟨r,d,b.trans f,h.hit a c r d b.symm,g⟩⟩
 ·exact⟨_,v,l,m,.inr ⟨fun r d o=>h.miss r d (fun a c p=>i a c (p.trans o)),rfl,g⟩⟩
def us(d:Bool)(S:SP)(r f:RS):Prop:=f.id=r.id∧f.sa=r.sa∧f.sc=r.sc∧f.st=r.st∧f.S=S∧f.tries=0∧f.due=0∧(if d=true then f.may=[S]∧f.mc=1 else f.may=r.may∧f.ma=r.ma∧f.mc=r.mc)
def eV(F:Int→SP)(r:RS):Bool:=decide ((F r.id).1≠0)
inductive lu (d:Bool) (F:Int→SP):List RS→List RS→Prop
 |nil:lu d F [] []
 |snoc {L L':List RS} {r f:RS} (h:lu d F L L') (hr:us d (F r.id) r f) (hs:d=true→eV F r=true):lu d F (L++[r]) (L'++[f])
 |skip {L L':List RS} {r:RS} (h:lu d F L L') (hs:d=true) (hr:eV F r=false):lu d F (L++[r]) L'
section
variable{d:Bool}{F:Int→SP}{L L':List RS}
theorem lu.len(h:lu d F L L'):L'.length≤L.length:=by
 induction h with
 |nil=>exact Cs _
 |snoc _ _ _ a=>simp;exact a
 |skip _ _ _ a=>simp;omega
theorem lu.mem(h:lu d F L L'):∀f∈L',∃r∈L,us d (F r.id) r f∧(d=true→eV F r=true):=by
 induction h with
 |nil=>intro f b;cases b
 |snoc _ b k c=>
  intro q a;rcases Cv.1 a with a|a
  ·obtain⟨r,e,g⟩:=c q a;exact⟨r,by simp[e],g⟩
  ·simp at a;subst a;exact⟨_,by simp,b,k⟩
 |skip _ _ _ c=>
  intro q a;obtain⟨r,e,g⟩:=c q a;exact⟨r,by simp[e],g⟩
theorem lu.hit(h:lu d F L L'):∀r∈L,(d=true→eV F r=true)→∃f∈L',us d (F r.id) r f:=by
 induction h with
 |nil=>intro f b;cases b
 |snoc _ b g e=>
  intro q a c;rcases Cv.1 a with a|a
  ·obtain⟨r,k,l⟩:=e q a c;exact⟨r,by simp[k],l⟩
  ·simp at a;subst a;exact⟨_,by simp,b⟩
 |skip _ g b e=>
  intro q a c;rcases Cv.1 a with a|a
  ·exact e q a c
  ·simp at a;subst a;rw[b]at c;exact absurd (c g) (by simp)
theorem lu.sorted(h:lu d F L L')(c:L.Pairwise (fun a b=>a.id<b.id)):L'.Pairwise (fun a b=>a.id<b.id):=by
 induction h with
 |nil=>exact .nil
 |snoc h g l e=>
  rw[Dt]at c⊢;refine⟨e c.1,by simp,fun a n b k=>?_⟩;simp at k;subst k;obtain⟨q,o,p,_⟩:=h.mem a n;rw[p.1,g.1];exact c.2.2 q o _ (by simp)
 |skip h l g e=>rw[Dt]at c;exact e c.1
end
def tx(F:Int→SP)(r:RS):ST:=⟨r.id,(F r.id).1,(F r.id).2,r.st.length,0,0⟩
def ee(F:Int→SP)(L:List RS):List ST:=(L.filter (eV F)).map (tx F)
def kf(F:Int→SP)(L:List RS)(i:Nat):Nat:=((L.take i).filter (eV F)).length
section
variable{F:Int→SP}{L:List RS}{i:Nat}{r:RS}
theorem mN(F:Int→SP)(L:List RS)(i:Nat):ee F L=ee F (L.take i)++ee F (L.drop i):=by unfold ee;rw[←CV,←F9,CX]
theorem iC(F:Int→SP)(L:List RS)(i:Nat):(ee F (L.take i)).length=kf F L i:=by simp[ee,kf]
theorem kE(F:Int→SP)(L:List RS):kf F L L.length=(ee F L).length:=by rw[←iC,Dj]
theorem oq(a:L[i]?=some r)(c:eV F r=true):(ee F L)[kf F L i]?=some (tx F r)∧kf F L (i+1)=kf F L i+1:=by
 have b:=(Co.1 a).1;constructor
 ·rw[mN F L i,CG (by rw[iC];omega),iC,Dk b,(Co.1 a).2];simp[ee,c]
 ·unfold kf;rw[D1,a];simp[c]
theorem lH(l:L.Pairwise (fun a b=>a.id<b.id))(e:L[i]?=some r)(n:eV F r=false):(∀s,(ee F L)[kf F L i]?=some s→s.id≠r.id)∧kf F L (i+1)=kf F L i:=by
 have h:=(Co.1 e).1;have k:=(Co.1 e).2;constructor
 ·intro s c;rw[mN F L i,CG (by rw[iC];omega),iC,Dk h,k]at c;have c:=Cq c;unfold ee at c;obtain⟨q,g,rfl⟩:=Cx.1 c;rw[FW,Cz (by simp[n])]at g;have g:=(Et.1 g).1;rw[←CX (i+1) L,Dt]at l;have:=l.2.2 r (by rw[D1,e];simp) q g;show q.id≠r.id;omega
 ·unfold kf;rw[D1,e];simp[n]
end
def gz(b:Nat)(w:World)(r:RS):Prop:=∃g,b≤g∧r.ma=some ⟨g,0,none⟩∧w.heap[g]?=some (.cells #[.int .i64 r.S.1,.int .i64 r.S.2] 220 (0,0))
def kt(p q:RS):Prop:=∀a,p.ma=some a→q.ma≠some a
theorem gz.fr{b:Nat}{S:Nat→Prop}{w a:World}{r:RS}(h:gz b w r)(k:Fr S w a)(l:∀b c,w.heap[b]?=some (.cells c 220 (0,0))→¬S b):gz b a r:=by obtain⟨g,n,o,e⟩:=h;exact⟨g,n,o,k.keep e (l g _ e)⟩
def i7(d:Bool)(F:Int→SP)(w1:World)(L:List RS)(i m:Nat)(j:Value)(wr:World):Prop:=∃L',lu d F (L.take i) L'∧L'.length=m∧wr.ownsRow w1.heap.size 223 7 j m (az L')∧(d=true→(∀r∈L',gz w1.heap.size wr r)∧L'.Pairwise kt)∧Fr (fun _=>False) w1 wr
theorem i7.zero(d:Bool)(F:Int→SP)(w1:World)(L:List RS):i7 d F w1 L 0 0 (.slice none 0 0) w1:=⟨[],.nil,rfl,CT _ _ _ _,fun _=>⟨fun r a=>(by cases a),.nil⟩,Fr.refl _ _⟩
section
variable{d:Bool}{F:Int→SP}{w1 wr W:World}{L:List RS}{i m:Nat}{j:Value}{r f:RS}
theorem i7.skip(h:i7 d F w1 L i m j wr)(a:Fr (fun _=>False) wr W)(c:L[i]?=some r)(g:d=true)(k:eV F r=false):i7 d F w1 L (i+1) m j W:=by obtain⟨L',l,n,o,b,p⟩:=h;refine⟨L',?_,n,bY o a fI,fun e=>⟨fun q s=>((b e).1 q s).fr a (fun _ _ _ h=>h),(b e).2⟩,p.trans a fI⟩;rw[D1,c];exact l.skip g k
theorem i7.step(h:i7 d F w1 L i m j wr)(y:Fr (fun _=>False) wr W)(O:L[i]?=some r)(hF:us d (F r.id) r f)(P:d=true→eV F r=true)(G:d=true→gz wr.heap.size W f):∃H,W.ownsRow w1.heap.size 223 7 j m H∧w1.heap.size≤W.heap.size∧∀(o:World) (w:Value),o.ownsRow w1.heap.size 223 7 w (m+1) (H++f.cs)→W.grownBy o j.ownBlock→i7 d F w1 L (i+1) (m+1) w o∧∃z c2,w= .slice z (m+1) c2:=by
 obtain⟨L',Q,R,S,A,I⟩:=h;have l:=bY S y fI;have p:=I.trans y fI;refine⟨az L',l,p.size,fun o w s J=>?_⟩;obtain⟨z,c2,x,_⟩:=aN s;have t:Fr (fun b=>j.ownBlock=some b) W o:=(Fr.refl _ _).grown J fI;have u:∀b c,W.heap[b]?=some (.cells c 220 (0,0))→¬j.ownBlock=some b:=by
  intro b c v e;rcases l.2 with⟨rfl,_⟩|⟨g,T,U,rfl,_,B,_⟩
  ·cases e
  ·simp only[Value.ownBlock,Cu]at e;subst e;rw[B]at v;simp at v
 refine⟨⟨L'++[f],?_,by simp[R],?_,fun e=>⟨fun q n=>?_,?_⟩,?_⟩,z,c2,x⟩
 ·rw[D1,O];exact Q.snoc hF P
 ·rw[de];simpa[az]using s
 ·rw[Cv]at n;rcases n with n|n
  ·exact(((A e).1 q n).fr y (fun _ _ _ h=>h)).fr t u
  ·simp at n;subst n;obtain⟨g,K,C,M⟩:=(G e).fr t u;exact⟨g,Ct I.size K,C,M⟩
 ·rw[Dt];refine⟨(A e).2,by simp,fun a V b v=>?_⟩;simp at v;subst v;obtain⟨g,K,C,M⟩:=G e;obtain⟨Y,_,D,E⟩:=(A e).1 a V;intro Z N x;rw[C]at x;rw[D]at N;have:=lt_of_heap E;have X:=N.trans x.symm;simp only[Cu,Ec,ER]at X;omega
 ·exact p.grown J (fun k hk e=>by have:=(l.lt k e).1;omega)
end
def iI(d:Bool)(F:Int→SP)(L:List RS)(D A b n:Nat)(nn em:Bool)(c:Option Addr)(pause:Int)(w:World)(e:Ending)(a:World):Prop:=e= .returned (.bool true)∧∃Lv L',aH a D A b n (nn&& !d) (em&& !d) (.pointer c) pause 0 false Lv∧lu d F L L'∧a.ownsRow w.heap.size 223 7 Lv L'.length (az L')∧(d=true→(∀r∈L',gz w.heap.size a r)∧L'.Pairwise kt)∧Fr (· =D) w a
theorem i7.end{d:Bool}{F:Int→SP}{w w1 wr:World}{L:List RS}{m:Nat}{j:Value}{D A o n:Nat}{nn em:Bool}{p:Option Addr}{pause:Int}{W:World}(h:i7 d F w1 L L.length m j wr)(v:D<w.heap.size)(a:Fr (· =D) w w1)(l:Fr (· =D) wr W)(x:aH W D A o n (nn&& !d) (em&& !d) (.pointer p) pause 0 false j)(y:∀c,wr.heap[D]?≠some (.cells c 220 (0,0))):iI d F L D A o n nn em p pause w (.returned (.bool true)) W:=by obtain⟨L',s,z,B,t,C⟩:=h;rw[Dj]at s;subst z;have k:=a.size;refine⟨rfl,j,L',x,s,bg (bY B l (fun b u e=>by omega)) k,fun e=>⟨fun q E=>?_,(t e).2⟩,(a.trans (C.mono (fun _ _ h=>h.elim)) fI).trans l fI⟩;obtain⟨g,G,H,I⟩:=((t e).1 q E).fr l (fun b c u e=>by subst e;exact y c u);exact⟨g,Ct k G,H,I⟩
theorem iN{α:Type}{f:α→Int}:∀{l m:List α},l.Pairwise (fun a b=>f a<f b)→m.Pairwise (fun a b=>f a<f b)→(∀x,x∈l↔x∈m)→l=m
 |[],[],_,_,_=>rfl
 |[],b::m,_,_,h=>by have:=(h b).2 (by simp);cases this
 |a::l,[],_,_,h=>by have:=(h a).1 (by simp);cases this
 |a::l,b::m,i,j,h=>by
  rw[Ds]at i j;have k:a=b:=by
   rcases CF.1 ((h a).1 (by simp))with e|e
   ·exact e
   ·rcases CF.1 ((h b).2 (by simp))with o|o
    ·exact o.symm
    ·have:=i.1 b o;have:=j.1 a e;omega
  subst k;congr 1;refine iN i.2 j.2 (fun x=>⟨fun g=>?_,fun g=>?_⟩)
  ·rcases CF.1 ((h x).1 (by simp[g]))with rfl|e
   ·have:=i.1 _ g;omega
   ·exact e
  ·rcases CF.1 ((h x).2 (by simp[g]))with rfl|e
   ·have:=j.1 _ g;omega
   ·exact e
section
variable{rs d:List ba}{L L':List RS}{c:Bool}{id:Int}{n:Nat}{clock:Int}{Le:List AS}
theorem pU(b:bE rs):(∃a∈bh rs,a.id=id∧stOf rs id=a.S∧a.S.1≠0)∨((∀a∈bh rs,a.id≠id)∧stOf rs id=(0,0)):=by
 by_cases h:∃a∈bh rs,a.id=id
 ·obtain⟨a,f,g⟩:=h;refine .inl ⟨a,f,g,dx b f g,?_⟩;have:=((gH b).ok a f).1.s;omega
 ·have i:∀a∈bh rs,a.id≠id:=fun a f e=>h ⟨a,f,e⟩;exact .inr ⟨i,fj i⟩
theorem vB(b:bE rs)(id:Int)(h:(stOf rs id).1=0):stOf rs id=(0,0):=by
 rcases pU (id:=id) b with⟨a,_,_,e,f⟩|⟨_,e⟩
 ·rw[e]at h;exact absurd h f
 ·exact e
theorem vH(g:bE rs)(p:bw L rs)(t:L.Pairwise (fun a b=>a.id<b.id)):ee (stOf rs) L=(bh rs).map AS.told:=by
 refine iN (f:=ST.id) ?_ ?_ (fun s=>?_)
 ·unfold ee;rw[Dw];exact(t.filter _).imp jI
 ·rw[Dw];exact(gH g).so.imp jI
 ·unfold ee;have k:∀r∈L,∀a∈bh rs,a.id=r.id→tx (stOf rs) r=a.told:=fun r j a i e=>by
   have l:=p.st r j a i e;have m:=dx g i e;have q:=((gH g).ok a i).2.2;have u:a.tries=0:=by rw[←q];rfl
   have v:a.due=0:=by rw[←q];rfl
   unfold tx AS.told;rw[m,←e,l,u,v]
  constructor
  ·intro h;obtain⟨r,j,rfl⟩:=Cx.1 h;obtain⟨j,w⟩:=Et.1 j;rcases pU (id:=r.id) g with⟨a,i,o,_⟩|⟨_,l⟩
   ·exact Cx.2 ⟨a,i,(k r j a i o).symm⟩
   ·simp[eV,l]at w
  ·intro h;obtain⟨a,i,rfl⟩:=Cx.1 h;obtain⟨r,j,e⟩:=p.all a i;refine Cx.2 ⟨r,Et.2 ⟨j,?_⟩,k r j a i e.symm⟩;have m:=dx g i e.symm;have:=((gH g).ok a i).1.s;simp[eV,m];omega
theorem lu.may(h:lu c (stOf rs) L L')(i:bE rs)(l:bw L rs):bw L' rs:=by
 refine⟨fun j b=>?_,fun j b a k e=>?_,fun a k=>?_⟩
 ·obtain⟨r,b,f,_⟩:=h.mem j b;obtain⟨o,_,_,_,_,_,_,g⟩:=f;rw[o];cases c with
  |true=>rw[CE rfl]at g;rw[g.1];simp
  |false=>rw[Cz (by simp)]at g;rw[g.1];exact l.may r b
 ·obtain⟨r,b,f,_⟩:=h.mem j b;rw[f.2.2.2.1];exact l.st r b a k (e.trans f.1)
 ·obtain⟨r,b,e⟩:=l.all a k;have g:=dx i k e.symm;have:=((gH i).ok a k).1.s;obtain⟨j,m,f⟩:=h.hit r b (fun _=>by simp[eV,g];omega);exact⟨j,m,f.1.trans e⟩
theorem lu.may0{F:Int→SP}(h:lu false F L L')(i:bw L d):bw L' d:=by
 refine⟨fun g b=>?_,fun g b a j e=>?_,fun a j=>?_⟩
 ·obtain⟨r,b,f,_⟩:=h.mem g b;obtain⟨m,_,_,_,_,_,_,l⟩:=f;rw[Cz (by simp)]at l;rw[m,l.1];exact i.may r b
 ·obtain⟨r,b,f,_⟩:=h.mem g b;rw[f.2.2.2.1];exact i.st r b a j (e.trans f.1)
 ·obtain⟨r,b,e⟩:=i.all a j;obtain⟨g,k,f⟩:=h.hit r b (fun h=>by cases h);exact⟨g,k,f.1.trans e⟩
theorem lu.tells(h:lu c (stOf rs) L L')(b:bE rs)(m:bw L rs):ci false (bh rs) L':=by
 refine⟨fun a f j g e=>?_,fun j g k=>?_,fun a f=>(h.may b m).all a f⟩
 ·obtain⟨r,g,⟨i,_,_,o,l,p,q,_⟩,_⟩:=h.mem j g;have t:=dx b f (e.trans i);have s:=((gH b).ok a f).2.2;have u:a.tries=0:=by rw[←s];rfl
  have v:a.due=0:=by rw[←s];rfl
  unfold ud;rw[Cz (by simp)];unfold AS.told RS.st';rw[e,l,t,o,p,q,u,v,m.st r g a f (e.trans i)]
 ·obtain⟨r,g,⟨i,_,_,o,l,p,q,_⟩,_⟩:=h.mem j g;unfold tm;rw[Cz (by simp),l,fj (fun a f e=>k a f (e.trans i.symm))]
theorem gr.mem_rec(b:gr n clock Le rs){a:AS}(e:a∈Le):a.zero∈bh rs:=by rw[←b.zL];exact Cx.2 ⟨a,e,rfl⟩
theorem gr.of_rec(g:gr n clock Le rs){b:AS}(f:b∈bh rs):∃a∈Le,a.zero=b:=by rw[←g.zL]at f;obtain⟨a,h,e⟩:=Cx.1 f;exact⟨a,h,e⟩
theorem gr.st(b:gr n clock Le rs)(f:bw L rs){a:AS}(g:a∈Le){r:RS}(h:r∈L)(e:a.id=r.id):a.st=r.st:=f.st r h a.zero (b.mem_rec g) e
theorem gr.stOf(b:gr n clock Le rs){a:AS}(f:a∈Le)(e:a.id=id):stOf rs id=a.S:=dx (a:=a.zero) b.ok (b.mem_rec f) e
theorem bw.tells(g:bw L rs)(h:gr n clock Le rs):ci true Le L:=by
 refine⟨fun a f r i e=>?_,fun r i j=>?_,fun a f=>g.all a.zero (h.mem_rec f)⟩
 ·unfold ud;rw[CE rfl];refine⟨e,?_,?_⟩
  ·show(a.st.length:Int)=_;rw[h.st g f i e]
  ·have:=g.may r i;rw[h.stOf f e]at this;exact this
 ·unfold tm;rw[CE rfl];have:=g.may r i;rwa[fj (fun b k e=>by obtain⟨a,f,rfl⟩:=h.of_rec k;exact j a f e)]at this
theorem ci.absent(f:ci false Le L)(g:gr n clock Le rs){r:RS}(i:r∈L)(j:r.S.1=0):∀a∈Le,a.id≠r.id:=fun a b e=>by have h:=f.hit a b r i e;unfold ud at h;rw[Cz (by simp)]at h;have k:a.S.1=r.S.1:=Ej ST.state h;have:=(g.mem b).1.s;omega
theorem ci.there(f:ci false Le L){r:RS}(g:r∈L)(i:r.S.1≠0):∃a∈Le,a.id=r.id:=by apply Classical.byContradiction;intro b;have h:=f.miss r g (fun a j e=>b ⟨a,j,e⟩);unfold tm at h;rw[Cz (by simp)]at h;exact i h
theorem oV:∀{L:List RS} {Le:List AS},Le.Pairwise (fun a b=>a.id<b.id)→L.Pairwise (fun a b=>a.id<b.id)→(∀a∈Le,∃r∈L,r.id=a.id∧r.st=a.st)→(Le.map fun a=>2*a.st.length).sum≤(L.map fun r=>2*r.st.length+2).sum
 |[],[],_,_,_=>Cs _
 |[],a::Le,_,_,h=>by obtain⟨r,p,_⟩:=h a (by simp);cases p
 |r::L,[],_,_,_=>by simp
 |r::L,a::Le,j,k,h=>by
  rw[Ds]at j k;by_cases e:r.id=a.id
  ·have o:r.st=a.st:=by
    obtain⟨q,f,l,m⟩:=h a (by simp);rcases CF.1 f with rfl|f
    ·exact m
    ·have:=k.1 q f;omega
   have:=oV j.2 k.2 (fun b g=>by
    obtain⟨q,f,l,m⟩:=h b (by simp[g]);rcases CF.1 f with rfl|f
    ·have:=j.1 b g;omega
    ·exact⟨q,f,l,m⟩)
   simp only[CY,EK];rw[o];omega
  ·have:=oV (L:=L) (Le:=a::Le) (Ds.2 j) k.2 (fun b g=>by
    obtain⟨q,f,l,m⟩:=h b g;rcases CF.1 f with rfl|f
    ·rcases CF.1 g with rfl|g
     ·exact absurd l e
     ·obtain⟨s,i,t,_⟩:=h a (by simp);have:=j.1 b g;rcases CF.1 i with rfl|i
      ·exact absurd t e
      ·have:=k.1 s i;omega
    ·exact⟨q,f,l,m⟩)
   simp only[CY,EK]at this⊢;omega
end
end Go.Proofs.YteebjgfalllbjaaGreatDoor
