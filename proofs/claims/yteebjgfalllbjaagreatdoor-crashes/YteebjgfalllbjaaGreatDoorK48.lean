import Derived.Test.YteebjgfalllbjaaGreatDoorK47
import Derived.Deep.Slices
import Derived.ProofKit
namespace Go.Proofs.YteebjgfalllbjaaGreatDoor
open Go.RowKit Go.Proofs.Tryz
set_option maxRecDepth 100000
set_option maxHeartbeats 4000000
theorem xw(c:Int)(w:World)(b: -9223372036854775808≤c)(d:c≤9223372036854775807):Calls prog 51 #[.int .i64 c] w fun e a=>(∃r:Int,e= .returned (.int .i64 r)∧0≤r∧r<600)∧a=w:=by go_enter func51,ntmps51;go_wp2_with fail;refine(tO c 600 w b d (by decide) (by decide)).mono ?_;rintro e a ⟨⟨r,rfl,f,g⟩,rfl⟩;go_wp2;go_ret;exact⟨⟨r,rfl,f,g⟩,rfl⟩
theorem xT{w:World}{j k:Nat}{e:Value}{a:List Int}(h:w.ownsRow j 3 1 e k (a.map fun x=>Value.int .i64 x)):∃f l,e= .slice f a.length l∧oH w f a:=by
 have b:=h.1;simp at b;rcases h.2 with⟨rfl,m⟩|⟨g,c,n,o,p⟩
 ·refine⟨none,0,by rw[b,m],fun i z d=>?_⟩;have:=(Co.1 d).1;omega
 ·subst o;refine⟨some ⟨g,0,none⟩,c,by rw[b],fun i z d=>⟨g,0,rfl,?_⟩⟩;have:=h.cells (g:=g) rfl i (.int .i64 z) (by rw[CK,d];rfl);rwa[DF]at this
theorem yG{w:World}{o s:Nat}{q:DQ}(h:cG w o s q):∃v,v.x=none∧dE w o (s+1) q v (w.setCell ⟨q.D,5,none⟩ (.pointer none)):=by
 have j:Fr (· =q.D) w (w.setCell ⟨q.D,5,none⟩ (.pointer none)):=Fr.set1 _ _ _ _;have y:=h.l.set5 (.pointer none);obtain⟨W,C⟩:∃W,W=w.setCell ⟨q.D,5,none⟩ (.pointer none):=⟨_,rfl⟩;rw[←C]at y j⊢;have f:Fr (fun b=>b=q.D∨cu q b) w W:=j.mono (fun _ _ h=> .inl h);have i:=h.notD;have k:=h.nDA;obtain⟨t,E⟩:=h.p;have z:∀b,DQ.S {q with x:=none,F:=fun _=>False} b→q.S b∨w.heap.size≤b:=DQ.S_of rfl (.inl rfl) (.inl rfl) q.sC (fun _ h=>h.elim) q.sG q.sL q.sM;have G:=lt_of_heap h.l;have H:o≤w.heap.size:=by have:=h.sl q.D (.inl rfl);omega
 refine⟨{q with x:=none,F:=fun _=>False},rfl,rfl,z,⟨y,?_,⟨t,(h.keepP f E).mono (DC s)⟩,h.keepL f,E7 h.ln,fun r A=>⟨(h.ml r A).1,by have:=(h.ml r A).2;omega⟩,h.ls,h.lo,fun b a=>a.elim,fun b a=>?_,fun b a=>?_,h.n⟩,f.mono (fun b _ h=>h.elim (fun e=> .inl e) cu.own)⟩
 ·by_cases m:q.n=0
  ·obtain⟨_,I,J,P,d,u,c1,c2,c3,c4⟩:=h.d0 m;exact .inl ⟨m,rfl,(u.fr j (fun e=>k e.symm)).dk c1 (by omega) c3 (by omega),I,J⟩
  ·rcases h.g with⟨K,_⟩|⟨_,L,M,u,N,Q⟩
   ·exact absurd K m
   exact .inr ⟨m,L,M,(u.fr j (fun e=>k e.symm) (fun e=>i (.inr (.inl e.symm))) (fun b a e=>i (.inr (.inr (.inl (e▸a)))))).monoK (DC s),fun hi=>⟨(N hi).1,.inl rfl⟩,fun _=>rfl⟩
 ·obtain⟨c,O⟩:=h.ct b a;exact⟨c,j.keep O (fun e=>i (.inr (.inr (.inl (e▸a)))))⟩
 ·rcases z b a with B|B
  ·exact h.sl b B
  ·omega
theorem vP{w:World}{N B s:Nat}{R:List DQ}{fs:List Bool}(h:dm w N B s R fs)(hs:s<40000)(hG:cN w)(hg:1<N)(K X a b:Int)(S T:ByteArray)(hK:7≤K∧K≤16)(b9: -9223372036854775808≤X)(ba:X≤9223372036854775807)(bb: -9223372036854775808≤a)(bc:a≤9223372036854775807)(bd: -9223372036854775808≤b)(be:b≤9223372036854775807)(hq:0<R.length):Calls prog 38 #[.pointer (some ⟨B,0,none⟩),.agg (fe K X a b S T)] w fun e P=>cV w N B s e P:=by
 have bf:=h.size;have bO:decide (K<7)=false:=by simp;omega
 have bP:decide (K>16)=false:=by simp;omega
 have HK:=af hK;have hF:Fr (fun _=>False) w (w.alloc (.cells (fe K X a b S T) 74)):=(Fr.refl _ _).alloc _;obtain⟨O,az⟩:=aw w.heap.size;have aD:(w.alloc (.cells (fe K X a b S T) 74)).heap[w.heap.size]?=some (.cells (fe K X a b S T) 74 (0,0)):=aa _ _;have HO:=iM (w:=w.alloc (.cells (fe K X a b S T) 74)) (W0:=B) K X a b S T (by omega);unfold fe at*
 go_enter func38,ntmps38;go_wp2_with fail;refine HO.mono ?_;rintro e w2 ⟨rfl,ao⟩;have a7:=hF.trans ao fI;have aF:=h.frz a7 (Cs _);have aG:=bH a7 bf;have aH:=hG.fr a7 ka;have U:=ao.keep aD id;rw[←az.out]at U;have o0:w2.cell? ⟨O,0,none⟩=some (.int .i64 K):=by rw[Cn w2 O 0 _ _ _ U];rfl
 have o1:w2.cell? ⟨O,1,none⟩=some (.int .i64 X):=by rw[Cn w2 O 1 _ _ _ U];rfl
 have o2:w2.cell? ⟨O,2,none⟩=some (.int .i64 a):=by rw[Cn w2 O 2 _ _ _ U];rfl
 have o3:w2.cell? ⟨O,3,none⟩=some (.int .i64 b):=by rw[Cn w2 O 3 _ _ _ U];rfl
 have aI:=af aF;obtain⟨kv,rv,sv,dv,fv,k,r,st,bQ,bR,ch,bg,hI,bh,hk,hr,bS,hm,aK,aM⟩:=aF;obtain⟨g,aN,bi,aO⟩:=tj hI.hd hq;subst bi;have bU:Hid (∀gb c t,fv.ownBlock=some gb→w2.heap[O]?=some (.cells c t (0,0))→gb=O→t=4):=by
  intro gb c t hv hb e;subst e;rcases hI.hf.2 with⟨rfl,_⟩|⟨g',bD,bV,rfl,_,ap,_⟩
  ·simp[Value.ownBlock]at hv
  ·simp only[Value.ownBlock,Cu]at hv;subst hv;rw[hb]at ap;simp at ap;exact ap.2
 have V:=af U;have c3:=hI.c3;have aP:=af aO;have HI:=af hI;have aq:=af aK;have Y:=af aM;have bW:((R.length:Int)==0)=false:=by simp;intro e;simp[e]at hq
 clear aO hI aK aM hF aD HO ao a7 U h;rw[←az.out];go_wp2_with fail;have a0:=zl;let S':World→Prop:=fun P=>P.cell? ⟨O,1,none⟩=some (.int .i64 X)∧P.cell? ⟨B,3,none⟩=some (.slice (some ⟨g,0,none⟩) R.length aN)
 have n:S' w2.drew:=⟨o1,c3⟩;refine ET (S:=S') a0 ?_;change wpAnyH _ _ _ _ S' _ _ _ (World.drew _);refine bT 0 30 74 3 1 (.pointer (some ⟨O,1,none⟩)) rfl n ?_;refine cU 1 31 3 30 (.int .i64 X) ⟨O,1,none⟩ rfl (fun _ hs=>hs.1) underlying3 n ?_;refine bM 2 32 0 (.pointer (some ⟨B,0,none⟩)) rfl n ?_;refine d4 3 33 32 (.pointer (some ⟨B,0,none⟩)) rfl n ?_;refine bT 4 34 80 33 3 (.pointer (some ⟨B,3,none⟩)) rfl n ?_;refine cU 5 35 77 34 (.slice (some ⟨g,0,none⟩) R.length aN) ⟨B,3,none⟩ rfl (fun _ hs=>hs.2) underlying77 n ?_;simp only[Act.put,aC,aB,aE];refine qg (S:=S') (i:=6) (oi:=⟨some 36,.call {callee:= .builtin .len,args:=#[.tmp 35],argTypes:=_},_,_,_,none⟩) (v:= .int .i64 R.length) rfl n ?_;simp only[Act.put,aC,aB,aE];refine dN 7 37 50 #[.tmp 31,.tmp 36] #[.int .i64 X,.int .i64 R.length] rfl ?_;refine(tO X R.length w2.drew b9 ba (by omega) (by omega)).mono ?_;rintro e w3 ⟨⟨r0,rfl,bX,bY⟩,au⟩;obtain⟨i,rfl⟩:∃i:Nat,r0=i:=⟨r0.toNat,by omega⟩;have av:S' w3:=by rw[au];exact n
 refine⟨_,rfl,av,?_⟩;refine mB 8 6 37 (.int .i64 i) rfl av ?_;simp only[Act.put,aC,aB,aE];refine dn ?_;have a1:i<R.length:=by omega
 have u:Fr (fun _=>False) w2 w3:=by rw[au];exact(Fr.refl _ _).drew
 clear n av au;have bZ:=u.cell c3 jI;have ca:=u.cell o0 id;have cb:=u.cell o2 id;have cc:=u.cell o3 id;have bj:=u.cell (aP.out i _ (by rw[CK,Cp a1];rfl)) id;have aQ:=aI.out.frz u (Cs _);have I:=aG.trans (bH u aI.out.size);have aR:=aH.fr u ka;have ag:=HI.out.frz u;have a2:=(aq.out _ (Ef a1)).frz u;have aS:=af (u.keep V.out id);have bE:=af (fun q hq=>(aq.out q hq).frz u);clear c3 o0 o1 o2 o3 u aG aH aP aq;have bF:(i:Int)<R.length:=by omega
 obtain⟨q,HQ⟩:∃q:DQ,Hid (q=R[i]):=⟨R[i],Eq.refl _⟩;have y:Hid (R[i]?=some q):=by show _=_;rw[HQ.out];exact Cp a1
 rw[←HQ.out]at bj a2;have J:=af aQ;have L:=af ag;have d:=af a2;have a8:=af aR;clear aQ ag a2 aR;go_wp2_with fail;refine(xw a _ bb bc).mono ?_;rintro e P ⟨⟨r2,rfl,ai,bG⟩,rfl⟩;go_wp2_with fail;refine(xw b _ bd be).mono ?_;rintro e P ⟨⟨r3,rfl,aT,bJ⟩,rfl⟩;have d0:=d.out.l.c0;by_cases bk:K=7
 ·subst bk;go_wp2_with fail;refine(yL d.out (by omega) r2 ai (by omega)).mono ?_;rintro e p ⟨rfl,q',f,n⟩;obtain⟨C,E⟩:=J.out.upd i y.out (show s≤s+2 by omega) (n.mono (by omega)) (fun e=>by
   rcases f with f|⟨f,hf⟩
   ·exact absurd f e
   ·rw[hf];exact Y.out.fl i q y.out (f▸e))
  have M:Hid (cV w N B s (.returned (.bool true)) p):=⟨_,_,rfl,C,I.trans E⟩;clear C E n f;go_wp2;go_ret;exact M.out
 by_cases bl:K=8
 ·subst bl;go_wp2_with fail;refine(zf d.out (by omega) r2 r3 ai (by omega) aT (by omega)).mono ?_;rintro e p ⟨rfl,q',f,n⟩;obtain⟨C,E⟩:=J.out.upd i y.out (show s≤s+2 by omega) (n.mono (by omega)) (fun e=>by
   rcases f with f|⟨f,hf⟩
   ·exact absurd f e
   ·rw[hf];exact Y.out.fl i q y.out (f▸e))
  have M:Hid (cV w N B s (.returned (.bool true)) p):=⟨_,_,rfl,C,I.trans E⟩;clear C E n f;go_wp2;go_ret;exact M.out
 by_cases bm:K=9
 ·subst bm;obtain⟨zs,bn⟩:=Y.out.kx;have a3:=L.out.hk;rw[bn]at a3;obtain⟨la,kc,rfl,a4⟩:=xT a3;have bo:=L.out.c0;have bp:zs.length<100000:=by have:=a3.1;simp at this;omega
  obtain⟨Q,a9⟩:=aw P.drew;have F:=eG a9;have W:oH Q la zs:=fun j z hz=>by obtain⟨g1,off,e,hc⟩:=a4 j z hz;exact⟨g1,off,e,F.cell hc jI⟩
  have ab:=vK (d.out.frz F) hg W bp (kc:=kc);have ad:Hid (dm Q N B s R fs∧Below N P Q):=⟨J.out.frz F (Cs _),bH F J.out.size⟩;have cd:k=zs.length:=by have:=a3.1;simp at this;omega
  clear a3 a4 W F;go_wp2_with fail;have a0:=zl;have aU:Q.cell? ⟨q.D,0,none⟩=some (.pointer (some ⟨q.A,0,none⟩)):=by rw[a9.out];exact d0
  have aV:Q.cell? ⟨B,0,none⟩=some (.slice la zs.length kc):=by rw[a9.out];exact bo
  let S1:World→Prop:=fun _=>True
  have G:∀w,S1 w:=fun _=>trivial;refine dZ S1 a9 ?_;refine bM 0 88 7 (.pointer (some ⟨q.D,0,none⟩)) rfl (G Q) ?_;refine bM 1 89 7 (.pointer (some ⟨q.D,0,none⟩)) rfl (G Q) ?_;refine d4 2 90 89 (.pointer (some ⟨q.D,0,none⟩)) rfl (G Q) ?_;refine bT 3 91 111 90 0 (.pointer (some ⟨q.D,0,none⟩)) rfl (G Q) ?_;refine bM 5 93 0 (.pointer (some ⟨B,0,none⟩)) rfl (G Q) ?_;refine d4 6 94 93 (.pointer (some ⟨B,0,none⟩)) rfl (G Q) ?_;refine bT 7 95 80 94 0 (.pointer (some ⟨B,0,none⟩)) rfl (G Q) ?_;simp only[Act.put,aC,aB,aE];refine Eh (rs:=[4,8]) (by kernel_rfl) (by simp) ?_;intro i4 bq;have aW:i4=4∨i4=8:=by simpa using bq
  rcases aW with rfl|rfl
  ·refine ak (o:=⟨some 92,.load 31 (.tmp 91),_,_,_,none⟩) (v:= .pointer (some ⟨q.A,0,none⟩)) (w':=Q) rfl rfl (aL 31 (.tmp 91) rfl ⟨q.D,0,none⟩ rfl (aJ aU underlying31 rfl)) ⟨trivial,?_⟩;simp only[Act.put,aC,aB,aE];refine cj 8 ?_;refine ak (o:=⟨some 96,.load 24 (.tmp 95),_,_,_,none⟩) (v:= .slice la zs.length kc) (w':=Q) rfl rfl (aL 24 (.tmp 95) rfl ⟨B,0,none⟩ rfl (aJ aV underlying24 rfl)) ⟨trivial,?_⟩;simp only[Act.put,aC,aB,aE];refine dN 9 97 32 #[.tmp 92,.tmp 96] #[.pointer (some ⟨q.A,0,none⟩),.slice la zs.length kc] rfl ?_;refine ab.mono ?_;rintro e p ⟨A',rfl,H,q',f,n⟩;refine⟨_,rfl,trivial,?_⟩;refine d4 10 98 88 (.pointer (some ⟨q.D,0,none⟩)) rfl (G p) ?_;refine bT 11 99 111 98 0 (.pointer (some ⟨q.D,0,none⟩)) rfl (G p) ?_;simp only[Act.put,aC,aB,aE];refine cj 12 ?_;refine aA (o:=⟨none,.store 31 (.tmp 99) (.tmp 97),_,_,_,none⟩) (w':=p.setCell ⟨q.D,0,none⟩ (.pointer (some ⟨A',0,none⟩))) rfl rfl (ar 31 (.tmp 99) (.tmp 97) rfl ⟨q.D,0,none⟩ (.pointer (some ⟨A',0,none⟩)) rfl rfl (ah H.c0 (H.fz 0) (by kernel_rfl) rfl)) ⟨trivial,?_⟩;refine dn ?_;obtain⟨C,E⟩:=ad.out.1.upd i y.out (show s≤s+2 by omega) (n.mono (by omega)) (fun e=>absurd f e);have M:Hid (cV w N B s (.returned (.bool true)) ((p.setCell ⟨q.D,0,none⟩ (.pointer (some ⟨A',0,none⟩))).setCell ⟨q.D,5,none⟩ (.pointer none))):=⟨_,_,rfl,C,(I.trans ad.out.2).trans E⟩;have e5:=H.c5;have ef:=H.fz;clear C E n f H ab;go_wp2;go_ret;exact M.out
  ·refine ak (o:=⟨some 96,.load 24 (.tmp 95),_,_,_,none⟩) (v:= .slice la zs.length kc) (w':=Q) rfl rfl (aL 24 (.tmp 95) rfl ⟨B,0,none⟩ rfl (aJ aV underlying24 rfl)) ⟨trivial,?_⟩;simp only[Act.put,aC,aB,aE];refine cj 4 ?_;refine ak (o:=⟨some 92,.load 31 (.tmp 91),_,_,_,none⟩) (v:= .pointer (some ⟨q.A,0,none⟩)) (w':=Q) rfl rfl (aL 31 (.tmp 91) rfl ⟨q.D,0,none⟩ rfl (aJ aU underlying31 rfl)) ⟨trivial,?_⟩;simp only[Act.put,aC,aB,aE];refine dN 9 97 32 #[.tmp 92,.tmp 96] #[.pointer (some ⟨q.A,0,none⟩),.slice la zs.length kc] rfl ?_;refine ab.mono ?_;rintro e p ⟨A',rfl,H,q',f,n⟩;refine⟨_,rfl,trivial,?_⟩;refine d4 10 98 88 (.pointer (some ⟨q.D,0,none⟩)) rfl (G p) ?_;refine bT 11 99 111 98 0 (.pointer (some ⟨q.D,0,none⟩)) rfl (G p) ?_;simp only[Act.put,aC,aB,aE];refine cj 12 ?_;refine aA (o:=⟨none,.store 31 (.tmp 99) (.tmp 97),_,_,_,none⟩) (w':=p.setCell ⟨q.D,0,none⟩ (.pointer (some ⟨A',0,none⟩))) rfl rfl (ar 31 (.tmp 99) (.tmp 97) rfl ⟨q.D,0,none⟩ (.pointer (some ⟨A',0,none⟩)) rfl rfl (ah H.c0 (H.fz 0) (by kernel_rfl) rfl)) ⟨trivial,?_⟩;refine dn ?_;obtain⟨C,E⟩:=ad.out.1.upd i y.out (show s≤s+2 by omega) (n.mono (by omega)) (fun e=>absurd f e);have M:Hid (cV w N B s (.returned (.bool true)) ((p.setCell ⟨q.D,0,none⟩ (.pointer (some ⟨A',0,none⟩))).setCell ⟨q.D,5,none⟩ (.pointer none))):=⟨_,_,rfl,C,(I.trans ad.out.2).trans E⟩;have e5:=H.c5;have ef:=H.fz;clear C E n f H ab;go_wp2;go_ret;exact M.out
 by_cases aX:K=10
 ·subst aX;go_wp2_with fail;refine(n9 d.out (by omega) a8.out hg).mono ?_;rintro e p ⟨rfl,q',f,n⟩;obtain⟨C,E⟩:=J.out.upd i y.out (show s≤s+2 by omega) (n.mono (by omega)) (fun e=>absurd f e);have M:Hid (cV w N B s (.returned (.bool true)) p):=⟨_,_,rfl,C,I.trans E⟩;clear C E n f;go_wp2;go_ret;exact M.out
 by_cases aY:K=11
 ·subst aY;obtain⟨m,aZ,b1⟩:=qi d.out (by omega) hg;have d3:=d.out.l.c3;have d5:=d.out.l.c5;have df:=d.out.l.fz;obtain⟨gf,b2,br,_,⟨v4,ce⟩,bK,ae,aj⟩:=i9.setF i (J.out.e i) a1;have bL:O≠gf:=by intro e;have:=ae _ _ (by rw[←e];exact aS.out);simp at this
  obtain⟨j1,j2⟩:=aj false;have a5:(q.nn=true→m=0)→Calls prog 53 #[.pointer (some ⟨q.D,0,none⟩),.int .i64 a] (P.setCell ⟨gf,i,none⟩ (.bool false)) fun e p=>e= .returned (.bool true)∧Hid (cV w N B s (.returned (.bool true)) p):=fun hm=>by
   refine(b1 (· =gf) _ (Fr.set1 _ _ _ _) (fun b hb e=>?_) (fun b c hc e=>?_) (a8.out.below j2 hg) hm a).mono ?_
   ·obtain⟨c,t,hc,_⟩:=d.out.ty hb;have e:=e;have:=ae c t (by rw[←e];exact hc);exact d.out.notW hc (.inr (.inr (.inr (.inl this)))) hb
   ·have e:=e;have:=ae _ _ (by rw[←e];exact hc);revert this;decide
   ·rintro e p ⟨rfl,q',n,f⟩;obtain⟨C,E⟩:=j1.upd i y.out (show s≤s+2 by omega) (n.mono (by omega));have bt:=j1.len;refine⟨rfl,_,_,rfl,C.back (fun q0 ax bv=>?_),(I.trans j2).trans E⟩;rw[E8,CE rfl,CE a1]at ax;simp only[Cu]at ax;subst ax;rw[DV]at bt;rw[E8,CE rfl,CE (by omega)];rcases f with f|⟨hf,_⟩
    ·exact absurd f bv
    ·rw[hf]
  obtain⟨q',b3,b4⟩:=yG d.out;have bw:Hid (cV w N B s (.returned (.bool true)) (P.setCell ⟨q.D,5,none⟩ (.pointer none))):=by obtain⟨C,E⟩:=J.out.upd i y.out (show s≤s+2 by omega) (b4.mono (by omega)) (fun e=>absurd b3 e);exact⟨_,_,rfl,C,I.trans E⟩
  clear b1 aj ae j1 j2 b4 b3;cases Z:q.nn with
  |true=>
   rw[Z]at d3;by_cases b5:m=0
   ·have V:=a5 (fun _=>b5);subst b5;clear a5 Z;go_wp2_with fail;refine aZ.mono ?_;rintro e w5 ⟨rfl,rfl⟩;go_wp2_with fail;refine V.mono ?_;rintro e p ⟨rfl,M⟩;clear V;go_wp2;go_ret;exact M.out
   ·have cf:(0:Int)<m:=by omega
    clear a5 Z;go_wp2_with fail;refine aZ.mono ?_;rintro e w5 ⟨rfl,rfl⟩;go_wp2;go_ret;exact bw.out
  |false=>
   have V:=a5 (fun e=>by rw[Z]at e;cases e);rw[Z]at d3;clear a5 Z;go_wp2_with fail;refine V.mono ?_;rintro e p ⟨rfl,M⟩;clear V;go_wp2;go_ret;exact M.out
 by_cases b6:K=12
 ·subst b6;go_wp2_with fail;refine(wb J.out hs a8.out hg i q y.out a).mono ?_;rintro e p ⟨cg,ci,rfl,C,E⟩;have M:Hid (cV w N B s (.returned (.bool true)) p):=⟨_,_,rfl,C,I.trans E⟩;clear C E;go_wp2;go_ret;exact M.out
 have bx:K=13∨K=14∨K=15∨K=16:=by have:=HK.out;omega
 have k7:(K==7)=false:=by simp;omega
 have k8:(K==8)=false:=by simp;omega
 have k9:(K==9)=false:=by simp;omega
 have cl:(K==10)=false:=by simp;omega
 have cm:(K==11)=false:=by simp;omega
 have cn:(K==12)=false:=by simp;omega
 obtain⟨gf,b2,bz,bN,_⟩:=L.out.hf.form hq;subst bz;have br:=L.out.c4;have d5:=d.out.l.c5;have oo:∀j v,[Value.int .i64 K,.int .i64 X,.int .i64 a,.int .i64 b,.string S,.string T][j]?=some v→P.cell? ⟨O,j,none⟩=some v:=fun j v hv=>by rw[Cn P O j _ _ _ aS.out];simpa using hv
 have p0:=oo 0 _ rfl;have p1:=oo 1 _ rfl;have p2:=oo 2 _ rfl;have p3:=oo 3 _ rfl;have p4:=oo 4 _ rfl;have p5:=oo 5 _ rfl;clear oo;have b7:q.x=none∨∃A,q.x=some A:=by cases q.x with|none=>exact .inl rfl|some A=>exact .inr ⟨A,rfl⟩
 rcases b7 with f|⟨Xa,f⟩
 ·rw[f]at d5;have M:Hid (cV w N B s (.returned (.bool true)) P):=⟨R,fs,rfl,J.out.frz (Fr.refl _ _) (by omega),I⟩;go_wp2;go_ret;exact M.out
 ·have bA:bg[i]?=some (.bool q.fl):=by rw[Y.out.fx,CK,Y.out.fl i q y.out (by rw[f];simp)];rfl
  have bB:=L.out.hf.cells (g:=gf) rfl i (.bool q.fl) bA;rw[DF,D5]at bB;rw[f]at d5;have F:Fr (fun _=>False) P P.drew:=(Fr.refl _ _).drew;have ay:=L.out.frz F;have a6:=yU (d.out.frz F) hs (a8.out.fr F ka) hg (by rw[f];simp) ay.c2 (bh▸ay.hs) (by omega) K X a b S T bx;have bC:=af F;clear F ay;unfold fe at a6;have al:∀e p,qw P N s q e p→Hid (cV w N B s (.returned (.bool true)) p):=by rintro e p ⟨_,q',b8,n⟩;obtain⟨C,E⟩:=J.out.upd i y.out (show s≤s+2 by omega) n (fun _=>by rw[b8];exact Y.out.fl i q y.out (by rw[f];simp));exact⟨_,_,rfl,C,I.trans E⟩
  have an:=al;clear al;go_wp2_with fail;refine wp_region_still_tail 10 (by kernel_rfl) (by kernel_rfl) (Bx.out ?_);simp only[CW,Dc,CQ,D2];repeat(refine bu (fun K hK=>?_);go_simp;refine hK _ ?_;clear hK K)
  refine bI ?_;go_wp2_with fail;refine a6.mono ?_;rintro e p hp;have M:=an e p (qw.pre bC.out hp);obtain⟨rfl,_⟩:=hp;clear an a6;go_wp2;go_ret;exact M.out
structure OR where
 K:Int
 X:Int
 a:Int
 b:Int
 S:ByteArray
 T:ByteArray
def OR.cs(o:OR):List Value:=[.int .i64 o.K,.int .i64 o.X,.int .i64 o.a,.int .i64 o.b,.string o.S,.string o.T]
def pg(z:Int):Prop:= -9223372036854775808≤z∧z≤9223372036854775807
def OR.ok(o:OR):Prop:=pg o.K∧pg o.X∧pg o.a∧pg o.b
def cL(l:List OR):List Value:=l.flatMap OR.cs
theorem OR.len(o:OR):o.cs.length=6:=rfl
theorem OR.one(o:OR):∀v∈o.cs,v.oneCell'=true:=by intro v a;simp only[OR.cs,CF,Dy,EF]at a;rcases a with rfl|rfl|rfl|rfl|rfl|rfl<;>rfl
theorem nE:∀(l:List OR) (i:Nat) (o:OR),l[i]?=some o→((cL l).drop (i*6)).take 6=o.cs
 |[],i,o,h=>by simp at h
 |p::r,0,o,h=>by
  simp at h;subst h;have e:cL (p::r)=p.cs++cL r:=by simp[cL]
  rw[e,F5,D2,DH (by rw[p.len];exact Cs _),CO (by rw[p.len];exact Cs _)]
 |p::r,i+1,o,h=>by
  have e:cL (p::r)=p.cs++cL r:=by simp[cL]
  rw[e,DN,CP (by rw[p.len];omega)];have a:(i+1)*6-p.cs.length=i*6:=by rw[p.len];omega
  rw[a];simpa using nE r i o (by simpa using h)
theorem nk(l r:List OR):cL (l++r)=cL l++cL r:=by simp[cL]
theorem vp{w:World}{c g b:Nat}{l:List OR}(h:w.ownsRow c 74 6 (.slice (some ⟨g,0,none⟩) l.length b) l.length (cL l)){i:Nat}{o:OR}(hi:l[i]?=some o):w.rangeAt g (i*6) o.cs:=by
 intro j v a;have d:=h.cells (g:=g) rfl (i*6+j) v;rw[←nE l i o hi,DE]at a;split at a
 ·rw[E3]at a;have:=d a;rwa[DF,D5]at this
 ·cases a
theorem uY{w:World}{l f s:Nat}{g:List DQ}{q:List Bool}(h:dm w l f s g q)(K X a b:Int)(S T:ByteArray)(F:16<K):Calls prog 38 #[.pointer (some ⟨f,0,none⟩),.agg (fe K X a b S T)] w fun e x=>cV w l f s e x:=by
 have m:=h.size;have hF:Fr (fun _=>False) w (w.alloc (.cells (fe K X a b S T) 74)):=(Fr.refl _ _).alloc _;have i:(w.alloc (.cells (fe K X a b S T) 74)).cell? ⟨w.heap.size,0,none⟩=some (.int .i64 K):=by rw[Cn _ w.heap.size 0 _ _ _ (aa _ _)];rfl
 have t:=iM (w:=w.alloc (.cells (fe K X a b S T) 74)) (W0:=f) K X a b S T (by omega);unfold fe at*
 go_enter func38,ntmps38;go_wp2_with fail;refine t.mono ?_;rintro e y ⟨rfl,d⟩;have c:=hF.trans d fI;have n:=h.frz c (Cs _);have u:Hid (cV w l f s (.returned (.bool true)) y):=⟨g,q,rfl,h.frz c (by omega),bH c m⟩;have z:=d.cell i id;obtain⟨G,H,I,J,L,k,r,st,A,B,ch,C,o,_⟩:=n;obtain⟨M,N,j⟩:=jH o.hd;have c3:=o.c3;rw[j]at c3;clear o j hF i t d c h;by_cases v:g.length=0
 ·have p:((g.length:Int)==0)=true:=by simp[v]
  go_wp2;go_ret;exact u.out
 ·have p:((g.length:Int)==0)=false:=by simp;exact fun e=>v (by simp[e])
  have O:decide (K<7)=false:=by simp;omega
  have D:decide (K>16)=true:=by simp;omega
  have E:decide (16<K)=true:=by simp;omega
  go_wp2;go_ret;exact u.out
theorem xE{w:World}{m k s:Nat}{n:List DQ}{t:List Bool}(h:dm w m k s n t)(p:s<40000)(u:cN w)(q:1<m)(o:OR)(v:o.ok):Calls prog 38 #[.pointer (some ⟨k,0,none⟩),.agg o.cs.toArray] w fun e x=>cV w m k s e x:=by
 obtain⟨K,X,a,b,S,T⟩:=o;obtain⟨_,⟨f,g⟩,⟨c,d⟩,⟨i,j⟩⟩:=v;simp only at f g c d i j;show Calls prog 38 #[.pointer (some ⟨k,0,none⟩),.agg (fe K X a b S T)] w _;by_cases r:1≤K∧K≤6
 ·exact yn h p q K X a b S T c d r.1 r.2
 by_cases y:0<n.length
 ·rcases(show K<7∨(7≤K∧K≤16)∨16<K by omega)with l|l|l
  ·exact lO h K X a b S T (.inl (by omega))
  ·exact vP h p u q K X a b S T l f g c d i j y
  ·exact uY h K X a b S T l
 ·have z:n=[]:=D3 (by omega);by_cases A:K<1
  ·exact lO h K X a b S T (.inl A)
  ·exact lO h K X a b S T (.inr ⟨by omega,z⟩)
def mq(w:World)(a:Option Addr)(l:List OR):Prop:=∀i o,l[i]?=some o→∃g off,a=some ⟨g,off,none⟩∧w.rangeAt g (off+i*6) o.cs
theorem ym{w:World}{f a:Nat}{b:Option Addr}{l:List OR}(h:w.ownsRow f 74 6 (.slice b l.length a) l.length (cL l)):mq w b l:=fun i o c=>by have j:=(Co.1 c).1;obtain⟨g,d,e,_⟩:=h.form (by omega);simp only[DW,FK]at e;obtain⟨rfl,rfl⟩:=e;exact⟨g,0,rfl,by rw[D5];exact vp h c⟩
theorem yM:(prog.info? 74).map (·.size)=some 6:=by kernel_rfl
theorem vm(w:World):dm (w.alloc (.cells #[.slice none 0 0,.slice none 0 0,.slice none 0 0,.slice none 0 0,.slice none 0 0] 80)) w.heap.size w.heap.size 0 [] []:=by exact⟨_,_,_,_,_,0,0,0,[],[],[],[],⟨aa _ _,CT _ _ _ _,CT _ _ _ _,CT _ _ _ _,CT _ _ _ _,CT _ _ _ _,(fun b d=>by simp[Value.ownBlock]at d),(fun v c=>absurd c (by simp)),(fun v c=>absurd c (by simp[an])),Cs _⟩,rfl,Cs _,Cs _,Cs _,Cs _,(fun q a=>absurd a (by simp)),⟨List.Pairwise.nil,rfl,⟨[],rfl,by simp[rj]⟩,(fun q a=>absurd a (by simp)),⟨[],rfl⟩,(fun i q a=>absurd a (by simp))⟩⟩
theorem tz{w:World}{x:Option Addr}{cap:Nat}{l:List OR}(y:mq w x l)(a:∀o∈l,o.ok)(z:l.length≤16384)(p:cN w):Calls prog 16 #[.slice x l.length cap] w fun e H=>e= .returned (.int .i64 (-1))∧Below w.heap.size w H:=by
 have A:=p.lt;have q:Hid (∃b d,dm (w.alloc (.cells #[.slice none 0 0,.slice none 0 0,.slice none 0 0,.slice none 0 0,.slice none 0 0] 80)) w.heap.size w.heap.size 0 b d∧Below w.heap.size w (w.alloc (.cells #[.slice none 0 0,.slice none 0 0,.slice none 0 0,.slice none 0 0,.slice none 0 0] 80))):=⟨[],[],vm w,(EX _ _).alloc (Cs _) _⟩;have I:=af y;have J:=af a;have K:=af p;clear y a p;obtain⟨O,L⟩:=aw w.heap.size;go_enter func16,ntmps16;go_wp2;go_loopw [4] (fun c wr=>∃i:Nat,i≤l.length∧c= .int .i64 i∧Hid (∃b d,dm wr w.heap.size w.heap.size (2*i) b d∧Below w.heap.size w wr)) (fun c _=>l.length-(intOf c).toNat);case atStart=>exact⟨0,CH _,rfl,q⟩
 case round=>
  obtain⟨i,hi,rfl,r⟩:=hrel;by_cases s:i<l.length
  ·have h:(i:Int)<l.length:=by omega
   obtain⟨o,B⟩:∃o,l[i]?=some o:=⟨_,Cp s⟩;obtain⟨g,off,rfl,k⟩:=I.out i o B;obtain⟨b,d,C,f⟩:=r.out;have D:wr.rangeAt g (off+i*6) o.cs:=fun j u M=>by have E:=k j u M;rw[f.cell (Cw w _ E)];exact E
   clear k;have F:=xE C (by omega) (K.out.below f A) A o (J.out o (Cq B));clear C;go_wp2_with (first|(refine CC rfl 74 (.tmp 17) rfl g (off+i*6) ?_ o.cs _ D underlying74 rfl ?_ ?_;rfl;(rw[yM,o.len])));refine F.mono ?_;rintro e G ⟨t,v,rfl,m,n⟩;have N:Hid (∃b d,dm G w.heap.size w.heap.size (2*(i+1)) b d∧Below w.heap.size w G):=⟨t,v,m,f.trans n⟩;clear r f D F m n;go_wp2;go_roundw;case rel=>exact⟨i+1,by omega,by go_num,N⟩
   case measure=>simp[intOf];omega
  ·have h:¬(i:Int)<l.length:=by omega
   go_wp2;go_ret;obtain⟨b,d,_,f⟩:=r.out;exact⟨rfl,f⟩
def Cj(w:World)(n:Nat)(e:Ending)(a:World):Prop:=∃r,e= .returned (.bool r)∧(r=true→n≤16384)∧Fr (fun _=>False) w a
theorem qN{w:World}{p:Option Addr}{cap:Nat}{l:List OR}(q:mq w p l):Calls prog 15 #[.slice p l.length cap] w fun e s=>Cj w l.length e s:=by
 by_cases r:16384<l.length
 ·have a:(16384:Int)<l.length:=by omega
  go_enter func15,ntmps15;go_wp2;go_ret;exact⟨false,rfl,(fun h=>by cases h),Fr.refl _ _⟩
 have a:¬(16384:Int)<l.length:=by omega
 have t:=af q;clear q;go_enter func15,ntmps15;go_wp2;go_loopw [3,4] (fun m c wr=>∃(i:Nat) (n:Int),i≤l.length∧m= .int .i64 n∧c= .int .i64 i∧Hid (Fr (fun _=>False) w wr)) (fun _ c _=>l.length-(intOf c).toNat);case atStart=>exact⟨0,l.length,CH _,rfl,rfl,Fr.refl _ _⟩
 case round=>
  obtain⟨i,n,hi,rfl,rfl,b⟩:=hrel;by_cases j:i<l.length
  ·have d:(i:Int)<l.length:=by omega
   obtain⟨o,u⟩:∃o,l[i]?=some o:=⟨_,Cp j⟩;obtain⟨g,off,rfl,k⟩:=t.out i o u;have c4:=b.out.cell (k 4 _ rfl) id;have c5:=b.out.cell (k 5 _ rfl) id;clear k;obtain⟨f,v⟩:∃f,IntKind.i64.wrap (IntKind.i64.wrap (n+(o.S.size:Int))+(o.T.size:Int))=f:=⟨_,rfl⟩;go_wp2;go_still (by kernel_rfl);clear v;by_cases x:16384<f
   ·go_wp2;go_ret;exact⟨false,rfl,(fun h=>by cases h),b.out.drew⟩
   ·go_wp2;go_roundw;case rel=>exact⟨i+1,f,by omega,rfl,by go_num,b.out.drew⟩
    case measure=>simp[intOf];omega
  ·have d:¬(i:Int)<l.length:=by omega
   go_wp2;go_ret;exact⟨true,rfl,(fun _=>by omega),b.out⟩
def keep(a:List Int)(o:OR):Bool:=decide (o.K<7)||a.any (fun k=>decide (o.K=k))
def Au(a:List Int)(w:World)(l:List OR)(i:Nat)(b:Value)(wr:World):Prop:=Below w.heap.size w wr∧wr.ownsRow w.heap.size 74 6 b ((l.take i).filter (keep a)).length (cL ((l.take i).filter (keep a)))
theorem yS:(prog.info? 74).map (fun i=>(i.zero,i.size,i.bytes))=some (some (.agg #[.int .i64 0,.int .i64 0,.int .i64 0,.int .i64 0,.string ⟨#[]⟩,.string ⟨#[]⟩]),6,64):=by kernel_rfl
theorem nz{a:List Int}{l:List OR}{i:Nat}{o:OR}(b:l[i]?=some o):(l.take (i+1)).filter (keep a)=(l.take i).filter (keep a)++(if keep a o then[o]else[]):=by rw[D1,b,F9];by_cases h:keep a o=true<;>simp[h]
theorem zx{a:List Int}{w wr:World}{l:List OR}{i:Nat}{o:OR}{v:Value}(h:Au a w l i v wr)(b:l[i]?=some o)(c:keep a o=false):Au a w l (i+1) v wr∧(l.take (i+1)).filter (keep a)=(l.take i).filter (keep a):=by
 have e:(l.take (i+1)).filter (keep a)=(l.take i).filter (keep a):=by rw[nz b,c];simp
 exact⟨by unfold Au;rw[e];exact h,e⟩
theorem zF{a:List Int}{w wr:World}{l:List OR}{i:Nat}{o:OR}{v:Value}(h:Au a w l i v wr)(j:l[i]?=some o)(b:keep a o=true)(c:World)(d:Value)(f:c.ownsRow w.heap.size 74 6 d (((l.take i).filter (keep a)).length+1) (cL ((l.take i).filter (keep a))++o.cs))(m:(wr.alloc (.cells o.cs.toArray 74)).grownBy c v.ownBlock):Au a w l (i+1) d c∧∃g c2,d= .slice g ((l.take (i+1)).filter (keep a)).length c2:=by
 have e:(l.take (i+1)).filter (keep a)=(l.take i).filter (keep a)++[o]:=by rw[nz j,b];simp
 have n:cL ((l.take i).filter (keep a))++o.cs=cL ((l.take (i+1)).filter (keep a)):=by rw[e,nk];simp[cL]
 have p:((l.take i).filter (keep a)).length+1=((l.take (i+1)).filter (keep a)).length:=by rw[e];simp
 rw[n,p]at f;have q:w.heap.size≤(wr.alloc (.cells o.cs.toArray 74)).heap.size:=Ct h.1.size (by simp);refine⟨⟨(h.1.alloc h.1.size _).grown m q (fun k b=>(h.2.lt k b).1),f⟩,?_⟩;obtain⟨g,c2,rfl⟩:=jH f;exact⟨g,c2,rfl⟩
theorem Ad{a:List Int}{l:List OR}(h:∀o∈l,o.ok)(i:Nat):∀o∈(l.take i).filter (keep a),o.ok:=fun o b=>h o (CU (Et.1 b).1)
def C8(a:List Int)(o:OR)(p c:Value):Prop:=∃j:Nat,j≤a.length∧c= .int .i64 j∧p= .bool (keep (a.take j) o)
theorem vr{a:List Int}{o:OR}{j:Nat}{k:Int}(b:a[j]?=some k):keep (a.take (j+1)) o=(keep (a.take j) o||decide (o.K=k)):=by unfold keep;rw[D1,b,List.any_append];simp[Bool.or_assoc]
def u6(w:World)(gk:Nat)(a:List Int):Prop:=∀j k,a[j]?=some k→w.cell? ⟨gk,j,none⟩=some (.int .i64 k)
theorem yw{ks:List Int}(a8:ks.length≤1000){w:World}{ao:Option Addr}{cap:Nat}{l:List OR}(Q:mq w ao l)(z:∀o∈l,o.ok){gk kc:Nat}(A:u6 w gk ks)(R:cN w):Calls prog 14 #[.slice ao l.length cap,.slice (some ⟨gk,0,none⟩) ks.length kc] w fun e w'=>e= .returned (.bool true)∧Below w.heap.size w w':=by
 have HM:=qN (cap:=cap) Q;have HL:=af Q;have HO:=af z;have HG:=af R;have HK:=af A;have hg:=R.lt;clear Q z R A;go_enter func14,ntmps14;go_wp2_with fail;refine HM.mono ?_;rintro e w1 ⟨r,rfl,C,O⟩;clear HM;cases r
 ·have D:=af (bH O (Cs _));clear O;go_wp2;go_ret;exact⟨rfl,D.out⟩
 have E:=C rfl;have HI:Hid (Au ks w l 0 (.slice none 0 0) w1):=⟨bH O (Cs _),CT _ _ _ _⟩;clear C O;go_wp2;go_loopw [6,7] (fun lv c wr=>∃(i:Nat) (y:Option Addr) (cx:Nat),i≤l.length∧c= .int .i64 i∧lv= .slice y ((l.take i).filter (keep ks)).length cx∧Hid (Au ks w l i lv wr)) (fun _ c _=>l.length-(intOf c).toNat);case atStart=>exact⟨0,none,0,CH _,rfl,rfl,HI⟩
 case round=>
  obtain⟨i,y,cx,hi,rfl,rfl,n⟩:=hrel;by_cases U:i<l.length
  ·have F:(i:Int)<l.length:=by omega
   obtain⟨o,V⟩:∃o,l[i]?=some o:=⟨_,Cp U⟩;obtain⟨g,off,rfl,C⟩:=HL.out i o V;have t:wr.rangeAt g (off+i*6) o.cs:=fun j u hu=>by have G:=C j u hu;rw[n.out.1.cell (Cw w _ G)];exact G
   have c0:wr.cell? ⟨g,off+i*6,none⟩=some (.int .i64 o.K):=t 0 _ rfl;have W:Hid (u6 wr gk ks):=fun j k hj=>by have G:=HK.out j k hj;rw[n.out.1.cell (Cw w _ G)];exact G
   have Y:=af t;clear C t;go_wp2;go_loopw [9,10] (fun p c wx=>wx=wr∧C8 ks o p c) (fun _ c _=>ks.length-(intOf c).toNat);case atStart=>exact⟨rfl,0,CH _,rfl,by simp[keep]⟩
   case round=>
    obtain⟨rfl,j,hj,rfl,rfl⟩:=hrel;by_cases Z:j<ks.length
    ·have H:(j:Int)<ks.length:=by omega
     obtain⟨I,v⟩:∃I,ks[j]?=some I:=⟨_,Cp Z⟩;have qj:=W.out j I v;have x:Hid (keep (ks.take (j+1)) o=(keep (ks.take j) o||decide (o.K=I))):=vr v;clear v;have d:keep (ks.take j) o=true∨keep (ks.take j) o=false:=by cases keep (ks.take j) o<;>simp
     rcases d with d|d
     ·rw[d];have q:=af d;clear d;go_wp2;go_roundw;case rel=>exact⟨trivial,j+1,by omega,by go_num,by rw[x.out,q.out];rfl⟩
      case measure=>simp[intOf];omega
     ·rw[d];have q:=af d;clear d;by_cases e2:o.K=I
      ·go_wp2;go_roundw;case rel=>exact⟨trivial,j+1,by omega,by go_num,by rw[x.out,q.out];simp[e2]⟩
       case measure=>simp[intOf];omega
      ·go_wp2;go_roundw;case rel=>exact⟨trivial,j+1,by omega,by go_num,by rw[x.out,q.out];simp[e2]⟩
       case measure=>simp[intOf];omega
    ·have H:¬(j:Int)<ks.length:=by omega
     obtain rfl:j=ks.length:=by omega
     rw[Dj];have d:keep ks o=true∨keep ks o=false:=by cases keep ks o<;>simp
     rcases d with d|d
     ·have P:=af (zF n.out V d);obtain⟨a0,a1,a3,a4,a5⟩:=Dn yS;have a9:((l.take i).filter (keep ks)).length≤16384:=Ct (EH _ _) (by rw[Cy];omega);have s:(wr.alloc (.cells #[.int .i64 o.K,.int .i64 o.X,.int .i64 o.a,.int .i64 o.b,.string o.S,.string o.T] 74)).ownsRow w.heap.size 74 6 (.slice y ((l.take i).filter (keep ks)).length cx) ((l.take i).filter (keep ks)).length (cL ((l.take i).filter (keep ks))):=n.out.2.alloc _;have J:w.heap.size≤(wr.alloc (.cells #[.int .i64 o.K,.int .i64 o.X,.int .i64 o.a,.int .i64 o.b,.string o.S,.string o.T] 74)).heap.size:=Ct n.out.1.size (by simp);have L:∀j u,o.cs[j]?=some u→(wr.alloc (.cells #[.int .i64 o.K,.int .i64 o.X,.int .i64 o.a,.int .i64 o.b,.string o.S,.string o.T] 74)).cell? ((⟨wr.heap.size,0,none⟩:Addr).add j)=some u:=CZ (w:=wr.alloc (.cells o.cs.toArray 74)) (B:=wr.heap.size) (aa _ _);have h:=Y.out;have D:Hid ((wr.alloc (.cells #[.int .i64 o.K,.int .i64 o.X,.int .i64 o.a,.int .i64 o.b,.string o.S,.string o.T] 74)).ownsRow w.heap.size 74 6 (.slice y ((l.take i).filter (keep ks)).length cx) ((l.take i).filter (keep ks)).length (cL ((l.take i).filter (keep ks)))∧w.heap.size≤(wr.alloc (.cells #[.int .i64 o.K,.int .i64 o.X,.int .i64 o.a,.int .i64 o.b,.string o.S,.string o.T] 74)).heap.size∧(∀j u,o.cs[j]?=some u→(wr.alloc (.cells #[.int .i64 o.K,.int .i64 o.X,.int .i64 o.a,.int .i64 o.b,.string o.S,.string o.T] 74)).cell? ((⟨wr.heap.size,0,none⟩:Addr).add j)=some u)):=⟨s,J,L⟩;have c1:=h 1 _ rfl;have c2:=h 2 _ rfl;have c3:=h 3 _ rfl;have c4:=h 4 _ rfl;have c5:=h 5 _ rfl;clear s J L h;rw[d]
      go_wp2_with (first|(at_builtin;refine DD (wr.alloc (.cells #[.int .i64 o.K,.int .i64 o.X,.int .i64 o.a,.int .i64 o.b,.string o.S,.string o.T] 74)) rfl (.tmp 44) (.tmp 49) 22 rfl w.heap.size 74 a0 _ 6 64 underlying22 a1 a3 a4 a5 rfl (by decide) (.slice y ((l.take i).filter (keep ks)).length cx) ((l.take i).filter (keep ks)).length (cL ((l.take i).filter (keep ks))) rfl D.out.1 ⟨wr.heap.size,0,none⟩ 1 1 o.cs rfl ?_ D.out.2.2 o.one ?_ ?_ D.out.2.1 ?_;(rw[o.len]);(unfold maxLen;omega);omega;intro v2 w2 m f _;obtain⟨M,a2,a6,rfl⟩:=P.out w2 v2 m f;have a7:=af M;clear m f M c0 c1 c2 c3 c4 c5));go_roundw;case rel=>exact⟨i+1,a2,a6,by omega,by go_num,rfl,a7⟩
      case measure=>simp[intOf];omega
     ·have P:=af (zx n.out V d);rw[d];go_wp2;go_roundw;case rel=>exact⟨i+1,y,cx,by omega,by go_num,by rw[P.out.2],P.out.1⟩
      case measure=>simp[intOf];omega
  ·have F:¬(i:Int)<l.length:=by omega
   obtain rfl:i=l.length:=by omega
   have HU:=tz (cap:=cx) (ym n.out.2) (Ad HO.out _) (by rw[Dj];exact Ct (EH _ _) E) (HG.out.below n.out.1 hg);simp only[Dj]at HU;go_wp2_with fail;refine HU.mono ?_;rintro e w2 ⟨rfl,N⟩;have HE:=af (n.out.1.trans (N.mono n.out.1.size));clear N HU;go_wp2;go_ret;exact⟨rfl,HE.out⟩
theorem mq.below{w a:World}{b:Option Addr}{l:List OR}(h:mq w b l)(d:Below w.heap.size w a):mq a b l:=by
 intro i o f;obtain⟨g,off,e,k⟩:=h i o f;exact⟨g,off,e,fun j u m=>by
  have c:=k j u m;rw[d.cell (Cw w _ c)];exact c⟩
theorem vE(a:List Int)(j:Nat)(k:Int)(h:a[j]?=some k):(a.map (fun k=>Value.int .i64 k)).toArray[j]?=some (.int .i64 k):=by rw[De,CK,h];rfl
theorem rk{w:World}{d:Option Addr}{cap:Nat}{l:List OR}(h:mq w d l)(c:∀o∈l,o.ok)(f:cN w):Calls prog 6 #[.slice d l.length cap] w fun e i=>e= .returned (.bool true)∧Below w.heap.size w i:=by have a:Below w.heap.size w (w.alloc (.cells #[.int .i64 7,.int .i64 9,.int .i64 10,.int .i64 11,.int .i64 13,.int .i64 14,.int .i64 15,.int .i64 16] 3)):=(EX _ _).alloc (Cs _) _;have g:=yw (ks:=[7,9,10,11,13,14,15,16]) (kc:=8) (by decide) (cap:=cap) (gk:=w.heap.size) (h.below a) c (fun j k m=>by rw[Cn _ _ j _ _ _ (aa _ _)];exact vE [7,9,10,11,13,14,15,16] j k m) (f.below a f.lt);go_enter func6,ntmps6;go_wp2_with fail;refine g.mono ?_;rintro e p ⟨rfl,b⟩;have n:=af (a.trans (b.mono a.size));clear b g a;go_wp2;go_ret;exact⟨rfl,n.out⟩
theorem Ae{w:World}{f:Option Addr}{cap:Nat}{l:List OR}(g:mq w f l)(a:∀o∈l,o.ok)(i:cN w):Calls prog 7 #[.slice f l.length cap] w fun e n=>e= .returned (.bool true)∧Below w.heap.size w n:=by
 have j:=qN (cap:=cap) g;have h:Hid (mq w f l∧(∀o∈l,o.ok)∧cN w):=⟨g,a,i⟩;clear g a i;go_enter func7,ntmps7;go_wp2_with fail;refine j.mono ?_;rintro e q ⟨r,rfl,k,c⟩;clear j;have d:=af (bH c (Cs _));cases r
 ·clear c;go_wp2;go_ret;exact⟨rfl,d.out⟩
 have m:=tz (cap:=cap) (h.out.1.below d.out) h.out.2.1 (k rfl) (h.out.2.2.fr c ka);clear c k;go_wp2_with fail;refine m.mono ?_;rintro e s ⟨rfl,b⟩;have p:=af (d.out.trans (b.mono d.out.size));clear b m;go_wp2;go_ret;exact⟨rfl,p.out⟩
section
open Go.ChangeShapes Go.WideShapes Go.Deep
theorem xV:prog.cellsOf 74=6:=by kernel_rfl
theorem wu:prog.cellsOf 3=1:=by kernel_rfl
theorem oF:prog.cellsOf 9=1:=by kernel_rfl
theorem oZ{n:Int}(h:(Lit.int .i64 n).wf=true):pg n:=by simp only[Lit.wf,Fq,DO]at h;exact h
section
variable{H:Type}{enc:TypeId×Value→H}{W:World}
theorem yC{d:Nat}{a:Addr}{cs:List Value}{x:DataW H×List MemPlace}(y:W.cells? 0 a 6=some cs)(z:DataW.trod enc prog W 0 (fun _=>true) true d 74 cs=some x):∃o:OR,o.ok∧∀j v,o.cs[j]?=some v→W.cell? (a.add j)=some v:=by
 obtain⟨_,e,b⟩:=World.cells?_some y;obtain⟨A,k,O,B,_,f,c⟩:=DataW.trod_struct underlying74 z;match cs,e with
 |[v0,P,Q,R,S,T],_=>
  have g:=c 0 (⟨ "Kind",3,0,false,"","",0⟩:Field) rfl;have h:=c 1 (⟨ "X",3,1,false,"","",8⟩:Field) rfl;have i:=c 2 (⟨ "A",3,2,false,"","",16⟩:Field) rfl;have l:=c 3 (⟨ "B",3,3,false,"","",24⟩:Field) rfl;have m:=c 4 (⟨ "S",9,4,false,"","",32⟩:Field) rfl;have n:=c 5 (⟨ "T",9,5,false,"","",48⟩:Field) rfl;simp only[wu,oF]at g h i l m n;have U:A.length=6:=f;rw[Cp (by omega)]at g h i l m n;obtain⟨C,p,_,D⟩:=FQ underlying3 g;obtain⟨E,q,_,F⟩:=FQ underlying3 h;obtain⟨G,r,_,I⟩:=FQ underlying3 i;obtain⟨J,s,_,K⟩:=FQ underlying3 l;obtain⟨L,t,_,_⟩:=DataW.trod_string underlying9 m;obtain⟨M,u,_,_⟩:=DataW.trod_string underlying9 n;simp at p q r s t u;subst p q r s t u;refine⟨⟨C,E,G,J,L,M⟩,⟨oZ D,oZ F,oZ I,oZ K⟩,?_⟩;intro j v w;have N:j<6:=by have:=(Co.1 w).1;simpa[OR.cs]using this
  rw[b j N];exact w
theorem qS{k:Nat}{v:Value}{d:DataW H}{G:List MemPlace}(I:Value.okWide prog W .any k 22 v)(h:DataW.Trod enc prog W 0 (fun _=>true) true 22 v d G):∃(z:Option Addr) (p:Nat) (l:List OR),v= .slice z l.length p∧mq W z l∧∀o∈l,o.ok:=by
 obtain⟨O,b,q,rfl⟩:=okWide_slice underlying22 I;obtain⟨A,h⟩:=h;rcases open_slice underlying22 h with⟨r,_⟩|⟨a,len,p,m,n,D,P,r,Q,J,R,t,_,K⟩
 ·simp[Value.cells]at r;obtain⟨rfl,rfl,rfl⟩:=r;exact⟨none,0,[],rfl,fun i o c=>by simp at c,fun o c=>absurd c (by simp)⟩
 ·simp[Value.cells]at r;obtain⟨rfl,rfl,rfl⟩:=r;have L:b≤m:=by rw[t];simp;exact J
  have each:∀i,i<b→∃o:OR,o.ok∧∀j v,o.cs[j]?=some v→W.cell? ((a.add (i*6)).add j)=some v:=by intro i hi;obtain⟨M,c1,c2⟩:=K i (by omega);rw[xV]at c1;exact yC c1 c2
  have:Inhabited OR:=⟨⟨0,0,0,0,⟨#[]⟩,⟨#[]⟩⟩⟩;obtain⟨f,w⟩:=choose_lt each;refine⟨some a,q,(List.range b).map f,by simp,?_,?_⟩
  ·intro i o c;simp only[CK,Do]at c;obtain⟨B,x,rfl⟩:=c;have e:i<b∧B=i:=by have:=Co.1 x;obtain⟨C,E⟩:=this;simp at C E;exact⟨C,E.symm⟩
   obtain⟨e,rfl⟩:=e;have y:=(w 0 (by omega)).2 0 _ rfl;have s:a.spot=none:=by have:=World.cell?_spot y;simpa[Addr.add]using this
   obtain⟨g,off,F⟩:=a;simp only at s;subst s;refine⟨g,off,rfl,fun j u N=>?_⟩;have:=(w B e).2 j u N;rw[DF,DF]at this;exact this
  ·intro o c;simp only[Cx,FL]at c;obtain⟨i,hi,rfl⟩:=c;exact(w i hi).1
end
end
end Go.Proofs.YteebjgfalllbjaaGreatDoor
