import Derived.Test.YteebjgfalllbjaaGreatDoorK39
namespace Go.Proofs.YteebjgfalllbjaaGreatDoor
open Go.RowKit Go.Proofs.Tryz
set_option maxRecDepth 100000
set_option maxHeartbeats 20000000
def nF(g:Bool→List (CL×Nat)→List AM→Bool→World→Prop)(L:List RS)(D A l n b:Nat)(nn em:Bool)(x:Value)(pause clock:Int)(Lv:Value)(c:Bool)(m:Int)(h:List (CL×Nat))(e:Ending)(d:World):Prop:=∃v i a k f j,e= .returned v∧oQ d v (if i=true then 5 else 0)∧cN d∧aH d D A l n nn em x pause clock false Lv∧LG d b Lv L∧b≤d.heap.size∧g i a k f d∧(∀W,Fr (fun _=>False) d W→Calls prog 37 #[.pointer (some ⟨A,0,none⟩)] W fun e o=>e= .returned (.int .i64 j)∧o=W)∧(i=true→m<j)∧a.length≤100000∧r9 d l (h++a)∧(c=true→a=[])∧(a=[]→ii (clock+1) pause c i a 0 (L.map RS.am) k f)∧(a≠[]→ii (clock+1) pause c i a 0 (r5 (L.map RS.am)) k f)
def zT(d:Bool→List (CL×Nat)→List AM→Bool→World→Prop)(L:List RS)(D A l n b:Nat)(nn em:Bool)(x:Value)(pause clock:Int)(Lv:Value)(e:Ending)(h:World):Prop:=e= .returned (.bool true)∧∃g a i m j k f,d m j k f g∧aH h D A l n nn em x pause (clock+1) f a∧LG h b a i∧i.map RS.am=k∧(∀c,a.ownBlock=some c→Lv.ownBlock=some c∨g.heap.size≤c)∧(∀q,(∃r∈i,r.mb q)→(∃r∈L,r.mb q)∨g.heap.size≤q)∧Fr (fun c=>c=D∨Lv.ownBlock=some c) g h
theorem AA.done{g:Bool→List (CL×Nat)→List AM→Bool→World→Prop}{l wr W:World}{D A u n b cx m:Nat}{nn em z f:Bool}{x:Value}{pause clock:Int}{L v:List RS}{o:List (CL×Nat)}{w:List AM}{j:Option Addr}(h:AA l D A u n nn em x pause clock b L j cx v wr)(F:v.map RS.am=w)(G:g z o w f l)(H:aH W D A u n nn em x pause (clock+1) f (.slice j L.length cx))(B:Fr (· =D) wr W){s:List RS}{p:Option Addr}(a:(j=p∧s=L)∨((∀c,j.map (·.block)=some c→l.heap.size≤c)∧∀q,(∃r∈L,r.mb q)→l.heap.size≤q)):zT g s D A u n b nn em x pause clock (.slice p s.length m) (.returned (.bool true)) W:=by
 have y:∀b c t,wr.heap[b]?=some (.cells c t (0,0))→t=223∨t=165∨t=220→¬b=D:=by intro b c t I C e;subst e;have:=h.law.symm.trans I;simp at this;rw[←this.2]at C;revert C;decide
 have k:∀c,(Value.slice j L.length cx).ownBlock=some c→j.map (·.block)=some c:=fun c d=>by
  cases j with
  |none=>cases d
  |some J=>simpa[Value.ownBlock]using d
 have i:∀c,p.map (·.block)=some c→(Value.slice p s.length m).ownBlock=some c:=fun c d=>by
  cases p with
  |none=>cases d
  |some J=>simpa[Value.ownBlock]using d
 refine⟨rfl,l,_,v,z,o,w,f,G,H,h.at'.fr B y,F,fun c d=>?_,fun q E=>?_,(h.fr.trans (B.mono (fun _ _ h=> .inl h)) fI).mono (fun c d e=>?_)⟩
 ·rcases a with⟨e,_⟩|⟨a,_⟩
  ·rw[e]at k;exact .inl (i c (k c (by rw[←e];exact d)))
  ·exact .inr (a c (k c d))
 ·rcases a with⟨_,rfl⟩|⟨_,a⟩
  ·exact h.mb q E
  ·rcases h.mb q E with h|h
   ·exact .inr (a q h)
   ·exact .inr h
 ·rcases e with e|e
  ·exact .inl e
  ·rcases a with⟨K,_⟩|⟨a,_⟩
   ·exact .inr (i c (by rw[←K];exact e))
   ·have:=a c e;omega
theorem xH{Post:Bool→List (CL×Nat)→List AM→Bool→World→Prop}{w:World}{D A Pp n b:Nat}{nn em:Bool}{x:Value}{pause clock td:Int}{Lv:Value}{L:List RS}{a4:List (CL×Nat)}{fails:Bool}(h:aH w D A Pp n nn em x pause clock false Lv)(dd:Calls prog 37 #[.pointer (some ⟨A,0,none⟩)] w fun e w2=>e= .returned (.int .i64 td)∧w2=w)(de:r9 w Pp a4)(hn:L.length≤100000)(dP:0≤clock)(dQ:clock≤100000)(bX:1≤pause)(bY:pause≤64)(bR:∀r∈L,Bu clock r)(hT:Calls prog 23 #[x] w fun e w1=>nF Post L D A Pp n b nn em x pause clock Lv fails td a4 e w1):Calls prog 85 #[.pointer (some ⟨D,0,none⟩),.bool fails] w fun e w'=>zT Post L D A Pp n b nn em x pause clock Lv e w':=by
 have cA:=af bR;obtain⟨dB,dC,dR,dS,v0,hp,dL,_,_⟩:=de;have p0:w.cell? ⟨Pp,0,none⟩=some (.slice dB a4.length dC):=(Cn _ _ 0 _ _ _ hp).trans rfl;have c0:=h.c0;have c1:=h.c1;have c5:=h.c5;have ec:wrap64 (clock+1)=clock+1:=bN (by omega);clear bR h;go_enter func85,ntmps85;go_wp2_with fail;refine dd.mono ?_;rintro e w' ⟨rfl,E⟩;rw[E];clear E dd;go_wp2_with fail;refine hT.mono ?_;rintro e w1 ⟨v,io,J,M',f,cB,rfl,hv,df,cR,dg,dh,bZ,di,bm,dM,⟨la,lc,ef,lv,vv,cG,dD,cb,cc⟩,dl,cI,cJ⟩;obtain⟨kq,cS⟩:∃kq:Int,(if io=true then(5:Int)else 0)=kq:=⟨_,rfl⟩;rw[cS]at hv;have bq:=af cS;clear cS;have aK:=af bZ;have dE:=af dl;have bi:=af cI;have bj:=af cJ;have dT:=hv.1;have dm:=hv.2 w1 (Fr.refl _ _) df;clear c0 c1 c5 p0 hp hT bZ dl cI cJ hv df;go_wp2_with fail;refine dm.mono ?_;rintro e w2 ⟨rfl,bJ⟩;go_wp2_with fail;refine(eS _ w2).mono ?_;rintro e dU ⟨rfl,E⟩;rw[E];clear E dm;obtain⟨vl,cT⟩:∃vl:Value,Hid (vl= .slice la (a4++J).length lc):=⟨_,rfl⟩;have dp:=bJ.keep cG jI;have q0:w2.cell? ⟨Pp,0,none⟩=some vl:=by rw[cT.out];exact(Cn _ _ 0 _ _ _ dp).trans rfl
 have br:=cR.fr bJ jI;have cV:=dg.frz bJ;have c0:=br.c0;have c1:=br.c1;have c7:=br.c7;have c8:=br.c8;have c9:=br.c9;have fz:=br.fz;have bt:Hid (aY w1 (if lc=a4.length then la else la.map (fun x=>x.add (a4.length*5))) 5 (J.map ql)):=by have:=zc (k:=a4.length) cb dD;rwa[List.drop_left]at this
 obtain⟨sa,cC⟩:∃sa,(if lc=a4.length then la else la.map (fun x=>x.add (a4.length*5)))=sa:=⟨_,rfl⟩;have aV:Hid (∀W,(Instr.sliceAt 45 vl (some (.int .i64 a4.length)) none none).run prog W= .ok (.slice sa J.length (lc-a4.length)) W):=fun W=>by rw[cT.out,←cC,uf la _ lc a4.length (by simp) W,Cr,DJ]
 have bv:Hid (∀ad,sa=some ad→∃c,w1.heap[ad.block]?=some (.cells c 52 (0,0))):=fun ad e=>by
  rw[←cC]at e;split at e
  ·exact cc ad e
  ·obtain⟨cW,e0,e1⟩:=Do.1 e;rw[←e1,show(cW.add (a4.length*5)).block=cW.block from by unfold Addr.add;split<;>rfl];exact cc cW e0
 have cX:=af cR;rw[cC]at bt;obtain⟨ao,aj,rfl,dq,cK⟩:=aN cV.o;have cd:=af cV;have cD:=af br;have cL:Hid (∀g off,ao=some ⟨g,off,none⟩→off=0):=fun g off e=>by have:=cK _ e;simp at this;exact this
 have cM:=af bJ;have bk:=di w2 bJ;have h7:(Instr.storeAt 3 (.pointer (some ⟨D,7,none⟩)) (.int .i64 (clock+1))).run prog w2= .ok () (w2.setCell ⟨D,7,none⟩ (.int .i64 (clock+1))):=ah c7 (fz 7) (by kernel_rfl) rfl;obtain⟨W2,cE⟩:=aw (w2.setCell ⟨D,7,none⟩ (.int .i64 (clock+1)));have dr:aH W2 D A Pp n nn em x pause (clock+1) false (.slice ao L.length aj):=by rw[cE.out];exact cD.out.set7 _
 have cF:Fr (· =D) w2 W2:=by rw[cE.out];exact eh.set (Fr.refl _ _)
 rw[←cE.out]at h7;clear cE;have ds:∀b c t,w2.heap[b]?=some (.cells c t (0,0))→t=223∨t=165∨t=220→¬b=D:=by intro b c t hb ht e;subst e;have:=cD.out.symm.trans hb;simp at this;rw[←this.2]at ht;revert ht;decide
 have bQ:=af (cd.out.fr cF ds);have bS:=af dr;have bw:=af ((bJ.mono (fun _ _ h=>h.elim)).trans cF fI);have cN:=af cF;clear dq cK cR dg cG cb cC cT cc dp br cV ds bJ dr cF di;by_cases aT:J.length=0
 ·obtain rfl:J=[]:=D3 aT;simp only[ES]at aV;cases io with
  |true=>
   have cY:=af (bm rfl);obtain rfl:(5:Int)=kq:=bq.out;clear bq;clear bm bt bv;have dt:¬cB=td:=by have:=cY.out;omega
   have cZ:(cB==td)=false:=by simp;omega
   go_wp2_with (refine aR 45 _ _ _ _ rfl rfl (by exact aV.out _) ?_);refine bk.mono ?_;rintro e wt ⟨rfl,E⟩;rw[E];clear E;go_wp2_with (first|(refine aR 45 _ _ _ _ rfl rfl (by exact aV.out _) ?_)|(refine ae 3 (w':=W2) _ _ rfl rfl ?_ ?_;exact h7));have HI:Hid (jy w1 D A Pp n nn em x pause clock b L fails true [] M' f ao aj 0 0 L W2):=⟨⟨bS.out,bQ.out,rfl,fun q h=> .inl h,bw.out.mono (fun _ _ h=> .inl h)⟩,⟨M',bi.out (by simp),by simp⟩,cA.out⟩;clear c0 c1 c7 c8 c9 fz q0 h7 bi bj bk;go_loopw [11,12] (fun kv c wr=>∃(i:Nat) (Y:List RS),i≤L.length∧kv= .int .i64 0∧c= .int .i64 i∧Hid (jy w1 D A Pp n nn em x pause clock b L fails true [] M' f ao aj i 0 Y wr)) (fun _ c _=>L.length-(intOf c).toNat);case atStart=>exact⟨0,L,CH _,rfl,rfl,HI⟩
   case round=>
    clear HI;obtain⟨i,Y,hi,rfl,rfl,y⟩:=hrel;have c9:=y.out.law.c9;have c7:=y.out.law.c7;have c6:=y.out.law.c6;by_cases aU:i<L.length
    ·have aW:(i:Int)<L.length:=by omega
     have ab:i<Y.length:=by rw[y.out.ln];exact aU
     obtain⟨r,Q⟩:∃r,Y[i]?=some r:=⟨_,Cp ab⟩;obtain⟨g,off,rfl,ap⟩:=(y.out.ln▸y.out.at':LG wr b (.slice ao Y.length aj) Y).sagas.get Q;obtain rfl:off=0:=cL.out g off rfl;rw[D5]at ap;obtain⟨s0,s1,s2,s3,s4,s5,s6⟩:=cH ap;have R:=y.out.rok Q;obtain⟨Mr,C,hM⟩:=y.out.drop Q;go_wp2_with fail;obtain⟨W3,a6⟩:=aw (wr.alloc (.cells #[.int .i64 r.id,.slice r.sa r.st.length r.sc,.int .i64 r.S.1,.int .i64 r.S.2,.int .i64 r.tries,.int .i64 r.due,.slice r.ma r.may.length r.mc] 223));have O:=j9 a6;have b3:aQ W3 wr.heap.size r:=by rw[a6.out];exact aa wr _
     rw[←a6.out];have d3:=y.out.law.fr O jI;have e7:=d3.c7;have e6:=d3.c6;obtain⟨t0,t1,t2,t3,t4,t5,t6⟩:=b3.c;clear s0 s1 s2 s3 s4 s5 s6 c9 c7 c6 a6 ap;have Z:Hid (∀W,Fr (fun _=>False) wr W→r.a.dueB (clock+1)=false→jy w1 D A Pp n nn em x pause clock b L fails true [] M' f (some ⟨g,0,none⟩) aj (i+1) 0 Y W):=fun W hW hd=>by
      have C:=C;cases C with
      |skip E h=>exact y.out.skip Q hW h hM
      |vain E _ _=>rw[show r.am.a.dueB (clock+1)=r.a.dueB (clock+1) from rfl,hd]at E;cases E
      |stop E _ _ _=>rw[show r.am.a.dueB (clock+1)=r.a.dueB (clock+1) from rfl,hd]at E;cases E
      |reply E _ _ _ _ _=>rw[show r.am.a.dueB (clock+1)=r.a.dueB (clock+1) from rfl,hd]at E;cases E
      |cut E _ _ _ _ _=>rw[show r.am.a.dueB (clock+1)=r.a.dueB (clock+1) from rfl,hd]at E;cases E
     by_cases a7:r.S.1=0
     ·have ak:r.a.dueB (clock+1)=false:=Dl (fun h=>by have e:r.a.S.1=r.S.1:=rfl;rcases h.1 with h|h<;>omega);have HN:=af (fun W hW=>Z.out W hW ak);have bK:=af O;rw[a7]at t2;clear C hM Z ak O b3 d3;go_region;go_wp2;go_roundw;case rel=>exact⟨i+1,Y,by omega,rfl,by go_num,HN.out _ bK.out.drew⟩
      case measure=>simp[intOf];omega
     ·have l:r.a.Ok clock:=by
       rcases R.1 with h|h
       ·exact absurd h a7
       ·exact h
      refine wp_region_still_tail 11 (by kernel_rfl) (by kernel_rfl) (Bx.out ?_);simp only[CW,Dc,CQ,D2];repeat(refine bu (fun K hK=>?_);go_simp;refine hK _ ?_;clear hK K)
      refine bI ?_;obtain⟨W4,T⟩:=aw W3.drew;have aq:=eG T;rw[ww T];clear T t0 t1 t2 t3 t4 t5 t6 e6 e7;go_wp2_with fail;refine(jD W4 r (clock+1)).mono ?_;rintro e w5 ⟨rfl,au⟩;have z:=(O.trans aq fI).trans au fI;have b5:aQ w5 wr.heap.size r:=au.keep (aq.keep b3 jI) jI;have d5:=y.out.law.fr z jI;clear O aq au b3 d3;rw[iV l];by_cases E:r.a.dueB (clock+1)=true
      ·have C:=C;rw[E];have e9:=d5.c9;have e7:=d5.c7;have e6:=d5.c6;obtain⟨t0,t1,t2,t3,t4,t5,t6⟩:=b5.c;cases C with
       |skip ce _=>rw[show r.am.a.dueB (clock+1)=r.a.dueB (clock+1) from rfl,E]at ce;cases ce
       |vain _ bU h=>
        subst bU;have aX:(r.S.1 !=0)=true:=by simpa using a7
        go_wp2_with fail;obtain⟨U,HU⟩:=aw w5.drew;have a0:=eG HU;let SU:World→Prop:=fun w'=>aH w' D A Pp n nn em x pause (clock+1) false (.slice (some ⟨g,0,none⟩) L.length aj)∧aQ w' wr.heap.size r
        have B:SU U:=⟨d5.fr a0 jI,a0.keep b5 jI⟩;refine dZ SU HU ?_;clear HU t0 t1 t2 t3 t4 t5 t6 e6 e7 e9;refine bM 0 134 0 (.pointer (some ⟨D,0,none⟩)) rfl B ?_;refine d4 1 135 134 (.pointer (some ⟨D,0,none⟩)) rfl B ?_;refine bT 2 136 111 135 6 (.pointer (some ⟨D,6,none⟩)) rfl B ?_;refine bT 3 137 109 136 3 (.pointer (some ⟨D,9,none⟩)) rfl B ?_;refine cU 4 138 107 137 (.slice (some ⟨g,0,none⟩) L.length aj) ⟨D,9,none⟩ rfl (fun _ hs=>hs.1.c9) underlying107 B ?_;refine bM 5 139 12 (.int .i64 i) rfl B ?_;refine ig 6 140 223 13 (.agg r.cs.toArray) ⟨wr.heap.size,0,none⟩ rfl (fun _ hs=>pQ hs.2) B ?_;refine bM 7 141 0 (.pointer (some ⟨D,0,none⟩)) rfl B ?_;refine d4 8 142 141 (.pointer (some ⟨D,0,none⟩)) rfl B ?_;refine bT 9 143 111 142 6 (.pointer (some ⟨D,6,none⟩)) rfl B ?_;refine bT 10 144 109 143 1 (.pointer (some ⟨D,7,none⟩)) rfl B ?_;refine cU 11 145 3 144 (.int .i64 (clock+1)) ⟨D,7,none⟩ rfl (fun _ hs=>hs.1.c7) underlying3 B ?_;refine bM 12 146 0 (.pointer (some ⟨D,0,none⟩)) rfl B ?_;refine d4 13 147 146 (.pointer (some ⟨D,0,none⟩)) rfl B ?_;refine bT 14 148 111 147 6 (.pointer (some ⟨D,6,none⟩)) rfl B ?_;refine bT 15 149 109 148 0 (.pointer (some ⟨D,6,none⟩)) rfl B ?_;refine cU 16 150 3 149 (.int .i64 pause) ⟨D,6,none⟩ rfl (fun _ hs=>hs.1.c6) underlying3 B ?_;simp only[Act.put,aC,aB,aE];refine dN 17 151 131 #[.tmp 140,.tmp 145,.tmp 150] #[.agg r.cs.toArray,.int .i64 (clock+1),.int .i64 pause] rfl ?_;refine(lC U r (clock+1) pause l.t0 (by have:r.a.tries=r.tries:=rfl;have:=l.t1;omega) (by omega) (by omega) bX bY).mono ?_;rintro e w7 ⟨rfl,d⟩;obtain⟨rv,av⟩:=aw (r.vain (clock+1) pause);rw[←av.out];have G:=(z.trans a0 fI).trans d fI;have P:=y.out.at'.frz G;have az:=y.out.ln
        rw[←az]at P;obtain⟨w8,bo,aD,I⟩:=jF (i:=i) rv P.o ab;have aF:¬D=g:=by intro e;obtain⟨cs,aG⟩:=cn P.o (b:=g) rfl;rw[←e]at aG;have:=(y.out.law.fr G jI).symm.trans aG;simp at this
        have d7:=y.out.law.fr G jI;have HN:=af (y.out.set Q G aD I (by rw[av.out];rfl) (by rw[av.out];rfl) (by rw[av.out];rfl) (by rw[av.out];exact P.m r (Cq Q)) (.inl (by rw[av.out];rfl)) h (by rw[hM,av.out];rfl));refine⟨_,rfl,⟨B.1.fr d jI,d.keep B.2 jI⟩,?_⟩;simp only[Act.put,aC,aB,aE];refine eW (S:=SU) (i:=18) (oi:=⟨some 152,.indexAddr 107 (.tmp 138) (.tmp 139),_,_,_,none⟩) (v:= .pointer (some ⟨g,i*7,none⟩)) rfl (Or.inl ⟨rfl,fun w' _=>bn 107 _ _ rfl rfl rfl (eM g L.length aj i aU w')⟩) ⟨B.1.fr d jI,d.keep B.2 jI⟩ ?_;simp only[Act.put,aC,aB,aE];refine cj 19 ?_;have aI:SU w8:=⟨d7.fr I aF,I.keep (d.keep B.2 jI) (by intro e;have:=(y.out.at'.o.lt g rfl).2;omega)⟩;refine aA (o:=⟨none,.store 223 (.tmp 152) (.tmp 151),_,_,_,none⟩) (w':=w8) rfl rfl (ar 223 _ _ rfl ⟨g,i*7,none⟩ _ rfl rfl bo) ⟨aI,?_⟩;simp only[Act.put];refine dn ?_;clear aI d5 b5 z l R d7 P I aD G d a0 aF E B hM;go_wp2;go_roundw;case rel=>exact⟨i+1,Y.set i rv,by omega,rfl,by go_num,HN⟩
        case measure=>simp[intOf];omega
       |stop _ bU _ bm=>
        subst bU;have aX:(r.S.1 !=0)=true:=by simpa using a7
        have d1:=af d5;have k8:=d1.out.c8;have f8:=d1.out.fz 8;obtain⟨WF,aZ⟩:=aw (w5.setCell ⟨D,8,none⟩ (.bool true));have h8:(Instr.storeAt 4 (.pointer (some ⟨D,8,none⟩)) (.bool true)).run prog w5= .ok () WF:=by rw[aZ.out];exact ah k8 f8 (by kernel_rfl) rfl
        have bV:Hid (aH WF D A Pp n nn em x pause (clock+1) true (.slice (some ⟨g,0,none⟩) L.length aj)):=by rw[aZ.out];exact d1.out.set8 true
        have bW:Hid (Fr (· =D) w5 WF):=by rw[aZ.out];exact eh.set (Fr.refl _ _)
        have HX:Hid (Y.map RS.am=M'):=by show Y.map RS.am=M';rw[hM,←CY,←CV];congr 1;obtain⟨hl,e⟩:=Co.1 Q;rw[←e,←Dk hl,CX]
        have dF:=af z;clear d5 b5 z l R hM Z;go_wp2_with (refine ae 4 (w':=WF) _ _ rfl rfl ?_ ?_;exact h8);go_ret;exact y.out.tw.done HX.out aK.out bV.out ((dF.out.mono (fun _ _ h=>h.elim)).trans bW.out fI) (.inl ⟨rfl,rfl⟩)
       |reply _ _ V _ _ _=>simp at V
       |cut _ _ V _ _ _=>simp at V
      ·have b0:r.a.dueB (clock+1)=false:=by simpa using E
       rw[b0];have HN:=af (Z.out w5 z b0);clear d5 b5 z l R C hM Z;go_wp2;go_roundw;case rel=>exact⟨i+1,Y,by omega,rfl,by go_num,HN⟩
       case measure=>simp[intOf];omega
    ·have aW:¬(i:Int)<L.length:=by omega
     obtain rfl:i=L.length:=by omega
     have HX:Hid (f=true∧Y.map RS.am=M'∧fails=true∨f=true∧Y.map RS.am=M'∧fails=false):=by
      obtain⟨Mr,C,hM⟩:=y.out.tk;rw[CP (by rw[y.out.ln];exact Cs _)]at C;cases C with
      |nil _ _=>
       rw[CO (by rw[y.out.ln];exact Cs _),D4]at hM;cases fails
       ·exact .inr ⟨rfl,hM.symm,rfl⟩
       ·exact .inl ⟨rfl,hM.symm,rfl⟩
     have d2:=af y.out.law;have k8:=d2.out.c8;have f8:=d2.out.fz 8;obtain⟨WF,aZ⟩:=aw (wr.setCell ⟨D,8,none⟩ (.bool true));have h8:(Instr.storeAt 4 (.pointer (some ⟨D,8,none⟩)) (.bool true)).run prog wr= .ok () WF:=by rw[aZ.out];exact ah k8 f8 (by kernel_rfl) rfl
     have bV:Hid (aH WF D A Pp n nn em x pause (clock+1) true (.slice ao L.length aj)):=by rw[aZ.out];exact d2.out.set8 true
     have bW:Hid (Fr (· =D) wr WF):=by rw[aZ.out];exact eh.set (Fr.refl _ _)
     have dG:=HX.out;clear HX;rcases dG with⟨rfl,hX,rfl⟩|⟨rfl,hX,rfl⟩
     ·have HX:=af hX;clear hX;go_wp2_with (refine ae 4 (w':=WF) _ _ rfl rfl ?_ ?_;exact h8);go_ret;exact y.out.tw.done HX.out aK.out bV.out bW.out (.inl ⟨rfl,rfl⟩)
     ·have HX:=af hX;clear hX;go_wp2_with (refine ae 4 (w':=WF) _ _ rfl rfl ?_ ?_;exact h8);go_ret;exact y.out.tw.done HX.out aK.out bV.out bW.out (.inl ⟨rfl,rfl⟩)
  |false=>
   obtain rfl:(0:Int)=kq:=bq.out;clear bq;clear bm bt bv;go_wp2_with (first|(refine aR 45 _ _ _ _ rfl rfl (by exact aV.out _) ?_)|(refine ae 3 (w':=W2) _ _ rfl rfl ?_ ?_;exact h7));have HI:Hid (jy w1 D A Pp n nn em x pause clock b L fails false [] M' f ao aj 0 0 L W2):=⟨⟨bS.out,bQ.out,rfl,fun q h=> .inl h,bw.out.mono (fun _ _ h=> .inl h)⟩,⟨M',bi.out (by simp),by simp⟩,cA.out⟩;clear c0 c1 c7 c8 c9 fz q0 h7 bi bj bk;go_loopw [11,12] (fun kv c wr=>∃(i:Nat) (Y:List RS),i≤L.length∧kv= .int .i64 0∧c= .int .i64 i∧Hid (jy w1 D A Pp n nn em x pause clock b L fails false [] M' f ao aj i 0 Y wr)) (fun _ c _=>L.length-(intOf c).toNat);case atStart=>exact⟨0,L,CH _,rfl,rfl,HI⟩
   case round=>
    clear HI;obtain⟨i,Y,hi,rfl,rfl,y⟩:=hrel;have c9:=y.out.law.c9;have c7:=y.out.law.c7;have c6:=y.out.law.c6;by_cases aU:i<L.length
    ·have aW:(i:Int)<L.length:=by omega
     have ab:i<Y.length:=by rw[y.out.ln];exact aU
     obtain⟨r,Q⟩:∃r,Y[i]?=some r:=⟨_,Cp ab⟩;obtain⟨g,off,rfl,ap⟩:=(y.out.ln▸y.out.at':LG wr b (.slice ao Y.length aj) Y).sagas.get Q;obtain rfl:off=0:=cL.out g off rfl;rw[D5]at ap;obtain⟨s0,s1,s2,s3,s4,s5,s6⟩:=cH ap;have R:=y.out.rok Q;obtain⟨Mr,C,hM⟩:=y.out.drop Q;go_wp2_with fail;obtain⟨W3,a6⟩:=aw (wr.alloc (.cells #[.int .i64 r.id,.slice r.sa r.st.length r.sc,.int .i64 r.S.1,.int .i64 r.S.2,.int .i64 r.tries,.int .i64 r.due,.slice r.ma r.may.length r.mc] 223));have O:=j9 a6;have b3:aQ W3 wr.heap.size r:=by rw[a6.out];exact aa wr _
     rw[←a6.out];have d3:=y.out.law.fr O jI;have e7:=d3.c7;have e6:=d3.c6;obtain⟨t0,t1,t2,t3,t4,t5,t6⟩:=b3.c;clear s0 s1 s2 s3 s4 s5 s6 c9 c7 c6 a6 ap;have Z:Hid (∀W,Fr (fun _=>False) wr W→r.a.dueB (clock+1)=false→jy w1 D A Pp n nn em x pause clock b L fails false [] M' f (some ⟨g,0,none⟩) aj (i+1) 0 Y W):=fun W hW hd=>by
      have C:=C;cases C with
      |skip E h=>exact y.out.skip Q hW h hM
      |vain E _ _=>rw[show r.am.a.dueB (clock+1)=r.a.dueB (clock+1) from rfl,hd]at E;cases E
      |stop E _ _ _=>rw[show r.am.a.dueB (clock+1)=r.a.dueB (clock+1) from rfl,hd]at E;cases E
      |reply E _ _ _ _ _=>rw[show r.am.a.dueB (clock+1)=r.a.dueB (clock+1) from rfl,hd]at E;cases E
      |cut E _ _ _ _ _=>rw[show r.am.a.dueB (clock+1)=r.a.dueB (clock+1) from rfl,hd]at E;cases E
     by_cases a7:r.S.1=0
     ·have ak:r.a.dueB (clock+1)=false:=Dl (fun h=>by have e:r.a.S.1=r.S.1:=rfl;rcases h.1 with h|h<;>omega);have HN:=af (fun W hW=>Z.out W hW ak);have bK:=af O;rw[a7]at t2;clear C hM Z ak O b3 d3;go_region;go_wp2;go_roundw;case rel=>exact⟨i+1,Y,by omega,rfl,by go_num,HN.out _ bK.out.drew⟩
      case measure=>simp[intOf];omega
     ·have l:r.a.Ok clock:=by
       rcases R.1 with h|h
       ·exact absurd h a7
       ·exact h
      refine wp_region_still_tail 11 (by kernel_rfl) (by kernel_rfl) (Bx.out ?_);simp only[CW,Dc,CQ,D2];repeat(refine bu (fun K hK=>?_);go_simp;refine hK _ ?_;clear hK K)
      refine bI ?_;obtain⟨W4,T⟩:=aw W3.drew;have aq:=eG T;rw[ww T];clear T t0 t1 t2 t3 t4 t5 t6 e6 e7;go_wp2_with fail;refine(jD W4 r (clock+1)).mono ?_;rintro e w5 ⟨rfl,au⟩;have z:=(O.trans aq fI).trans au fI;have b5:aQ w5 wr.heap.size r:=au.keep (aq.keep b3 jI) jI;have d5:=y.out.law.fr z jI;clear O aq au b3 d3;rw[iV l];by_cases E:r.a.dueB (clock+1)=true
      ·have C:=C;rw[E];have e9:=d5.c9;have e7:=d5.c7;have e6:=d5.c6;obtain⟨t0,t1,t2,t3,t4,t5,t6⟩:=b5.c;cases C with
       |skip ce _=>rw[show r.am.a.dueB (clock+1)=r.a.dueB (clock+1) from rfl,E]at ce;cases ce
       |vain _ bU h=>
        subst bU;have aX:(r.S.1 !=0)=true:=by simpa using a7
        go_wp2_with fail;obtain⟨U,HU⟩:=aw w5.drew;have a0:=eG HU;let SU:World→Prop:=fun w'=>aH w' D A Pp n nn em x pause (clock+1) false (.slice (some ⟨g,0,none⟩) L.length aj)∧aQ w' wr.heap.size r
        have B:SU U:=⟨d5.fr a0 jI,a0.keep b5 jI⟩;refine dZ SU HU ?_;clear HU t0 t1 t2 t3 t4 t5 t6 e6 e7 e9;refine bM 0 134 0 (.pointer (some ⟨D,0,none⟩)) rfl B ?_;refine d4 1 135 134 (.pointer (some ⟨D,0,none⟩)) rfl B ?_;refine bT 2 136 111 135 6 (.pointer (some ⟨D,6,none⟩)) rfl B ?_;refine bT 3 137 109 136 3 (.pointer (some ⟨D,9,none⟩)) rfl B ?_;refine cU 4 138 107 137 (.slice (some ⟨g,0,none⟩) L.length aj) ⟨D,9,none⟩ rfl (fun _ hs=>hs.1.c9) underlying107 B ?_;refine bM 5 139 12 (.int .i64 i) rfl B ?_;refine ig 6 140 223 13 (.agg r.cs.toArray) ⟨wr.heap.size,0,none⟩ rfl (fun _ hs=>pQ hs.2) B ?_;refine bM 7 141 0 (.pointer (some ⟨D,0,none⟩)) rfl B ?_;refine d4 8 142 141 (.pointer (some ⟨D,0,none⟩)) rfl B ?_;refine bT 9 143 111 142 6 (.pointer (some ⟨D,6,none⟩)) rfl B ?_;refine bT 10 144 109 143 1 (.pointer (some ⟨D,7,none⟩)) rfl B ?_;refine cU 11 145 3 144 (.int .i64 (clock+1)) ⟨D,7,none⟩ rfl (fun _ hs=>hs.1.c7) underlying3 B ?_;refine bM 12 146 0 (.pointer (some ⟨D,0,none⟩)) rfl B ?_;refine d4 13 147 146 (.pointer (some ⟨D,0,none⟩)) rfl B ?_;refine bT 14 148 111 147 6 (.pointer (some ⟨D,6,none⟩)) rfl B ?_;refine bT 15 149 109 148 0 (.pointer (some ⟨D,6,none⟩)) rfl B ?_;refine cU 16 150 3 149 (.int .i64 pause) ⟨D,6,none⟩ rfl (fun _ hs=>hs.1.c6) underlying3 B ?_;simp only[Act.put,aC,aB,aE];refine dN 17 151 131 #[.tmp 140,.tmp 145,.tmp 150] #[.agg r.cs.toArray,.int .i64 (clock+1),.int .i64 pause] rfl ?_;refine(lC U r (clock+1) pause l.t0 (by have:r.a.tries=r.tries:=rfl;have:=l.t1;omega) (by omega) (by omega) bX bY).mono ?_;rintro e w7 ⟨rfl,d⟩;obtain⟨rv,av⟩:=aw (r.vain (clock+1) pause);rw[←av.out];have G:=(z.trans a0 fI).trans d fI;have P:=y.out.at'.frz G;have az:=y.out.ln
        rw[←az]at P;obtain⟨w8,bo,aD,I⟩:=jF (i:=i) rv P.o ab;have aF:¬D=g:=by intro e;obtain⟨cs,aG⟩:=cn P.o (b:=g) rfl;rw[←e]at aG;have:=(y.out.law.fr G jI).symm.trans aG;simp at this
        have d7:=y.out.law.fr G jI;have HN:=af (y.out.set Q G aD I (by rw[av.out];rfl) (by rw[av.out];rfl) (by rw[av.out];rfl) (by rw[av.out];exact P.m r (Cq Q)) (.inl (by rw[av.out];rfl)) h (by rw[hM,av.out];rfl));refine⟨_,rfl,⟨B.1.fr d jI,d.keep B.2 jI⟩,?_⟩;simp only[Act.put,aC,aB,aE];refine eW (S:=SU) (i:=18) (oi:=⟨some 152,.indexAddr 107 (.tmp 138) (.tmp 139),_,_,_,none⟩) (v:= .pointer (some ⟨g,i*7,none⟩)) rfl (Or.inl ⟨rfl,fun w' _=>bn 107 _ _ rfl rfl rfl (eM g L.length aj i aU w')⟩) ⟨B.1.fr d jI,d.keep B.2 jI⟩ ?_;simp only[Act.put,aC,aB,aE];refine cj 19 ?_;have aI:SU w8:=⟨d7.fr I aF,I.keep (d.keep B.2 jI) (by intro e;have:=(y.out.at'.o.lt g rfl).2;omega)⟩;refine aA (o:=⟨none,.store 223 (.tmp 152) (.tmp 151),_,_,_,none⟩) (w':=w8) rfl rfl (ar 223 _ _ rfl ⟨g,i*7,none⟩ _ rfl rfl bo) ⟨aI,?_⟩;simp only[Act.put];refine dn ?_;clear aI d5 b5 z l R d7 P I aD G d a0 aF E B hM;go_wp2;go_roundw;case rel=>exact⟨i+1,Y.set i rv,by omega,rfl,by go_num,HN⟩
        case measure=>simp[intOf];omega
       |stop _ bU _ bm=>
        cases bm
       |reply _ _ V _ _ _=>simp at V
       |cut _ _ V _ _ _=>simp at V
      ·have b0:r.a.dueB (clock+1)=false:=by simpa using E
       rw[b0];have HN:=af (Z.out w5 z b0);clear d5 b5 z l R C hM Z;go_wp2;go_roundw;case rel=>exact⟨i+1,Y,by omega,rfl,by go_num,HN⟩
       case measure=>simp[intOf];omega
    ·have aW:¬(i:Int)<L.length:=by omega
     obtain rfl:i=L.length:=by omega
     have HX:Hid (f=false∧Y.map RS.am=M'):=by
      obtain⟨Mr,C,hM⟩:=y.out.tk;rw[CP (by rw[y.out.ln];exact Cs _)]at C;cases C with
      |nil _ _=>
       rw[CO (by rw[y.out.ln];exact Cs _),D4]at hM;exact⟨rfl,hM.symm⟩
     obtain⟨rfl,hX⟩:=HX.out;clear HX;have HX:=af hX;clear hX;go_wp2;go_ret;exact y.out.tw.done HX.out aK.out y.out.law (Fr.refl _ _) (.inl ⟨rfl,rfl⟩)
 ·have dH:fails=false:=by
   cases fails with
   |true=>exact absurd (by rw[dE.out rfl];rfl) aT
   |false=>rfl
  subst dH;cases io with
  |true=>
   have cY:=af (bm rfl);obtain rfl:(5:Int)=kq:=bq.out;clear bq;clear bm;have dt:¬cB=td:=by have:=cY.out;omega
   have cZ:(cB==td)=false:=by simp;omega
   go_wp2_with (refine aR 45 _ _ _ _ rfl rfl (by exact aV.out _) ?_);refine bk.mono ?_;rintro e wt ⟨rfl,E⟩;rw[E];clear E;have d6:(0:Int)<J.length:=by omega
   have du:((J.length:Int)>0):=d6;obtain⟨g5,b1,ag,_⟩:=bt.out 0 (ql (J[0]'(by omega))) (by rw[CK,Cp (by omega)];rfl);subst ag;have cf:=Ct dh bw.out.size;have d9:=bS.out.c9;go_wp2_with (first|(refine aR 45 _ _ _ _ rfl rfl (by exact aV.out _) ?_)|(refine ae 3 (w':=W2) _ _ rfl rfl ?_ ?_;exact h7));refine(o7 bQ.out.sagas (by omega)).mono ?_;rintro e w3 ⟨b2,Ls,rfl,hR,b4,bx,cg,O⟩;have d3:=bS.out.fr O jI;have h9:(Instr.storeAt 107 (.pointer (some ⟨D,9,none⟩)) b2).run prog w3= .ok () (w3.setCell ⟨D,9,none⟩ b2):=ah d3.c9 (d3.fz 9) (by kernel_rfl) (by obtain⟨_,_,e,_⟩:=aN b4;rw[e];rfl);obtain⟨W4,T⟩:=aw (w3.setCell ⟨D,9,none⟩ b2);have ch:aH W4 D A Pp n nn em x pause (clock+1) false b2:=by rw[T.out];exact d3.set9 _
   have bp:Fr (· =D) w3 W4:=by rw[T.out];exact eh.set (Fr.refl _ _)
   rw[←T.out]at h9;have b7:=(cN.out.trans (O.mono (fun _ _ h=>h.elim)) fI).trans bp fI;have b8:∀b c t,w3.heap[b]?=some (.cells c t (0,0))→t=223∨t=165∨t=220→¬b=D:=by intro b c t hb ht e;subst e;have:=d3.symm.trans hb;simp at this;rw[←this.2]at ht;revert ht;decide
   have a8:=bP b4 bp (fun b c hb=>b8 b c _ hb (.inl rfl));have ay:=fun r Q=>(bx r Q).fr bp (fun b c hb=>b8 b c _ hb (.inr (.inr rfl)));have ci:LG W4 b b2 Ls:=by
    refine⟨?_,fun r' a9=>?_,fun r' a9=>?_,cg,fun r' a9=>?_⟩
    ·exact bg a8 cf
    ·obtain⟨r,Q,⟨h1,h2,h3,h4,_⟩,_⟩:=hR.mem r' a9;rw[h2,h3,h4];exact(cd.out.s r Q).fr b7 (fun b c hb e=>by have e:=e;subst e;rw[cD.out]at hb;simp at hb)
    ·obtain⟨r,Q,⟨h1,h2,h3,h4,h5,h6,h7,h8,h9⟩,_⟩:=hR.mem r' a9;exact bg ((ay r' a9).o (by rw[h8,h5]) h9) cf
    ·obtain⟨r,Q,⟨h1,h2,h3,h4,_⟩,_⟩:=hR.mem r' a9;rw[h4];exact cd.out.n r Q
   obtain⟨ax,cx,rfl,bL,ba⟩:=aN a8;have bO:Hid (∀g off,ax=some ⟨g,off,none⟩→off=0):=fun g off e=>by have:=ba _ e;simp at this;exact this
   have bl:Hid (∀c,ax.map (·.block)=some c→W2.heap.size≤c):=fun c hc=>by
    cases ax with
    |none=>cases hc
    |some ad=>
     have:=(a8.lt ad.block (by simp[Value.ownBlock])).1;simp at hc;rw[←hc];exact this
   have d8:Hid (∀q,(∃r∈Ls,r.mb q)→w1.heap.size≤q):=fun q ⟨r,Q,o,s,e⟩=>by obtain⟨g,h1,h2,_⟩:=ay r Q;rw[h2]at e;simp at e;have:=bw.out.size;omega
   have dI:Ls.length≤100000:=by have:=hR.len;omega
   have da:=bw.out.size;have HI:Hid (jy w1 D A Pp n nn em x pause clock b Ls false true J M' f ax cx 0 0 Ls W4):=by
    refine⟨⟨ch,ci,rfl,fun q h=> .inl h,((cM.out.mono (fun _ _ h=>h.elim)).trans b7 fI).mono (fun _ _ h=> .inl h)⟩,⟨M',?_,by simp⟩,fun r' a9=>?_⟩
    ·rw[D2,hR.am];exact bj.out (fun e=>by rw[e]at aT;exact aT rfl)
    ·rw[D2]at a9;obtain⟨r,Q,⟨h1,h2,h3,h4,h5,h6,h7,h8,h9⟩,h0⟩:=hR.mem r' a9;refine⟨.inr ?_,by rw[h8];simp⟩;have bR:=cA.out r Q;have e:r'.a=r.a:=by simp only[RS.a,h1,h4,h5,h6,h7]
     rw[e];rcases bR.1 with h|h
     ·exact absurd h h0
     ·exact h
   have k9:=d3.c9;have f9:=d3.fz 9;clear c0 c1 c7 c8 c9 fz q0 h7 d9 d3 bp b7 b8 a8 ay ci b4 bx cg ch bL ba hR bk bi bj;go_wp2_with (refine ae 107 (w':=W4) _ _ rfl rfl ?_ ?_;exact h9);clear h9 k9 f9;try rw[←T.out]
   clear T;go_loopw [11,12] (fun kv c wr=>∃(i kk:Nat) (Y:List RS),i≤Ls.length∧kk≤100000∧kv= .int .i64 kk∧c= .int .i64 i∧Hid (jy w1 D A Pp n nn em x pause clock b Ls false true J M' f ax cx i kk Y wr)) (fun _ c _=>Ls.length-(intOf c).toNat);case atStart=>exact⟨0,0,Ls,CH _,CH _,rfl,rfl,HI⟩
   case round=>
    clear HI;obtain⟨i,kk,Y,hi,cl,rfl,rfl,y⟩:=hrel;have c9:=y.out.law.c9;have c7:=y.out.law.c7;have c6:=y.out.law.c6;by_cases aU:i<Ls.length
    ·have aW:(i:Int)<Ls.length:=by omega
     have ab:i<Y.length:=by rw[y.out.ln];exact aU
     obtain⟨r,Q⟩:∃r,Y[i]?=some r:=⟨_,Cp ab⟩;obtain⟨g,off,rfl,ap⟩:=(y.out.ln▸y.out.at':LG wr b (.slice ax Y.length cx) Y).sagas.get Q;obtain rfl:off=0:=bO.out g off rfl;rw[D5]at ap;obtain⟨s0,s1,s2,s3,s4,s5,s6⟩:=cH ap;have R:=y.out.rok Q;obtain⟨Mr,C,hM⟩:=y.out.drop Q;go_wp2_with fail;obtain⟨W3,a6⟩:=aw (wr.alloc (.cells #[.int .i64 r.id,.slice r.sa r.st.length r.sc,.int .i64 r.S.1,.int .i64 r.S.2,.int .i64 r.tries,.int .i64 r.due,.slice r.ma r.may.length r.mc] 223));have O:=j9 a6;have b3:aQ W3 wr.heap.size r:=by rw[a6.out];exact aa wr _
     rw[←a6.out];have d3:=y.out.law.fr O jI;have e7:=d3.c7;have e6:=d3.c6;obtain⟨t0,t1,t2,t3,t4,t5,t6⟩:=b3.c;clear s0 s1 s2 s3 s4 s5 s6 c9 c7 c6 a6 ap;have Z:Hid (∀W,Fr (fun _=>False) wr W→r.a.dueB (clock+1)=false→jy w1 D A Pp n nn em x pause clock b Ls false true J M' f (some ⟨g,0,none⟩) cx (i+1) kk Y W):=fun W hW hd=>by
      have C:=C;cases C with
      |skip E h=>exact y.out.skip Q hW h hM
      |vain E _ _=>rw[show r.am.a.dueB (clock+1)=r.a.dueB (clock+1) from rfl,hd]at E;cases E
      |stop E _ _ _=>rw[show r.am.a.dueB (clock+1)=r.a.dueB (clock+1) from rfl,hd]at E;cases E
      |reply E _ _ _ _ _=>rw[show r.am.a.dueB (clock+1)=r.a.dueB (clock+1) from rfl,hd]at E;cases E
      |cut E _ _ _ _ _=>rw[show r.am.a.dueB (clock+1)=r.a.dueB (clock+1) from rfl,hd]at E;cases E
     by_cases a7:r.S.1=0
     ·have ak:r.a.dueB (clock+1)=false:=Dl (fun h=>by have e:r.a.S.1=r.S.1:=rfl;rcases h.1 with h|h<;>omega);have HN:=af (fun W hW=>Z.out W hW ak);have bK:=af O;rw[a7]at t2;clear C hM Z ak O b3 d3;go_region;go_wp2;go_roundw;case rel=>exact⟨i+1,kk,Y,by omega,cl,rfl,by go_num,HN.out _ bK.out.drew⟩
      case measure=>simp[intOf];omega
     ·have l:r.a.Ok clock:=by
       rcases R.1 with h|h
       ·exact absurd h a7
       ·exact h
      refine wp_region_still_tail 11 (by kernel_rfl) (by kernel_rfl) (Bx.out ?_);simp only[CW,Dc,CQ,D2];repeat(refine bu (fun K hK=>?_);go_simp;refine hK _ ?_;clear hK K)
      refine bI ?_;obtain⟨W4,T⟩:=aw W3.drew;have aq:=eG T;rw[ww T];clear T t0 t1 t2 t3 t4 t5 t6 e6 e7;go_wp2_with fail;refine(jD W4 r (clock+1)).mono ?_;rintro e w5 ⟨rfl,au⟩;have z:=(O.trans aq fI).trans au fI;have b5:aQ w5 wr.heap.size r:=au.keep (aq.keep b3 jI) jI;have d5:=y.out.law.fr z jI;clear O aq au b3 d3;rw[iV l];by_cases E:r.a.dueB (clock+1)=true
      ·have a5:=(Dh E).1;have aX:(r.S.1 !=0)=true:=by simpa using a7
       rcases C.ask E (fun e=>by rw[e]at aT;exact aT rfl)with⟨rp,M2,db,V,hcut,h,bb⟩|⟨rp,db,V,cO,bh,dv,bb⟩
       ·rw[bb]at hM;clear C bb Z;have hcut:=hcut rfl;obtain⟨dw,co,ag,bz⟩:=bt.out kk (ql (r.a.asks,rp)) (by rw[CK,V];rfl);simp only[Cu,Ec,ER]at ag;obtain⟨cp,cr⟩:=ag;subst cp;subst cr;obtain⟨c5,bc⟩:=bv.out _ rfl;have V:J[kk]?=some (r.a.asks,rp):=V;have dx:=(Co.1 V).1;have dJ:(((kk:Int)+1)==(J.length:Int))=false:=by simp;omega
        have dy:¬((kk:Int)+1=(J.length:Int)):=by omega
        have bA:¬(g5=D∨(some (⟨g,0,none⟩:Addr)).map (·.block)=some g5):=by
         rintro(e|e)
         ·subst e;have:=cX.out.symm.trans bc;simp at this
         ·have h1:=bl.out g5 e;have h2:g5<w1.heap.size:=lt_of_heap bc;omega
        have aL:w5.rangeAt g5 (b1+kk*5) (ql (r.a.asks,rp)):=fun j u hu=>z.cell (y.out.fr.cell (bz j u hu) bA) jI;have a5:r.a.open:=by have:=E;unfold AS.dueB at this;exact(Dh this).1
        obtain⟨za,cu,bh,bB,bC⟩:=oA l a5;have aM:=(y.out.at'.s r (Cq Q)).fr z (fun _ _ _ h=>h);have aO:=aM.rows;rw[E];have e9:=d5.c9;have e7:=d5.c7;have e6:=d5.c6;obtain⟨t0,t1,t2,t3,t4,t5,t6⟩:=b5.c;have aX:(r.S.1 !=0)=true:=by simpa using a7
        have cP:((kk:Int)==(J.length:Int))=false:=by simp;omega
        have bd:r.st.length≤100:=by have:=l.l6;have e:r.a.st.length=r.st.length:=rfl;omega
        have X:Hid (aY w5 r.sa 2 (r.st.map dj)∧r.S.2=(za:Int)+1∧r.st[za]?=some cu∧r.st.length≤100):=⟨aO,bh,bB,bd⟩;have be:=af aL;clear aO bh bB aM aL bz bA bc;go_wp2_with fail;refine(oR X.out.1 X.out.2.1 X.out.2.2.1 X.out.2.2.2).mono ?_;rintro e w6 ⟨rfl,a0⟩;rw[←bC];obtain⟨H,bD⟩:∃H:CL,Hid (H=r.a.asks):=⟨_,rfl⟩;rw[←bD.out];rw[←bD.out]at be;have aP:=z.trans a0 fI;have b6:aQ w6 wr.heap.size r:=a0.keep b5 jI;have bE:w6.rangeAt g5 (b1+kk*5) (ql (H,rp)):=fun j u hu=>a0.cell (be.out j u hu) jI;obtain⟨q0,q1,q2,q3,q4⟩:=ox bE;unfold CL.cs;simp only[List.toArray];clear t0 t1 t2 t3 t4 t5 t6 e6 e7 e9 bE X;go_wp2_with fail;obtain⟨W7,aJ⟩:=aw (w6.alloc (.cells #[.int .i64 H.saga,.int .i64 H.step,.bool H.back,.string H.data] 233));have d:=j9 aJ;have al:W7.heap[w6.heap.size]?=some (.cells #[.int .i64 H.saga,.int .i64 H.step,.bool H.back,.string H.data] 233 (0,0)):=by rw[aJ.out];exact aa w6 _
        rw[←aJ.out];have x0:W7.cell? ⟨w6.heap.size,0,none⟩=some (.int .i64 H.saga):=(Cn _ _ 0 _ _ _ al).trans rfl;have x1:W7.cell? ⟨w6.heap.size,1,none⟩=some (.int .i64 H.step):=(Cn _ _ 1 _ _ _ al).trans rfl;have x2:W7.cell? ⟨w6.heap.size,2,none⟩=some (.bool H.back):=(Cn _ _ 2 _ _ _ al).trans rfl;have x3:W7.cell? ⟨w6.heap.size,3,none⟩=some (.string H.data):=(Cn _ _ 3 _ _ _ al).trans rfl;have y0:=d.cell q0 jI;have y1:=d.cell q1 jI;have y2:=d.cell q2 jI;have y3:=d.cell q3 jI;have cQ:(kk:Int)<J.length:=by omega
        have cv:=af q4;clear q0 q1 q2 q3 q4 aJ al;refine wp_region_still_tail 6 (by kernel_rfl) (by kernel_rfl) (Bx.out ?_);simp only[CW,Dc,CQ,D2];repeat(refine bu (fun K hK=>?_);go_simp;refine hK _ ?_;clear hK K)
        refine bI ?_;obtain⟨W8,bf⟩:=aw W7.drew;have I:=eG bf;rw[ww bf];clear bf x0 x1 x2 x3 y0 y1 y2 y3;go_wp2_with fail;refine(mU W8 H H).mono ?_;rintro e w9 ⟨rfl,bF⟩;rw[Dg (show H.saga=H.saga∧H.step=H.step∧H.back=H.back∧H.data=H.data from⟨rfl,rfl,rfl,rfl⟩)];have a2:=(d.trans I fI).trans bF fI;have a1:=aP.trans a2 fI;have b9:aQ w9 wr.heap.size r:=a2.keep b6 jI;have d9:=y.out.law.fr a1 jI;have z4:=a2.cell cv.out jI;clear d I bF b6 b5 d5 z a0 aP;go_wp2_with fail;obtain⟨U,HU⟩:=aw w9.drew;have ai:=eG HU;let SU:World→Prop:=fun w'=>aH w' D A Pp n nn em x pause (clock+1) false (.slice (some ⟨g,0,none⟩) Ls.length cx)∧aQ w' wr.heap.size r
        have B:SU U:=⟨d9.fr ai jI,ai.keep b9 jI⟩;refine dZ SU HU ?_;clear HU z4;refine bM 0 189 0 (.pointer (some ⟨D,0,none⟩)) rfl B ?_;refine d4 1 190 189 (.pointer (some ⟨D,0,none⟩)) rfl B ?_;refine bT 2 191 111 190 6 (.pointer (some ⟨D,6,none⟩)) rfl B ?_;refine bT 3 192 109 191 3 (.pointer (some ⟨D,9,none⟩)) rfl B ?_;refine cU 4 193 107 192 (.slice (some ⟨g,0,none⟩) Ls.length cx) ⟨D,9,none⟩ rfl (fun _ hs=>hs.1.c9) underlying107 B ?_;refine bM 5 194 12 (.int .i64 i) rfl B ?_;refine bM 6 195 0 (.pointer (some ⟨D,0,none⟩)) rfl B ?_;refine ig 7 196 223 13 (.agg r.cs.toArray) ⟨wr.heap.size,0,none⟩ rfl (fun _ hs=>pQ hs.2) B ?_;refine bM 8 197 17 (.int .i64 (rp:Nat)) rfl B ?_;refine bM 9 198 18 (.bool false) rfl B ?_;simp only[Act.put,aC,aB,aE];refine dN 10 199 134 #[.tmp 195,.tmp 196,.tmp 197,.tmp 198] #[.pointer (some ⟨D,0,none⟩),.agg r.cs.toArray,.int .i64 (rp:Nat),.bool false] rfl ?_;have bG:1≤r.S.2∧r.S.2≤6:=by have h1:1≤r.S.2∧r.S.2≤r.st.length:=l.p a5;have h2:r.st.length≤6:=l.l6;omega
        have bH:0≤r.tries∧r.tries≤1000000:=by have h1:0≤r.tries:=l.t0;have h2:r.tries≤clock:=l.t1;omega
        refine(nI B.1 r (rp:Nat) bG.1 bG.2 bH.1 bH.2 (by omega) (by omega) bX bY).mono ?_;rintro e w7 ⟨rv,rfl,F,d⟩;have G:=(a1.trans ai fI).trans d fI;have P:=y.out.at'.frz G;have az:=y.out.ln;rw[←az]at P;have cw:=(a1.trans ai fI).size;have cy:b≤U.heap.size:=by have h1:=y.out.at'.o.form (by omega);obtain⟨q,cq,e,dz,dA⟩:=h1;omega
        have a3:rv.sa=r.sa∧rv.sc=r.sc∧rv.st=r.st:=by
         by_cases N:r.moves (rp:Nat)=true
         ·rw[CE N]at F;obtain⟨M,e1,_⟩:=F;rw[e1];exact⟨rfl,rfl,rfl⟩
         ·rw[Cz N]at F;rw[F];exact⟨rfl,rfl,rfl⟩
        have aS:rv.am=r.am.after rp (clock+1) pause:=by
         unfold AM.after;have e:r.am.a.moves (rp:Nat)=r.moves (rp:Nat):=rfl;by_cases N:r.moves (rp:Nat)=true
         ·rw[CE N]at F;obtain⟨M,e1,_⟩:=F;rw[e,CE N,e1];rfl
         ·rw[Cz N]at F;rw[e,Cz N,F];rfl
        have an:cm w7 b rv∧(rv.ma=r.ma∨cm w7 wr.heap.size rv):=by
         by_cases N:r.moves (rp:Nat)=true
         ·rw[CE N]at F;obtain⟨M,e1,e2⟩:=F;have e3:=e2.o (by rw[e1];rfl) (by rw[e1];rfl);exact⟨bg e3 cy,.inr (bg e3 cw)⟩
         ·rw[Cz N]at F;rw[F];exact⟨P.m r (Cq Q),.inl rfl⟩
        obtain⟨w8,bo,aD,I⟩:=jF (i:=i) rv P.o ab;have d7:=y.out.law.fr G jI;have aF:¬D=g:=by intro e;obtain⟨cs,aG⟩:=cn P.o (b:=g) rfl;rw[←e]at aG;have:=d7.symm.trans aG;simp at this
        have HN:=af (y.out.set Q G aD I a3.1 a3.2.1 a3.2.2 an.1 an.2 h (by rw[hM,aS]));refine⟨_,rfl,⟨B.1.fr d jI,d.keep B.2 jI⟩,?_⟩;simp only[Act.put,aC,aB,aE];refine eW (S:=SU) (i:=11) (oi:=⟨some 200,.indexAddr 107 (.tmp 193) (.tmp 194),_,_,_,none⟩) (v:= .pointer (some ⟨g,i*7,none⟩)) rfl (Or.inl ⟨rfl,fun w' _=>bn 107 _ _ rfl rfl rfl (eM g Ls.length cx i aU w')⟩) ⟨B.1.fr d jI,d.keep B.2 jI⟩ ?_;simp only[Act.put,aC,aB,aE];refine cj 12 ?_;have aI:SU w8:=⟨d7.fr I aF,I.keep (d.keep B.2 jI) (by intro e;have:=(y.out.at'.o.lt g rfl).2;omega)⟩;refine aA (o:=⟨none,.store 223 (.tmp 200) (.tmp 199),_,_,_,none⟩) (w':=w8) rfl rfl (ar 223 _ _ rfl ⟨g,i*7,none⟩ _ rfl rfl bo) ⟨aI,?_⟩;simp only[Act.put];refine dn ?_;have cz:kk+1≤100000:=by omega
        clear aI d9 b9 a1 l R d7 P I aD G d ai aF E B an a3 aS F a2 be V a5 hM;go_wp2;go_roundw;case rel=>exact⟨i+1,kk+1,Y.set i rv,by omega,cz,by go_num,by go_num,HN⟩
        case measure=>simp[intOf];omega
       ·rw[bb]at hM;clear C bb Z;subst dv;obtain⟨dw,co,ag,bz⟩:=bt.out kk (ql (r.a.asks,rp)) (by rw[CK,V];rfl);simp only[Cu,Ec,ER]at ag;obtain⟨cp,cr⟩:=ag;subst cp;subst cr;obtain⟨c5,bc⟩:=bv.out _ rfl;have V:J[kk]?=some (r.a.asks,rp):=V;have dx:=(Co.1 V).1;have dJ:(((kk:Int)+1)==(J.length:Int))=true:=by simp;omega
        have dy:((kk:Int)+1=(J.length:Int)):=by omega
        have bA:¬(g5=D∨(some (⟨g,0,none⟩:Addr)).map (·.block)=some g5):=by
         rintro(e|e)
         ·subst e;have:=cX.out.symm.trans bc;simp at this
         ·have h1:=bl.out g5 e;have h2:g5<w1.heap.size:=lt_of_heap bc;omega
        have aL:w5.rangeAt g5 (b1+kk*5) (ql (r.a.asks,rp)):=fun j u hu=>z.cell (y.out.fr.cell (bz j u hu) bA) jI;have a5:r.a.open:=by have:=E;unfold AS.dueB at this;exact(Dh this).1
        obtain⟨za,cu,bh,bB,bC⟩:=oA l a5;have aM:=(y.out.at'.s r (Cq Q)).fr z (fun _ _ _ h=>h);have aO:=aM.rows;rw[E];have e9:=d5.c9;have e7:=d5.c7;have e6:=d5.c6;obtain⟨t0,t1,t2,t3,t4,t5,t6⟩:=b5.c;have aX:(r.S.1 !=0)=true:=by simpa using a7
        have cP:((kk:Int)==(J.length:Int))=false:=by simp;omega
        have bd:r.st.length≤100:=by have:=l.l6;have e:r.a.st.length=r.st.length:=rfl;omega
        have X:Hid (aY w5 r.sa 2 (r.st.map dj)∧r.S.2=(za:Int)+1∧r.st[za]?=some cu∧r.st.length≤100):=⟨aO,bh,bB,bd⟩;have be:=af aL;clear aO bh bB aM aL bz bA bc;go_wp2_with fail;refine(oR X.out.1 X.out.2.1 X.out.2.2.1 X.out.2.2.2).mono ?_;rintro e w6 ⟨rfl,a0⟩;rw[←bC];obtain⟨H,bD⟩:∃H:CL,Hid (H=r.a.asks):=⟨_,rfl⟩;rw[←bD.out];rw[←bD.out]at be;have aP:=z.trans a0 fI;have b6:aQ w6 wr.heap.size r:=a0.keep b5 jI;have bE:w6.rangeAt g5 (b1+kk*5) (ql (H,rp)):=fun j u hu=>a0.cell (be.out j u hu) jI;obtain⟨q0,q1,q2,q3,q4⟩:=ox bE;unfold CL.cs;simp only[List.toArray];clear t0 t1 t2 t3 t4 t5 t6 e6 e7 e9 bE X;go_wp2_with fail;obtain⟨W7,aJ⟩:=aw (w6.alloc (.cells #[.int .i64 H.saga,.int .i64 H.step,.bool H.back,.string H.data] 233));have d:=j9 aJ;have al:W7.heap[w6.heap.size]?=some (.cells #[.int .i64 H.saga,.int .i64 H.step,.bool H.back,.string H.data] 233 (0,0)):=by rw[aJ.out];exact aa w6 _
        rw[←aJ.out];have x0:W7.cell? ⟨w6.heap.size,0,none⟩=some (.int .i64 H.saga):=(Cn _ _ 0 _ _ _ al).trans rfl;have x1:W7.cell? ⟨w6.heap.size,1,none⟩=some (.int .i64 H.step):=(Cn _ _ 1 _ _ _ al).trans rfl;have x2:W7.cell? ⟨w6.heap.size,2,none⟩=some (.bool H.back):=(Cn _ _ 2 _ _ _ al).trans rfl;have x3:W7.cell? ⟨w6.heap.size,3,none⟩=some (.string H.data):=(Cn _ _ 3 _ _ _ al).trans rfl;have y0:=d.cell q0 jI;have y1:=d.cell q1 jI;have y2:=d.cell q2 jI;have y3:=d.cell q3 jI;have cQ:(kk:Int)<J.length:=by omega
        have cv:=af q4;clear q0 q1 q2 q3 q4 aJ al;refine wp_region_still_tail 6 (by kernel_rfl) (by kernel_rfl) (Bx.out ?_);simp only[CW,Dc,CQ,D2];repeat(refine bu (fun K hK=>?_);go_simp;refine hK _ ?_;clear hK K)
        refine bI ?_;obtain⟨W8,bf⟩:=aw W7.drew;have I:=eG bf;rw[ww bf];clear bf x0 x1 x2 x3 y0 y1 y2 y3;go_wp2_with fail;refine(mU W8 H H).mono ?_;rintro e w9 ⟨rfl,bF⟩;rw[Dg (show H.saga=H.saga∧H.step=H.step∧H.back=H.back∧H.data=H.data from⟨rfl,rfl,rfl,rfl⟩)];have a2:=(d.trans I fI).trans bF fI;have a1:=aP.trans a2 fI;have b9:aQ w9 wr.heap.size r:=a2.keep b6 jI;have d9:=y.out.law.fr a1 jI;have z4:=a2.cell cv.out jI;clear d I bF b6 b5 d5 z a0 aP;go_wp2_with fail;obtain⟨U,HU⟩:=aw w9.drew;have ai:=eG HU;let SU:World→Prop:=fun w'=>aH w' D A Pp n nn em x pause (clock+1) false (.slice (some ⟨g,0,none⟩) Ls.length cx)∧aQ w' wr.heap.size r
        have B:SU U:=⟨d9.fr ai jI,ai.keep b9 jI⟩;refine dZ SU HU ?_;clear HU z4;refine bM 0 189 0 (.pointer (some ⟨D,0,none⟩)) rfl B ?_;refine d4 1 190 189 (.pointer (some ⟨D,0,none⟩)) rfl B ?_;refine bT 2 191 111 190 6 (.pointer (some ⟨D,6,none⟩)) rfl B ?_;refine bT 3 192 109 191 3 (.pointer (some ⟨D,9,none⟩)) rfl B ?_;refine cU 4 193 107 192 (.slice (some ⟨g,0,none⟩) Ls.length cx) ⟨D,9,none⟩ rfl (fun _ hs=>hs.1.c9) underlying107 B ?_;refine bM 5 194 12 (.int .i64 i) rfl B ?_;refine bM 6 195 0 (.pointer (some ⟨D,0,none⟩)) rfl B ?_;refine ig 7 196 223 13 (.agg r.cs.toArray) ⟨wr.heap.size,0,none⟩ rfl (fun _ hs=>pQ hs.2) B ?_;refine bM 8 197 17 (.int .i64 (rp:Nat)) rfl B ?_;refine bM 9 198 18 (.bool true) rfl B ?_;simp only[Act.put,aC,aB,aE];refine dN 10 199 134 #[.tmp 195,.tmp 196,.tmp 197,.tmp 198] #[.pointer (some ⟨D,0,none⟩),.agg r.cs.toArray,.int .i64 (rp:Nat),.bool true] rfl ?_;have bG:1≤r.S.2∧r.S.2≤6:=by have h1:1≤r.S.2∧r.S.2≤r.st.length:=l.p a5;have h2:r.st.length≤6:=l.l6;omega
        have bH:0≤r.tries∧r.tries≤1000000:=by have h1:0≤r.tries:=l.t0;have h2:r.tries≤clock:=l.t1;omega
        have dK:cm U b r:=bP (y.out.at'.m r (Cq Q)) (a1.trans ai fI) (fun _ _ _ h=>h);refine(ux B.1 r (rp:Nat) bG.1 bG.2 bH.1 bH.2 (by omega) (by omega) bX bY dK R.2).mono ?_;rintro e w7 ⟨rv,rfl,F,d⟩;have G:=(a1.trans ai fI).trans d fI;have P:=y.out.at'.frz G;have az:=y.out.ln;rw[←az]at P;have cw:=(a1.trans ai fI).size;have cy:b≤U.heap.size:=by have h1:=y.out.at'.o.form (by omega);obtain⟨q,cq,e,dz,dA⟩:=h1;omega
        have a3:rv.sa=r.sa∧rv.sc=r.sc∧rv.st=r.st:=by
         by_cases N:r.moves (rp:Nat)=true
         ·rw[CE N]at F;obtain⟨ma,mc,e1,_⟩:=F;rw[e1];exact⟨rfl,rfl,rfl⟩
         ·rw[Cz N]at F;rw[F];exact⟨rfl,rfl,rfl⟩
        have aS:rv.am=r.am.cutA rp (clock+1) pause:=by
         unfold AM.cutA;have e:r.am.a.moves (rp:Nat)=r.moves (rp:Nat):=rfl;by_cases N:r.moves (rp:Nat)=true
         ·rw[CE N]at F;obtain⟨ma,mc,e1,_⟩:=F;rw[e,CE N,e1];rfl
         ·rw[Cz N]at F;rw[e,Cz N,F];rfl
        have an:cm w7 b rv∧(rv.ma=r.ma∨cm w7 wr.heap.size rv):=by
         by_cases N:r.moves (rp:Nat)=true
         ·rw[CE N]at F;obtain⟨ma,mc,e1,e2⟩:=F;have e3:=e2;exact⟨bg e3 cy,.inr (bg e3 cw)⟩
         ·rw[Cz N]at F;rw[F];exact⟨P.m r (Cq Q),.inl rfl⟩
        obtain⟨w8,bo,aD,I⟩:=jF (i:=i) rv P.o ab;have d7:=y.out.law.fr G jI;have aF:¬D=g:=by intro e;obtain⟨cs,aG⟩:=cn P.o (b:=g) rfl;rw[←e]at aG;have:=d7.symm.trans aG;simp at this
        have HN:=af (y.out.tw.set Q G aD I a3.1 a3.2.1 a3.2.2 an.1 an.2);have HX:Hid ((Y.set i rv).map RS.am=M'):=by show(Y.set i rv).map RS.am=M';rw[Az Q,hM,aS]
        have dc:=af HN.out.law;refine⟨_,rfl,⟨B.1.fr d jI,d.keep B.2 jI⟩,?_⟩;simp only[Act.put,aC,aB,aE];refine eW (S:=SU) (i:=11) (oi:=⟨some 200,.indexAddr 107 (.tmp 193) (.tmp 194),_,_,_,none⟩) (v:= .pointer (some ⟨g,i*7,none⟩)) rfl (Or.inl ⟨rfl,fun w' _=>bn 107 _ _ rfl rfl rfl (eM g Ls.length cx i aU w')⟩) ⟨B.1.fr d jI,d.keep B.2 jI⟩ ?_;simp only[Act.put,aC,aB,aE];refine cj 12 ?_;have aI:SU w8:=⟨d7.fr I aF,I.keep (d.keep B.2 jI) (by intro e;have:=(y.out.at'.o.lt g rfl).2;omega)⟩;refine aA (o:=⟨none,.store 223 (.tmp 200) (.tmp 199),_,_,_,none⟩) (w':=w8) rfl rfl (ar 223 _ _ rfl ⟨g,i*7,none⟩ _ rfl rfl bo) ⟨aI,?_⟩;simp only[Act.put];refine dn ?_;have k8:=dc.out.c8;have f8:=dc.out.fz 8;obtain⟨WF,aZ⟩:=aw (w8.setCell ⟨D,8,none⟩ (.bool true));have h8:(Instr.storeAt 4 (.pointer (some ⟨D,8,none⟩)) (.bool true)).run prog w8= .ok () WF:=by rw[aZ.out];exact ah k8 f8 (by kernel_rfl) rfl
        have bV:Hid (aH WF D A Pp n nn em x pause (clock+1) true (.slice (some ⟨g,0,none⟩) Ls.length cx)):=by rw[aZ.out];exact dc.out.set8 true
        have bW:Hid (Fr (· =D) w8 WF):=by rw[aZ.out];exact eh.set (Fr.refl _ _)
        clear aI d9 b9 a1 l R d7 P I aD G d ai aF E B an a3 aS F a2 be V a5 hM;go_wp2_with (refine ae 4 (w':=WF) _ _ rfl rfl ?_ ?_;exact h8);go_ret;exact HN.out.done HX.out aK.out bV.out bW.out (.inr ⟨fun c hc=>Ct da (bl.out c hc),d8.out⟩)
      ·have b0:r.a.dueB (clock+1)=false:=by simpa using E
       rw[b0];have HN:=af (Z.out w5 z b0);clear d5 b5 z l R C hM Z;go_wp2;go_roundw;case rel=>exact⟨i+1,kk,Y,by omega,cl,rfl,by go_num,HN⟩
       case measure=>simp[intOf];omega
    ·have aW:¬(i:Int)<Ls.length:=by omega
     obtain rfl:i=Ls.length:=by omega
     exfalso;obtain⟨Mr,C,hM⟩:=y.out.tk;rw[CP (by rw[y.out.ln];exact Cs _)]at C;cases C with
     |nil _ h5=>
      rcases h5 rfl with h|h
      ·cases h
      ·rw[h]at aT;exact aT rfl
  |false=>
   obtain rfl:(0:Int)=kq:=bq.out;clear bq;clear bm;have d6:(0:Int)<J.length:=by omega
   have du:((J.length:Int)>0):=d6;obtain⟨g5,b1,ag,_⟩:=bt.out 0 (ql (J[0]'(by omega))) (by rw[CK,Cp (by omega)];rfl);subst ag;have cf:=Ct dh bw.out.size;have d9:=bS.out.c9;go_wp2_with (first|(refine aR 45 _ _ _ _ rfl rfl (by exact aV.out _) ?_)|(refine ae 3 (w':=W2) _ _ rfl rfl ?_ ?_;exact h7));refine(o7 bQ.out.sagas (by omega)).mono ?_;rintro e w3 ⟨b2,Ls,rfl,hR,b4,bx,cg,O⟩;have d3:=bS.out.fr O jI;have h9:(Instr.storeAt 107 (.pointer (some ⟨D,9,none⟩)) b2).run prog w3= .ok () (w3.setCell ⟨D,9,none⟩ b2):=ah d3.c9 (d3.fz 9) (by kernel_rfl) (by obtain⟨_,_,e,_⟩:=aN b4;rw[e];rfl);obtain⟨W4,T⟩:=aw (w3.setCell ⟨D,9,none⟩ b2);have ch:aH W4 D A Pp n nn em x pause (clock+1) false b2:=by rw[T.out];exact d3.set9 _
   have bp:Fr (· =D) w3 W4:=by rw[T.out];exact eh.set (Fr.refl _ _)
   rw[←T.out]at h9;have b7:=(cN.out.trans (O.mono (fun _ _ h=>h.elim)) fI).trans bp fI;have b8:∀b c t,w3.heap[b]?=some (.cells c t (0,0))→t=223∨t=165∨t=220→¬b=D:=by intro b c t hb ht e;subst e;have:=d3.symm.trans hb;simp at this;rw[←this.2]at ht;revert ht;decide
   have a8:=bP b4 bp (fun b c hb=>b8 b c _ hb (.inl rfl));have ay:=fun r Q=>(bx r Q).fr bp (fun b c hb=>b8 b c _ hb (.inr (.inr rfl)));have ci:LG W4 b b2 Ls:=by
    refine⟨?_,fun r' a9=>?_,fun r' a9=>?_,cg,fun r' a9=>?_⟩
    ·exact bg a8 cf
    ·obtain⟨r,Q,⟨h1,h2,h3,h4,_⟩,_⟩:=hR.mem r' a9;rw[h2,h3,h4];exact(cd.out.s r Q).fr b7 (fun b c hb e=>by have e:=e;subst e;rw[cD.out]at hb;simp at hb)
    ·obtain⟨r,Q,⟨h1,h2,h3,h4,h5,h6,h7,h8,h9⟩,_⟩:=hR.mem r' a9;exact bg ((ay r' a9).o (by rw[h8,h5]) h9) cf
    ·obtain⟨r,Q,⟨h1,h2,h3,h4,_⟩,_⟩:=hR.mem r' a9;rw[h4];exact cd.out.n r Q
   obtain⟨ax,cx,rfl,bL,ba⟩:=aN a8;have bO:Hid (∀g off,ax=some ⟨g,off,none⟩→off=0):=fun g off e=>by have:=ba _ e;simp at this;exact this
   have bl:Hid (∀c,ax.map (·.block)=some c→W2.heap.size≤c):=fun c hc=>by
    cases ax with
    |none=>cases hc
    |some ad=>
     have:=(a8.lt ad.block (by simp[Value.ownBlock])).1;simp at hc;rw[←hc];exact this
   have d8:Hid (∀q,(∃r∈Ls,r.mb q)→w1.heap.size≤q):=fun q ⟨r,Q,o,s,e⟩=>by obtain⟨g,h1,h2,_⟩:=ay r Q;rw[h2]at e;simp at e;have:=bw.out.size;omega
   have dI:Ls.length≤100000:=by have:=hR.len;omega
   have da:=bw.out.size;have HI:Hid (jy w1 D A Pp n nn em x pause clock b Ls false false J M' f ax cx 0 0 Ls W4):=by
    refine⟨⟨ch,ci,rfl,fun q h=> .inl h,((cM.out.mono (fun _ _ h=>h.elim)).trans b7 fI).mono (fun _ _ h=> .inl h)⟩,⟨M',?_,by simp⟩,fun r' a9=>?_⟩
    ·rw[D2,hR.am];exact bj.out (fun e=>by rw[e]at aT;exact aT rfl)
    ·rw[D2]at a9;obtain⟨r,Q,⟨h1,h2,h3,h4,h5,h6,h7,h8,h9⟩,h0⟩:=hR.mem r' a9;refine⟨.inr ?_,by rw[h8];simp⟩;have bR:=cA.out r Q;have e:r'.a=r.a:=by simp only[RS.a,h1,h4,h5,h6,h7]
     rw[e];rcases bR.1 with h|h
     ·exact absurd h h0
     ·exact h
   have k9:=d3.c9;have f9:=d3.fz 9;clear c0 c1 c7 c8 c9 fz q0 h7 d9 d3 bp b7 b8 a8 ay ci b4 bx cg ch bL ba hR bk bi bj;go_wp2_with (refine ae 107 (w':=W4) _ _ rfl rfl ?_ ?_;exact h9);clear h9 k9 f9;try rw[←T.out]
   clear T;go_loopw [11,12] (fun kv c wr=>∃(i kk:Nat) (Y:List RS),i≤Ls.length∧kk≤100000∧kv= .int .i64 kk∧c= .int .i64 i∧Hid (jy w1 D A Pp n nn em x pause clock b Ls false false J M' f ax cx i kk Y wr)) (fun _ c _=>Ls.length-(intOf c).toNat);case atStart=>exact⟨0,0,Ls,CH _,CH _,rfl,rfl,HI⟩
   case round=>
    clear HI;obtain⟨i,kk,Y,hi,cl,rfl,rfl,y⟩:=hrel;have c9:=y.out.law.c9;have c7:=y.out.law.c7;have c6:=y.out.law.c6;by_cases aU:i<Ls.length
    ·have aW:(i:Int)<Ls.length:=by omega
     have ab:i<Y.length:=by rw[y.out.ln];exact aU
     obtain⟨r,Q⟩:∃r,Y[i]?=some r:=⟨_,Cp ab⟩;obtain⟨g,off,rfl,ap⟩:=(y.out.ln▸y.out.at':LG wr b (.slice ax Y.length cx) Y).sagas.get Q;obtain rfl:off=0:=bO.out g off rfl;rw[D5]at ap;obtain⟨s0,s1,s2,s3,s4,s5,s6⟩:=cH ap;have R:=y.out.rok Q;obtain⟨Mr,C,hM⟩:=y.out.drop Q;go_wp2_with fail;obtain⟨W3,a6⟩:=aw (wr.alloc (.cells #[.int .i64 r.id,.slice r.sa r.st.length r.sc,.int .i64 r.S.1,.int .i64 r.S.2,.int .i64 r.tries,.int .i64 r.due,.slice r.ma r.may.length r.mc] 223));have O:=j9 a6;have b3:aQ W3 wr.heap.size r:=by rw[a6.out];exact aa wr _
     rw[←a6.out];have d3:=y.out.law.fr O jI;have e7:=d3.c7;have e6:=d3.c6;obtain⟨t0,t1,t2,t3,t4,t5,t6⟩:=b3.c;clear s0 s1 s2 s3 s4 s5 s6 c9 c7 c6 a6 ap;have Z:Hid (∀W,Fr (fun _=>False) wr W→r.a.dueB (clock+1)=false→jy w1 D A Pp n nn em x pause clock b Ls false false J M' f (some ⟨g,0,none⟩) cx (i+1) kk Y W):=fun W hW hd=>by
      have C:=C;cases C with
      |skip E h=>exact y.out.skip Q hW h hM
      |vain E _ _=>rw[show r.am.a.dueB (clock+1)=r.a.dueB (clock+1) from rfl,hd]at E;cases E
      |stop E _ _ _=>rw[show r.am.a.dueB (clock+1)=r.a.dueB (clock+1) from rfl,hd]at E;cases E
      |reply E _ _ _ _ _=>rw[show r.am.a.dueB (clock+1)=r.a.dueB (clock+1) from rfl,hd]at E;cases E
      |cut E _ _ _ _ _=>rw[show r.am.a.dueB (clock+1)=r.a.dueB (clock+1) from rfl,hd]at E;cases E
     by_cases a7:r.S.1=0
     ·have ak:r.a.dueB (clock+1)=false:=Dl (fun h=>by have e:r.a.S.1=r.S.1:=rfl;rcases h.1 with h|h<;>omega);have HN:=af (fun W hW=>Z.out W hW ak);have bK:=af O;rw[a7]at t2;clear C hM Z ak O b3 d3;go_region;go_wp2;go_roundw;case rel=>exact⟨i+1,kk,Y,by omega,cl,rfl,by go_num,HN.out _ bK.out.drew⟩
      case measure=>simp[intOf];omega
     ·have l:r.a.Ok clock:=by
       rcases R.1 with h|h
       ·exact absurd h a7
       ·exact h
      refine wp_region_still_tail 11 (by kernel_rfl) (by kernel_rfl) (Bx.out ?_);simp only[CW,Dc,CQ,D2];repeat(refine bu (fun K hK=>?_);go_simp;refine hK _ ?_;clear hK K)
      refine bI ?_;obtain⟨W4,T⟩:=aw W3.drew;have aq:=eG T;rw[ww T];clear T t0 t1 t2 t3 t4 t5 t6 e6 e7;go_wp2_with fail;refine(jD W4 r (clock+1)).mono ?_;rintro e w5 ⟨rfl,au⟩;have z:=(O.trans aq fI).trans au fI;have b5:aQ w5 wr.heap.size r:=au.keep (aq.keep b3 jI) jI;have d5:=y.out.law.fr z jI;clear O aq au b3 d3;rw[iV l];by_cases E:r.a.dueB (clock+1)=true
      ·have a5:=(Dh E).1;have aX:(r.S.1 !=0)=true:=by simpa using a7
       rcases C.ask E (fun e=>by rw[e]at aT;exact aT rfl)with⟨rp,M2,db,V,hcut,h,bb⟩|⟨rp,db,V,cO,bh,dv,bb⟩
       ·rw[bb]at hM;clear C bb Z;obtain⟨dw,co,ag,bz⟩:=bt.out kk (ql (r.a.asks,rp)) (by rw[CK,V];rfl);simp only[Cu,Ec,ER]at ag;obtain⟨cp,cr⟩:=ag;subst cp;subst cr;obtain⟨c5,bc⟩:=bv.out _ rfl;have V:J[kk]?=some (r.a.asks,rp):=V;have dx:=(Co.1 V).1;have bA:¬(g5=D∨(some (⟨g,0,none⟩:Addr)).map (·.block)=some g5):=by
         rintro(e|e)
         ·subst e;have:=cX.out.symm.trans bc;simp at this
         ·have h1:=bl.out g5 e;have h2:g5<w1.heap.size:=lt_of_heap bc;omega
        have aL:w5.rangeAt g5 (b1+kk*5) (ql (r.a.asks,rp)):=fun j u hu=>z.cell (y.out.fr.cell (bz j u hu) bA) jI;have a5:r.a.open:=by have:=E;unfold AS.dueB at this;exact(Dh this).1
        obtain⟨za,cu,bh,bB,bC⟩:=oA l a5;have aM:=(y.out.at'.s r (Cq Q)).fr z (fun _ _ _ h=>h);have aO:=aM.rows;rw[E];have e9:=d5.c9;have e7:=d5.c7;have e6:=d5.c6;obtain⟨t0,t1,t2,t3,t4,t5,t6⟩:=b5.c;have aX:(r.S.1 !=0)=true:=by simpa using a7
        have cP:((kk:Int)==(J.length:Int))=false:=by simp;omega
        have bd:r.st.length≤100:=by have:=l.l6;have e:r.a.st.length=r.st.length:=rfl;omega
        have X:Hid (aY w5 r.sa 2 (r.st.map dj)∧r.S.2=(za:Int)+1∧r.st[za]?=some cu∧r.st.length≤100):=⟨aO,bh,bB,bd⟩;have be:=af aL;clear aO bh bB aM aL bz bA bc;go_wp2_with fail;refine(oR X.out.1 X.out.2.1 X.out.2.2.1 X.out.2.2.2).mono ?_;rintro e w6 ⟨rfl,a0⟩;rw[←bC];obtain⟨H,bD⟩:∃H:CL,Hid (H=r.a.asks):=⟨_,rfl⟩;rw[←bD.out];rw[←bD.out]at be;have aP:=z.trans a0 fI;have b6:aQ w6 wr.heap.size r:=a0.keep b5 jI;have bE:w6.rangeAt g5 (b1+kk*5) (ql (H,rp)):=fun j u hu=>a0.cell (be.out j u hu) jI;obtain⟨q0,q1,q2,q3,q4⟩:=ox bE;unfold CL.cs;simp only[List.toArray];clear t0 t1 t2 t3 t4 t5 t6 e6 e7 e9 bE X;go_wp2_with fail;obtain⟨W7,aJ⟩:=aw (w6.alloc (.cells #[.int .i64 H.saga,.int .i64 H.step,.bool H.back,.string H.data] 233));have d:=j9 aJ;have al:W7.heap[w6.heap.size]?=some (.cells #[.int .i64 H.saga,.int .i64 H.step,.bool H.back,.string H.data] 233 (0,0)):=by rw[aJ.out];exact aa w6 _
        rw[←aJ.out];have x0:W7.cell? ⟨w6.heap.size,0,none⟩=some (.int .i64 H.saga):=(Cn _ _ 0 _ _ _ al).trans rfl;have x1:W7.cell? ⟨w6.heap.size,1,none⟩=some (.int .i64 H.step):=(Cn _ _ 1 _ _ _ al).trans rfl;have x2:W7.cell? ⟨w6.heap.size,2,none⟩=some (.bool H.back):=(Cn _ _ 2 _ _ _ al).trans rfl;have x3:W7.cell? ⟨w6.heap.size,3,none⟩=some (.string H.data):=(Cn _ _ 3 _ _ _ al).trans rfl;have y0:=d.cell q0 jI;have y1:=d.cell q1 jI;have y2:=d.cell q2 jI;have y3:=d.cell q3 jI;have cQ:(kk:Int)<J.length:=by omega
        have cv:=af q4;clear q0 q1 q2 q3 q4 aJ al;refine wp_region_still_tail 6 (by kernel_rfl) (by kernel_rfl) (Bx.out ?_);simp only[CW,Dc,CQ,D2];repeat(refine bu (fun K hK=>?_);go_simp;refine hK _ ?_;clear hK K)
        refine bI ?_;obtain⟨W8,bf⟩:=aw W7.drew;have I:=eG bf;rw[ww bf];clear bf x0 x1 x2 x3 y0 y1 y2 y3;go_wp2_with fail;refine(mU W8 H H).mono ?_;rintro e w9 ⟨rfl,bF⟩;rw[Dg (show H.saga=H.saga∧H.step=H.step∧H.back=H.back∧H.data=H.data from⟨rfl,rfl,rfl,rfl⟩)];have a2:=(d.trans I fI).trans bF fI;have a1:=aP.trans a2 fI;have b9:aQ w9 wr.heap.size r:=a2.keep b6 jI;have d9:=y.out.law.fr a1 jI;have z4:=a2.cell cv.out jI;clear d I bF b6 b5 d5 z a0 aP;go_wp2_with fail;obtain⟨U,HU⟩:=aw w9.drew;have ai:=eG HU;let SU:World→Prop:=fun w'=>aH w' D A Pp n nn em x pause (clock+1) false (.slice (some ⟨g,0,none⟩) Ls.length cx)∧aQ w' wr.heap.size r
        have B:SU U:=⟨d9.fr ai jI,ai.keep b9 jI⟩;refine dZ SU HU ?_;clear HU z4;refine bM 0 189 0 (.pointer (some ⟨D,0,none⟩)) rfl B ?_;refine d4 1 190 189 (.pointer (some ⟨D,0,none⟩)) rfl B ?_;refine bT 2 191 111 190 6 (.pointer (some ⟨D,6,none⟩)) rfl B ?_;refine bT 3 192 109 191 3 (.pointer (some ⟨D,9,none⟩)) rfl B ?_;refine cU 4 193 107 192 (.slice (some ⟨g,0,none⟩) Ls.length cx) ⟨D,9,none⟩ rfl (fun _ hs=>hs.1.c9) underlying107 B ?_;refine bM 5 194 12 (.int .i64 i) rfl B ?_;refine bM 6 195 0 (.pointer (some ⟨D,0,none⟩)) rfl B ?_;refine ig 7 196 223 13 (.agg r.cs.toArray) ⟨wr.heap.size,0,none⟩ rfl (fun _ hs=>pQ hs.2) B ?_;refine bM 8 197 17 (.int .i64 (rp:Nat)) rfl B ?_;refine bM 9 198 18 (.bool false) rfl B ?_;simp only[Act.put,aC,aB,aE];refine dN 10 199 134 #[.tmp 195,.tmp 196,.tmp 197,.tmp 198] #[.pointer (some ⟨D,0,none⟩),.agg r.cs.toArray,.int .i64 (rp:Nat),.bool false] rfl ?_;have bG:1≤r.S.2∧r.S.2≤6:=by have h1:1≤r.S.2∧r.S.2≤r.st.length:=l.p a5;have h2:r.st.length≤6:=l.l6;omega
        have bH:0≤r.tries∧r.tries≤1000000:=by have h1:0≤r.tries:=l.t0;have h2:r.tries≤clock:=l.t1;omega
        refine(nI B.1 r (rp:Nat) bG.1 bG.2 bH.1 bH.2 (by omega) (by omega) bX bY).mono ?_;rintro e w7 ⟨rv,rfl,F,d⟩;have G:=(a1.trans ai fI).trans d fI;have P:=y.out.at'.frz G;have az:=y.out.ln;rw[←az]at P;have cw:=(a1.trans ai fI).size;have cy:b≤U.heap.size:=by have h1:=y.out.at'.o.form (by omega);obtain⟨q,cq,e,dz,dA⟩:=h1;omega
        have a3:rv.sa=r.sa∧rv.sc=r.sc∧rv.st=r.st:=by
         by_cases N:r.moves (rp:Nat)=true
         ·rw[CE N]at F;obtain⟨M,e1,_⟩:=F;rw[e1];exact⟨rfl,rfl,rfl⟩
         ·rw[Cz N]at F;rw[F];exact⟨rfl,rfl,rfl⟩
        have aS:rv.am=r.am.after rp (clock+1) pause:=by
         unfold AM.after;have e:r.am.a.moves (rp:Nat)=r.moves (rp:Nat):=rfl;by_cases N:r.moves (rp:Nat)=true
         ·rw[CE N]at F;obtain⟨M,e1,_⟩:=F;rw[e,CE N,e1];rfl
         ·rw[Cz N]at F;rw[e,Cz N,F];rfl
        have an:cm w7 b rv∧(rv.ma=r.ma∨cm w7 wr.heap.size rv):=by
         by_cases N:r.moves (rp:Nat)=true
         ·rw[CE N]at F;obtain⟨M,e1,e2⟩:=F;have e3:=e2.o (by rw[e1];rfl) (by rw[e1];rfl);exact⟨bg e3 cy,.inr (bg e3 cw)⟩
         ·rw[Cz N]at F;rw[F];exact⟨P.m r (Cq Q),.inl rfl⟩
        obtain⟨w8,bo,aD,I⟩:=jF (i:=i) rv P.o ab;have d7:=y.out.law.fr G jI;have aF:¬D=g:=by intro e;obtain⟨cs,aG⟩:=cn P.o (b:=g) rfl;rw[←e]at aG;have:=d7.symm.trans aG;simp at this
        have HN:=af (y.out.set Q G aD I a3.1 a3.2.1 a3.2.2 an.1 an.2 h (by rw[hM,aS]));refine⟨_,rfl,⟨B.1.fr d jI,d.keep B.2 jI⟩,?_⟩;simp only[Act.put,aC,aB,aE];refine eW (S:=SU) (i:=11) (oi:=⟨some 200,.indexAddr 107 (.tmp 193) (.tmp 194),_,_,_,none⟩) (v:= .pointer (some ⟨g,i*7,none⟩)) rfl (Or.inl ⟨rfl,fun w' _=>bn 107 _ _ rfl rfl rfl (eM g Ls.length cx i aU w')⟩) ⟨B.1.fr d jI,d.keep B.2 jI⟩ ?_;simp only[Act.put,aC,aB,aE];refine cj 12 ?_;have aI:SU w8:=⟨d7.fr I aF,I.keep (d.keep B.2 jI) (by intro e;have:=(y.out.at'.o.lt g rfl).2;omega)⟩;refine aA (o:=⟨none,.store 223 (.tmp 200) (.tmp 199),_,_,_,none⟩) (w':=w8) rfl rfl (ar 223 _ _ rfl ⟨g,i*7,none⟩ _ rfl rfl bo) ⟨aI,?_⟩;simp only[Act.put];refine dn ?_;have cz:kk+1≤100000:=by omega
        clear aI d9 b9 a1 l R d7 P I aD G d ai aF E B an a3 aS F a2 be V a5 hM;go_wp2;go_roundw;case rel=>exact⟨i+1,kk+1,Y.set i rv,by omega,cz,by go_num,by go_num,HN⟩
        case measure=>simp[intOf];omega
       ·rw[bb]at hM;clear C bb Z;cases cO
      ·have b0:r.a.dueB (clock+1)=false:=by simpa using E
       rw[b0];have HN:=af (Z.out w5 z b0);clear d5 b5 z l R C hM Z;go_wp2;go_roundw;case rel=>exact⟨i+1,kk,Y,by omega,cl,rfl,by go_num,HN⟩
       case measure=>simp[intOf];omega
    ·have aW:¬(i:Int)<Ls.length:=by omega
     obtain rfl:i=Ls.length:=by omega
     have HX:Hid (f=false∧Y.map RS.am=M'∧kk=J.length):=by
      obtain⟨Mr,C,hM⟩:=y.out.tk;rw[CP (by rw[y.out.ln];exact Cs _)]at C;cases C with
      |nil h0 _=>
       rw[CO (by rw[y.out.ln];exact Cs _),D4]at hM;exact⟨rfl,hM.symm,h0 rfl⟩
     obtain⟨rfl,hX,dV⟩:=HX.out;clear HX;have HX:=af hX;have dO:((kk:Int)==(J.length:Int))=true:=by simp;omega
     clear hX;go_wp2;go_ret;exact y.out.tw.done HX.out aK.out y.out.law (Fr.refl _ _) (.inr ⟨fun c hc=>Ct da (bl.out c hc),d8.out⟩)
end Go.Proofs.YteebjgfalllbjaaGreatDoor
