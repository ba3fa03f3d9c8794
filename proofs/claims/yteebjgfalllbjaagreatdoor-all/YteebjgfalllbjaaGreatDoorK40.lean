import Derived.Test.YteebjgfalllbjaaGreatDoorK37
namespace Go.Proofs.YteebjgfalllbjaaGreatDoor
open Go.RowKit Go.Proofs.Tryz
set_option maxRecDepth 100000
set_option maxHeartbeats 20000000
theorem zM{w:World}{D A n Pp:Nat}{nn em fd:Bool}{x0:Value}{xp:Option Addr}{ad clock:Int}{ao:Option Addr}{aU:Nat}{L:List RS}{F:Int→SP}(h:aH w D A Pp n nn em x0 ad clock fd (.slice ao L.length aU))(hl:cO w ao L)(hn:L.length≤1000000)(aV:∀r∈L,F r.id∈r.may∧r.may.length≤1000000)(aX:L.Pairwise (fun a b=>a.id<b.id))(hF:∀id,(F id).1=0→F id=(0,0))(hz:ee F L≠[])(pause:Int)(hA:Calls prog 35 #[.pointer xp,.int .i64 1048576] w fun e w'=>lx (ee F L) w e w')(hP:∀W,Fr (fun _=>False) w W→Calls prog 34 #[.pointer (some ⟨A,0,none⟩)] W fun e w'=>e= .returned (.int .i64 0)∧w'=W):Calls prog 82 #[.pointer (some ⟨D,0,none⟩),.pointer xp,.int .i64 pause] w fun e w'=>iI true F L D A Pp n nn em xp pause w e w':=by
 have HL:=af hl;have HD:=af h;have b9:=af aV;have ba:=af aX;have bb:=af hF;obtain⟨ch,an⟩:=aw (ee F L);obtain⟨kk,ap⟩:=aw (kf F L);obtain⟨m,hm⟩:∃m,m=ch.length:=⟨_,rfl⟩;have bk:¬(m:Int)=0:=by
  have:m≠0:=by rw[hm,an.out];exact fun e=>hz (D3 e)
  omega
 have aL:=af hm.symm;have bl:m≤1000000:=by rw[hm,an.out,←kE];unfold kf;exact Ct (EH _ _) (by rw[Dj];exact hn)
 rw[←an.out]at hA;clear h hl aV aX hF hz;go_enter func82,ntmps82;go_wp2_with fail;refine hA.mono ?_;rintro e w1 ⟨bo,cb,rfl,hb,az⟩;rw[←hm];have HB:=af hb;have aY:=af az;have aM:=HD.out.fr az jI;have aZ:=hP w1 az;have c0:=aM.c0;have c4:=aM.c4;clear hA hb az aM hP hm;go_wp2_with fail;refine aZ.mono ?_;rintro e bm ⟨rfl,hw⟩;rw[hw];clear hw c0 c4 aZ;have HI:Hid (i7 true F w1 L 0 0 (.slice none 0 0) w1):=i7.zero _ _ _ _;have b0:Hid (kk 0=0):=by show kk 0=0;rw[ap.out];rfl
 go_wp2;go_loopw [9,10,11] (fun lv q c wr=>∃(i k j:Nat) (ax:Option Addr) (cx:Nat),i≤L.length∧k≤m∧j≤i∧lv= .slice ax j cx∧q= .int .i64 k∧c= .int .i64 i∧Hid (i7 true F w1 L i j lv wr∧k=kk i)) (fun _ _ c _=>L.length-(intOf c).toNat);case atStart=>exact⟨0,0,0,none,0,CH _,CH _,Cs _,rfl,rfl,rfl,HI.out,b0.out.symm⟩
 case round=>
  clear HI b0;obtain⟨i,k,j,ax,cx,hi,hk,hj,rfl,rfl,rfl,HR⟩:=hrel;have V:Fr (fun _=>False) w wr:=by obtain⟨L',_,_,_,_,hf⟩:=HR.out.1;exact aY.out.trans hf fI
  have hd:=HD.out.fr V jI;have c9:=hd.c9;by_cases bc:i<L.length
  ·have b1:(i:Int)<L.length:=by omega
   obtain⟨r,hr⟩:∃r,L[i]?=some r:=⟨_,Cp bc⟩;obtain⟨g,off,rfl,b2⟩:=HL.out.get hr;obtain⟨s0,s1,s2,s3,s4,s5,s6⟩:=cH (aW b2 V);clear b2 hd;obtain⟨b3,aN⟩:=b9.out r (Cq hr);have aO:=af (HL.out.m r (Cq hr));have X:Hid (F r.id∈r.may∧L[i]?=some r):=⟨b3,hr⟩;clear b3 hr;go_wp2_with fail;obtain⟨W,HW⟩:=aw (wr.alloc (.cells #[.int .i64 r.id,.slice r.sa r.st.length r.sc,.int .i64 0,.int .i64 0,.int .i64 r.tries,.int .i64 r.due,.slice r.ma r.may.length r.mc] 223));obtain⟨f,aA⟩:=aw wr.heap.size;have b4:=j9 HW;have aP:aQ W f {r with S:=(0,0)}:=by rw[HW.out,aA.out];exact aa wr _
   rw[←HW.out,←aA.out];have y:Hid (wr.heap.size≤f):=by show wr.heap.size≤f;rw[aA.out];exact Cs _
   clear HW aA s0 s1 s2 s3 s4 s5 s6 c9;obtain⟨q0,q1,q2,q3,Y,q5,q6⟩:=aP.c;have J:Hid (Fr (fun _=>False) wr W∧aQ W f {r with S:=(0,0)}):=⟨b4,aP⟩;clear b4 aP;by_cases hh:eV F r=true
   ·obtain⟨I,a9⟩:=oq X.out.2 hh;rw[←an.out,←ap.out,←HR.out.2]at I;rw[←ap.out,←HR.out.2]at a9;have aB:=af a9.symm;have aC:=af hh;obtain⟨Z,S2,N⟩:∃Z S2,Hid (F r.id=(Z,S2)):=⟨(F r.id).1,(F r.id).2,rfl⟩;have bd:¬Z=0:=by have h0:=Dh hh;rw[N.out]at h0;exact h0
    have aD:k<m:=by rw[←aL.out];exact(Co.1 I).1
    have aI:(k:Int)<m:=by omega
    obtain⟨g2,o2,rfl,a0⟩:=HB.out k (tx F r).cs (by rw[CK,I];rfl);have aR:Hid (wr.rangeAt g2 (o2+k*6) (tx F r).cs):=by obtain⟨L',_,_,_,_,hf⟩:=HR.out.1;exact aW a0 hf
    clear a0 I a9 hh;obtain⟨t0,t1,t2,t3,t4,t5⟩:=ke (aW aR.out J.out.1);simp only[tx,N.out]at t0 t1 t2 t3 t4 t5;refine E5 (by kernel_rfl) (by kernel_rfl) (Bx.out ?_);repeat(refine bu (fun K hK=>?_);go_simp;refine hK _ ?_;clear hK K)
    refine bI ?_;go_wp2_with fail;clear q0 q1 q2 q3 Y q5 q6 t0 t1 t2 t3 t4 t5;obtain⟨W2,aS⟩:=aw W.drew;have a1:Hid (Fr (fun _=>False) wr W2∧aQ W2 f {r with S:=(0,0)}):=by rw[aS.out];exact⟨J.out.1.drew,J.out.2⟩
    rw[show W.drew=W2 from aS.out.symm];clear aS J;obtain⟨q0,q1,q2,q3,Y,q5,q6⟩:=a1.out.2.c;obtain⟨t0,t1,t2,t3,t4,t5⟩:=ke (aW aR.out a1.out.1);simp only[tx,N.out]at t0 t1 t2 t3 t4 t5;refine E5 (by kernel_rfl) (by kernel_rfl) (Bx.out ?_);repeat(refine bu (fun K hK=>?_);go_simp;refine hK _ ?_;clear hK K)
    refine bI ?_;go_wp2_with fail;clear q0 q1 q2 q3 Y q5 q6 t0 t1 t2 t3 t4 t5;obtain⟨W3,aT⟩:=aw W2.drew;have aj:Hid (Fr (fun _=>False) wr W3∧aQ W3 f {r with S:=(0,0)}):=by rw[aT.out];exact⟨a1.out.1.drew,a1.out.2⟩
    rw[show W2.drew=W3 from aT.out.symm];clear aT a1;obtain⟨t0,t1,t2,t3,t4,t5⟩:=ke (aW aR.out aj.out.1);simp only[tx,N.out]at t0 t1 t2 t3 t4 t5;obtain⟨I,aJ⟩:=kD (Z,S2) (w:=W3.drew) (r:={r with S:=(0,0)}) aj.out.2;obtain⟨W4,O⟩:=aw (W3.drew.setRow f ({r with S:=(Z,S2)}:RS).cs.toArray);have l:Hid (Fr (fun _=>False) wr W4∧aQ W4 f {r with S:=(Z,S2)}):=by rw[O.out];exact⟨aj.out.1.drew.setRow _ (fun h=>by have:=y.out;omega) _,aJ⟩
    rw[←O.out]at I;clear aJ O aj;refine wp_region_still_tail 12 (by kernel_rfl) (by kernel_rfl) (Bx.out ?_);simp only[CW,Dc,CQ,D2];repeat(refine bu (fun K hK=>?_);go_simp;refine hK _ ?_;clear hK K)
    refine bI ?_;refine ae 220 (w':=W4) _ _ rfl rfl ?_ ?_;exact I;clear t0 t1 t2 t3 t4 t5 I;obtain⟨q0,q1,q2,q3,Y,q5,q6⟩:=l.out.2.c;go_wp2_with fail;refine(cY (aO.out.frz (V.trans l.out.1 fI)) aN (Z,S2)).mono ?_;rintro e w5 ⟨rfl,P⟩;have H:decide ((Z,S2)∈r.may)=true:=by rw[DO,←N.out];exact X.out.1
    rw[H];have o:Hid (Fr (fun _=>False) wr w5∧aQ w5 f {r with S:=(Z,S2)}):=⟨l.out.1.trans P fI,P.keep l.out.2 jI⟩;clear q0 q1 q2 q3 Y q5 q6 P H l;obtain⟨q0,q1,q2,q3,Y,q5,q6⟩:=o.out.2.c;obtain⟨Q,z⟩:=aw (w5.setCell ⟨f,4,none⟩ (.int .i64 0));have h6:(Instr.storeAt 3 (.pointer (some ⟨f,4,none⟩)) (.int .i64 0)).run prog w5= .ok () Q:=by rw[z.out];exact ah Y (o.out.2.fz 4) (by kernel_rfl) rfl
    have B:aQ Q f {r with S:=(Z,S2),tries:=0}:=by rw[z.out];exact ag w5 f 4 _ _ _ o.out.2
    have a3:Fr (fun _=>False) wr Q:=by rw[z.out];exact o.out.1.setCell _ (fun h=>by have:=y.out;simp at h;omega) _
    obtain⟨T,C⟩:=aw (Q.setCell ⟨f,5,none⟩ (.int .i64 0));have h7:(Instr.storeAt 3 (.pointer (some ⟨f,5,none⟩)) (.int .i64 0)).run prog Q= .ok () T:=by rw[C.out];exact ah B.c.2.2.2.2.2.1 (B.fz 5) (by kernel_rfl) rfl
    have p:aQ T f {r with S:=(Z,S2),tries:=0,due:=0}:=by rw[C.out];exact ag Q f 5 _ _ _ B
    have R:Fr (fun _=>False) wr T:=by rw[C.out];exact a3.setCell _ (fun h=>by have:=y.out;simp at h;omega) _
    obtain⟨M,HM⟩:=aw T.heap.size;obtain⟨U,t⟩:=aw (T.alloc (.cells #[.int .i64 Z,.int .i64 S2] 220));have aq:f≠M:=by have:=lt_of_heap p;rw[HM.out];omega
    have E:aQ U f {r with S:=(Z,S2),tries:=0,due:=0}:=by unfold aQ;rw[t.out,ai _ _ _ (lt_of_heap p)];exact p
    have a4:Fr (fun _=>False) wr U:=by rw[t.out];exact R.alloc _
    have a5:U.heap[M]?=some (.cells #[.int .i64 Z,.int .i64 S2] 220 (0,0)):=by rw[t.out,HM.out];exact aa _ _
    obtain⟨x,v⟩:=aw (U.setCell ⟨f,6,none⟩ (.slice (some ⟨M,0,none⟩) 1 1));have h9:(Instr.storeAt 221 (.pointer (some ⟨f,6,none⟩)) (.slice (some ⟨M,0,none⟩) 1 1)).run prog U= .ok () x:=by rw[v.out];exact ah E.c.2.2.2.2.2.2 (E.fz 6) (by kernel_rfl) rfl
    rw[t.out,HM.out]at h9;have ar:wr.heap.size≤M:=by rw[HM.out];exact R.size
    obtain⟨d,G⟩:∃d:RS,Hid (d={r with S:=(Z,S2),tries:=0,due:=0,ma:=some ⟨M,0,none⟩,mc:=1,may:=[(Z,S2)]}):=⟨_,rfl⟩;have a6:aQ x f d:=by rw[v.out,G.out];exact ag U f 6 _ _ _ E
    have a7:Fr (fun _=>False) wr x:=by rw[v.out];exact a4.setCell _ (fun h=>by have:=y.out;simp at h;omega) _
    have a8:x.heap[M]?=some (.cells #[.int .i64 Z,.int .i64 S2] 220 (0,0)):=by rw[v.out,aK _ _ _ _ aq.symm];exact a5
    have ab:Hid (us true (F r.id) r d∧gz wr.heap.size x d∧Fr (fun _=>False) wr x):=⟨by rw[G.out,N.out];exact⟨rfl,rfl,rfl,rfl,rfl,rfl,rfl,rfl,rfl⟩,by rw[G.out];exact⟨M,ar,rfl,a8⟩,a7⟩;have b5:=p.c.2.2.1;have b6:=p.c.2.2.2.1;obtain⟨p0,p1,p2,p3,p4,p5,p6⟩:=a6.c;have aE:¬d.S.1=0:=by rw[G.out];exact bd
    clear B a3 p R E a4 a6 a7 a5 a8 z C t v HM;obtain⟨be,bf,bg,bh,bi⟩:=Dn dO;obtain⟨xs,ho,b7,au⟩:=i7.step HR.out.1 (ab.out.2.2.alloc (.cells #[.int .i64 d.id,.slice d.sa d.st.length d.sc,.int .i64 d.S.1,.int .i64 d.S.2,.int .i64 d.tries,.int .i64 d.due,.slice d.ma d.may.length d.mc] 223)) X.out.2 ab.out.1 (fun _=>aC.out) (fun _=>ab.out.2.1.fr ((Fr.refl (fun _=>False) _).alloc _) (fun _ _ _ h=>h));have ak:∀j u,d.cs[j]?=some u→(x.alloc (.cells #[.int .i64 d.id,.slice d.sa d.st.length d.sc,.int .i64 d.S.1,.int .i64 d.S.2,.int .i64 d.tries,.int .i64 d.due,.slice d.ma d.may.length d.mc] 223)).cell? ((⟨x.heap.size,0,none⟩:Addr).add j)=some u:=CZ (cs:=d.cs.toArray) (aa x _)
    have aF:Hid ((x.alloc (.cells #[.int .i64 d.id,.slice d.sa d.st.length d.sc,.int .i64 d.S.1,.int .i64 d.S.2,.int .i64 d.tries,.int .i64 d.due,.slice d.ma d.may.length d.mc] 223)).ownsRow w1.heap.size 223 7 (.slice ax j cx) j xs∧w1.heap.size≤(x.alloc (.cells #[.int .i64 d.id,.slice d.sa d.st.length d.sc,.int .i64 d.S.1,.int .i64 d.S.2,.int .i64 d.tries,.int .i64 d.due,.slice d.ma d.may.length d.mc] 223)).heap.size∧(∀j u,d.cs[j]?=some u→(x.alloc (.cells #[.int .i64 d.id,.slice d.sa d.st.length d.sc,.int .i64 d.S.1,.int .i64 d.S.2,.int .i64 d.tries,.int .i64 d.due,.slice d.ma d.may.length d.mc] 223)).cell? ((⟨x.heap.size,0,none⟩:Addr).add j)=some u)∧(∀w2 v2,w2.ownsRow w1.heap.size 223 7 v2 (j+1) (xs++d.cs)→(x.alloc (.cells #[.int .i64 d.id,.slice d.sa d.st.length d.sc,.int .i64 d.S.1,.int .i64 d.S.2,.int .i64 d.tries,.int .i64 d.due,.slice d.ma d.may.length d.mc] 223)).grownBy w2 (Value.slice ax j cx).ownBlock→i7 true F w1 L (i+1) (j+1) v2 w2∧∃a2 c2,v2= .slice a2 (j+1) c2)):=⟨ho,b7,ak,au⟩;clear ho b7 au ak;go_wp2_with (first
     |(refine ae 3 (w':=Q) _ _ rfl rfl ?_ ?_;exact h6)
     |(refine ae 3 (w':=T) _ _ rfl rfl ?_ ?_;exact h7)
     |(refine ae 221 (w':=x) _ _ rfl rfl ?_ ?_;exact h9)
     |(at_builtin;refine DD (x.alloc (.cells #[.int .i64 d.id,.slice d.sa d.st.length d.sc,.int .i64 d.S.1,.int .i64 d.S.2,.int .i64 d.tries,.int .i64 d.due,.slice d.ma d.may.length d.mc] 223)) rfl _ _ 107 rfl w1.heap.size 223 be _ 7 88 underlying107 bf bg bh bi rfl (by decide) (.slice ax j cx) j xs rfl aF.out.1 ⟨x.heap.size,0,none⟩ 1 1 d.cs rfl ?_ aF.out.2.2.1 d.one ?_ ?_ aF.out.2.1 ?_;(rw[d.len]);(unfold maxLen;omega);omega;intro v2 w2 av al _;obtain⟨b8,a2,bj,rfl⟩:=aF.out.2.2.2 w2 v2 av al;have ay:=af b8;clear av al b8 p0 p1 p2 p3 p4 p5 p6))
    go_roundw;case rel=>exact⟨i+1,k+1,j+1,a2,bj,by omega,by omega,by omega,rfl,by go_num,by go_num,ay.out,aB.out⟩
    case measure=>simp[intOf];omega
   ·have hh:eV F r=false:=by simpa using hh
    obtain⟨aG,a9⟩:=lH ba.out X.out.2 hh;rw[←an.out,←ap.out,←HR.out.2]at aG;rw[←ap.out,←HR.out.2]at a9;have aB:=af a9.symm;have aC:=af hh;have N:=af (bb.out _ (by simpa[eV]using hh));clear a9 hh;by_cases aD:k<m
    ·have aI:(k:Int)<m:=by omega
     obtain⟨s,I⟩:∃s,ch[k]?=some s:=⟨_,Cp (by rw[aL.out];exact aD)⟩;have bn:=aG s I;obtain⟨g2,o2,rfl,a0⟩:=HB.out k s.cs (by rw[CK,I];rfl);have u0:W.cell? ⟨g2,o2+k*6,none⟩=some (.int .i64 s.id):=by obtain⟨L',_,_,_,_,hf⟩:=HR.out.1;exact(aW (aW a0 hf) J.out.1) 0 _ rfl
     clear a0 I aG;go_region;clear q0 q1 q2 q3 Y q5 q6 u0;obtain⟨W4,O⟩:=aw W.drew;have l:Hid (Fr (fun _=>False) wr W4∧aQ W4 f {r with S:=(0,0)}):=by rw[O.out];exact⟨J.out.1.drew,J.out.2⟩
     rw[show W.drew=W4 from O.out.symm];clear O J;obtain⟨q0,q1,q2,q3,Y,q5,q6⟩:=l.out.2.c;go_wp2_with fail;refine(cY (aO.out.frz (V.trans l.out.1 fI)) aN (0,0)).mono ?_;rintro e w5 ⟨rfl,P⟩;have H:decide ((0,0)∈r.may)=true:=by rw[DO,←N.out];exact X.out.1
     rw[H];have o:Hid (Fr (fun _=>False) wr w5∧aQ w5 f {r with S:=(0,0)}):=⟨l.out.1.trans P fI,P.keep l.out.2 jI⟩;clear q0 q1 q2 q3 Y q5 q6 P H l;obtain⟨q0,q1,q2,q3,Y,q5,q6⟩:=o.out.2.c;obtain⟨Q,z⟩:=aw (w5.setCell ⟨f,4,none⟩ (.int .i64 0));have h6:(Instr.storeAt 3 (.pointer (some ⟨f,4,none⟩)) (.int .i64 0)).run prog w5= .ok () Q:=by rw[z.out];exact ah Y (o.out.2.fz 4) (by kernel_rfl) rfl
     have B:aQ Q f {r with S:=(0,0),tries:=0}:=by rw[z.out];exact ag w5 f 4 _ _ _ o.out.2
     have a3:Fr (fun _=>False) wr Q:=by rw[z.out];exact o.out.1.setCell _ (fun h=>by have:=y.out;simp at h;omega) _
     obtain⟨T,C⟩:=aw (Q.setCell ⟨f,5,none⟩ (.int .i64 0));have h7:(Instr.storeAt 3 (.pointer (some ⟨f,5,none⟩)) (.int .i64 0)).run prog Q= .ok () T:=by rw[C.out];exact ah B.c.2.2.2.2.2.1 (B.fz 5) (by kernel_rfl) rfl
     have p:aQ T f {r with S:=(0,0),tries:=0,due:=0}:=by rw[C.out];exact ag Q f 5 _ _ _ B
     have R:Fr (fun _=>False) wr T:=by rw[C.out];exact a3.setCell _ (fun h=>by have:=y.out;simp at h;omega) _
     obtain⟨M,HM⟩:=aw T.heap.size;obtain⟨U,t⟩:=aw (T.alloc (.cells #[.int .i64 0,.int .i64 0] 220));have aq:f≠M:=by have:=lt_of_heap p;rw[HM.out];omega
     have E:aQ U f {r with S:=(0,0),tries:=0,due:=0}:=by unfold aQ;rw[t.out,ai _ _ _ (lt_of_heap p)];exact p
     have a4:Fr (fun _=>False) wr U:=by rw[t.out];exact R.alloc _
     have a5:U.heap[M]?=some (.cells #[.int .i64 0,.int .i64 0] 220 (0,0)):=by rw[t.out,HM.out];exact aa _ _
     obtain⟨x,v⟩:=aw (U.setCell ⟨f,6,none⟩ (.slice (some ⟨M,0,none⟩) 1 1));have h9:(Instr.storeAt 221 (.pointer (some ⟨f,6,none⟩)) (.slice (some ⟨M,0,none⟩) 1 1)).run prog U= .ok () x:=by rw[v.out];exact ah E.c.2.2.2.2.2.2 (E.fz 6) (by kernel_rfl) rfl
     rw[t.out,HM.out]at h9;have ar:wr.heap.size≤M:=by rw[HM.out];exact R.size
     obtain⟨d,G⟩:∃d:RS,Hid (d={r with S:=(0,0),tries:=0,due:=0,ma:=some ⟨M,0,none⟩,mc:=1,may:=[(0,0)]}):=⟨_,rfl⟩;have a6:aQ x f d:=by rw[v.out,G.out];exact ag U f 6 _ _ _ E
     have a7:Fr (fun _=>False) wr x:=by rw[v.out];exact a4.setCell _ (fun h=>by have:=y.out;simp at h;omega) _
     have a8:x.heap[M]?=some (.cells #[.int .i64 0,.int .i64 0] 220 (0,0)):=by rw[v.out,aK _ _ _ _ aq.symm];exact a5
     have ab:Hid (us true (F r.id) r d∧gz wr.heap.size x d∧Fr (fun _=>False) wr x):=⟨by rw[G.out,N.out];exact⟨rfl,rfl,rfl,rfl,rfl,rfl,rfl,rfl,rfl⟩,by rw[G.out];exact⟨M,ar,rfl,a8⟩,a7⟩;have b5:=p.c.2.2.1;have b6:=p.c.2.2.2.1;obtain⟨p0,p1,p2,p3,p4,p5,p6⟩:=a6.c;have aE:d.S.1=0:=by rw[G.out]
     rw[aE]at p2;clear B a3 p R E a4 a6 a7 a5 a8 z C t v HM;go_wp2_with (first
      |(refine ae 3 (w':=Q) _ _ rfl rfl ?_ ?_;exact h6)
      |(refine ae 3 (w':=T) _ _ rfl rfl ?_ ?_;exact h7)
      |(refine ae 221 (w':=x) _ _ rfl rfl ?_ ?_;exact h9))
     have ay:=af (HR.out.1.skip ab.out.2.2 X.out.2 rfl aC.out);go_roundw;case rel=>exact⟨i+1,k,j,ax,cx,by omega,hk,by omega,rfl,rfl,by go_num,ay.out,aB.out⟩
     case measure=>simp[intOf];omega
    ·have aI:¬(k:Int)<m:=by omega
     clear aG;go_region;clear q0 q1 q2 q3 Y q5 q6;obtain⟨W4,O⟩:=aw W.drew;have l:Hid (Fr (fun _=>False) wr W4∧aQ W4 f {r with S:=(0,0)}):=by rw[O.out];exact⟨J.out.1.drew,J.out.2⟩
     rw[show W.drew=W4 from O.out.symm];clear O J;obtain⟨q0,q1,q2,q3,Y,q5,q6⟩:=l.out.2.c;go_wp2_with fail;refine(cY (aO.out.frz (V.trans l.out.1 fI)) aN (0,0)).mono ?_;rintro e w5 ⟨rfl,P⟩;have H:decide ((0,0)∈r.may)=true:=by rw[DO,←N.out];exact X.out.1
     rw[H];have o:Hid (Fr (fun _=>False) wr w5∧aQ w5 f {r with S:=(0,0)}):=⟨l.out.1.trans P fI,P.keep l.out.2 jI⟩;clear q0 q1 q2 q3 Y q5 q6 P H l;obtain⟨q0,q1,q2,q3,Y,q5,q6⟩:=o.out.2.c;obtain⟨Q,z⟩:=aw (w5.setCell ⟨f,4,none⟩ (.int .i64 0));have h6:(Instr.storeAt 3 (.pointer (some ⟨f,4,none⟩)) (.int .i64 0)).run prog w5= .ok () Q:=by rw[z.out];exact ah Y (o.out.2.fz 4) (by kernel_rfl) rfl
     have B:aQ Q f {r with S:=(0,0),tries:=0}:=by rw[z.out];exact ag w5 f 4 _ _ _ o.out.2
     have a3:Fr (fun _=>False) wr Q:=by rw[z.out];exact o.out.1.setCell _ (fun h=>by have:=y.out;simp at h;omega) _
     obtain⟨T,C⟩:=aw (Q.setCell ⟨f,5,none⟩ (.int .i64 0));have h7:(Instr.storeAt 3 (.pointer (some ⟨f,5,none⟩)) (.int .i64 0)).run prog Q= .ok () T:=by rw[C.out];exact ah B.c.2.2.2.2.2.1 (B.fz 5) (by kernel_rfl) rfl
     have p:aQ T f {r with S:=(0,0),tries:=0,due:=0}:=by rw[C.out];exact ag Q f 5 _ _ _ B
     have R:Fr (fun _=>False) wr T:=by rw[C.out];exact a3.setCell _ (fun h=>by have:=y.out;simp at h;omega) _
     obtain⟨M,HM⟩:=aw T.heap.size;obtain⟨U,t⟩:=aw (T.alloc (.cells #[.int .i64 0,.int .i64 0] 220));have aq:f≠M:=by have:=lt_of_heap p;rw[HM.out];omega
     have E:aQ U f {r with S:=(0,0),tries:=0,due:=0}:=by unfold aQ;rw[t.out,ai _ _ _ (lt_of_heap p)];exact p
     have a4:Fr (fun _=>False) wr U:=by rw[t.out];exact R.alloc _
     have a5:U.heap[M]?=some (.cells #[.int .i64 0,.int .i64 0] 220 (0,0)):=by rw[t.out,HM.out];exact aa _ _
     obtain⟨x,v⟩:=aw (U.setCell ⟨f,6,none⟩ (.slice (some ⟨M,0,none⟩) 1 1));have h9:(Instr.storeAt 221 (.pointer (some ⟨f,6,none⟩)) (.slice (some ⟨M,0,none⟩) 1 1)).run prog U= .ok () x:=by rw[v.out];exact ah E.c.2.2.2.2.2.2 (E.fz 6) (by kernel_rfl) rfl
     rw[t.out,HM.out]at h9;have ar:wr.heap.size≤M:=by rw[HM.out];exact R.size
     obtain⟨d,G⟩:∃d:RS,Hid (d={r with S:=(0,0),tries:=0,due:=0,ma:=some ⟨M,0,none⟩,mc:=1,may:=[(0,0)]}):=⟨_,rfl⟩;have a6:aQ x f d:=by rw[v.out,G.out];exact ag U f 6 _ _ _ E
     have a7:Fr (fun _=>False) wr x:=by rw[v.out];exact a4.setCell _ (fun h=>by have:=y.out;simp at h;omega) _
     have a8:x.heap[M]?=some (.cells #[.int .i64 0,.int .i64 0] 220 (0,0)):=by rw[v.out,aK _ _ _ _ aq.symm];exact a5
     have ab:Hid (us true (F r.id) r d∧gz wr.heap.size x d∧Fr (fun _=>False) wr x):=⟨by rw[G.out,N.out];exact⟨rfl,rfl,rfl,rfl,rfl,rfl,rfl,rfl,rfl⟩,by rw[G.out];exact⟨M,ar,rfl,a8⟩,a7⟩;have b5:=p.c.2.2.1;have b6:=p.c.2.2.2.1;obtain⟨p0,p1,p2,p3,p4,p5,p6⟩:=a6.c;have aE:d.S.1=0:=by rw[G.out]
     rw[aE]at p2;clear B a3 p R E a4 a6 a7 a5 a8 z C t v HM;go_wp2_with (first
      |(refine ae 3 (w':=Q) _ _ rfl rfl ?_ ?_;exact h6)
      |(refine ae 3 (w':=T) _ _ rfl rfl ?_ ?_;exact h7)
      |(refine ae 221 (w':=x) _ _ rfl rfl ?_ ?_;exact h9))
     have ay:=af (HR.out.1.skip ab.out.2.2 X.out.2 rfl aC.out);go_roundw;case rel=>exact⟨i+1,k,j,ax,cx,by omega,hk,by omega,rfl,rfl,by go_num,ay.out,aB.out⟩
     case measure=>simp[intOf];omega
  ·have b1:¬(i:Int)<L.length:=by omega
   obtain rfl:i=L.length:=by omega
   have aD:k=m:=by rw[HR.out.2,ap.out,kE,←an.out];exact aL.out
   subst aD;have hd:=HD.out.fr V jI;clear c9;have c3:=hd.c3;have c4:=hd.c4;have c5:=hd.c5;have c6:=hd.c6;have c7:=hd.c7;have c8:=hd.c8;have c9:=hd.c9;have fz:=hd.fz;have HX:Hid (aH wr D A Pp n nn em x0 ad clock fd (.slice ao L.length aU)∧Fr (fun _=>False) w wr):=⟨hd,V⟩;clear hd V;go_wp2;go_ret;have e5:=HX.out.1.set5 (.pointer xp);have e6:=e5.set6 pause;have e7:=e6.set7 0;have e8:=e7.set8 false;have e9:=e8.set9 (.slice ax j cx);have e3:=e9.set3 false;have e4:=e3.set4 false;refine i7.end (nn:=nn) (em:=em) HR.out.1 (lt_of_heap HD.out) (aY.out.mono (fun _ _ h=>h.elim)) (eh.set (eh.set (eh.set (eh.set (eh.set (eh.set (eh.set (Fr.refl _ _)))))))) ?_ (fun c hc=>by rw[HX.out.1]at hc;simp at hc);simpa using e4
theorem zh{w:World}{D A n Pp:Nat}{nn em fd:Bool}{x0:Value}{xp:Option Addr}{a9 clock:Int}{ao:Option Addr}{aM:Nat}{L:List RS}{F:Int→SP}{pd:Nat}(h:aH w D A Pp n nn em x0 a9 clock fd (.slice ao L.length aM))(hl:cO w ao L)(hn:L.length≤1000000)(aN:∀r∈L,F r.id∈r.may∧r.may.length≤1000000)(aO:L.Pairwise (fun a b=>a.id<b.id))(hF:∀id,(F id).1=0→F id=(0,0))(b3:¬(pd:Int)=0)(hz:ee F L≠[])(pause:Int)(hA:Calls prog 35 #[.pointer xp,.int .i64 1048576] w fun e w'=>lx (ee F L) w e w')(hP:∀W,Fr (fun _=>False) w W→Calls prog 34 #[.pointer (some ⟨A,0,none⟩)] W fun e w'=>e= .returned (.int .i64 pd)∧w'=W):Calls prog 82 #[.pointer (some ⟨D,0,none⟩),.pointer xp,.int .i64 pause] w fun e w'=>iI false F L D A Pp n nn em xp pause w e w':=by
 have HL:=af hl;have HD:=af h;have aY:=af aN;have aZ:=af aO;have b0:=af hF;obtain⟨ch,ad⟩:=aw (ee F L);obtain⟨kk,ai⟩:=aw (kf F L);obtain⟨m,hm⟩:∃m,m=ch.length:=⟨_,rfl⟩;have b4:¬(m:Int)=0:=by
  have:m≠0:=by rw[hm,ad.out];exact fun e=>hz (D3 e)
  omega
 have aD:=af hm.symm;have b5:m≤1000000:=by rw[hm,ad.out,←kE];unfold kf;exact Ct (EH _ _) (by rw[Dj];exact hn)
 rw[←ad.out]at hA;clear h hl aN aO hF hz;go_enter func82,ntmps82;go_wp2_with fail;refine hA.mono ?_;rintro e Q ⟨bo,cb,rfl,hb,au⟩;rw[←hm];have HB:=af hb;have aP:=af au;have aE:=HD.out.fr au jI;have aR:=hP Q au;have c0:=aE.c0;have c4:=aE.c4;clear hA hb au aE hP hm;go_wp2_with fail;refine aR.mono ?_;rintro e b6 ⟨rfl,hw⟩;rw[hw];clear hw c0 c4 aR;have HI:Hid (i7 false F Q L 0 0 (.slice none 0 0) Q):=i7.zero _ _ _ _;have aS:Hid (kk 0=0):=by show kk 0=0;rw[ai.out];rfl
 go_wp2;rw[show((pd:Int)==0)=false by simp;omega];go_loopw [9,10,11] (fun lv q c wr=>∃(i k j:Nat) (ax:Option Addr) (cx:Nat),i≤L.length∧k≤m∧j≤i∧lv= .slice ax j cx∧q= .int .i64 k∧c= .int .i64 i∧Hid (i7 false F Q L i j lv wr∧k=kk i)) (fun _ _ c _=>L.length-(intOf c).toNat);case atStart=>exact⟨0,0,0,none,0,CH _,CH _,Cs _,rfl,rfl,rfl,HI.out,aS.out.symm⟩
 case round=>
  clear HI aS;obtain⟨i,k,j,ax,cx,hi,hk,hj,rfl,rfl,rfl,HR⟩:=hrel;have R:Fr (fun _=>False) w wr:=by obtain⟨L',_,_,_,_,hf⟩:=HR.out.1;exact aP.out.trans hf fI
  have hd:=HD.out.fr R jI;have c9:=hd.c9;by_cases b1:i<L.length
  ·have aT:(i:Int)<L.length:=by omega
   obtain⟨r,hr⟩:∃r,L[i]?=some r:=⟨_,Cp b1⟩;obtain⟨g,off,rfl,aU⟩:=HL.out.get hr;obtain⟨s0,s1,s2,s3,s4,s5,s6⟩:=cH (aW aU R);clear aU hd;obtain⟨aV,aF⟩:=aY.out r (Cq hr);have aG:=af (HL.out.m r (Cq hr));have T:Hid (F r.id∈r.may∧L[i]?=some r):=⟨aV,hr⟩;clear aV hr;go_wp2_with fail;obtain⟨W,HW⟩:=aw (wr.alloc (.cells #[.int .i64 r.id,.slice r.sa r.st.length r.sc,.int .i64 0,.int .i64 0,.int .i64 r.tries,.int .i64 r.due,.slice r.ma r.may.length r.mc] 223));obtain⟨v,av⟩:=aw wr.heap.size;have aX:=j9 HW;have aI:aQ W v {r with S:=(0,0)}:=by rw[HW.out,av.out];exact aa wr _
   rw[←HW.out,←av.out];have I:Hid (wr.heap.size≤v):=by show wr.heap.size≤v;rw[av.out];exact Cs _
   clear HW av s0 s1 s2 s3 s4 s5 s6 c9;obtain⟨q0,q1,q2,q3,U,q5,q6⟩:=aI.c;have J:Hid (Fr (fun _=>False) wr W∧aQ W v {r with S:=(0,0)}):=⟨aX,aI⟩;clear aX aI;by_cases hh:eV F r=true
   ·obtain⟨H,a8⟩:=oq T.out.2 hh;rw[←ad.out,←ai.out,←HR.out.2]at H;rw[←ai.out,←HR.out.2]at a8;have ay:=af a8.symm;have b2:=af hh;obtain⟨S1,S2,M⟩:∃S1 S2,Hid (F r.id=(S1,S2)):=⟨(F r.id).1,(F r.id).2,rfl⟩;have b7:¬S1=0:=by have h0:=Dh hh;rw[M.out]at h0;exact h0
    have az:k<m:=by rw[←aD.out];exact(Co.1 H).1
    have aB:(k:Int)<m:=by omega
    obtain⟨g2,o2,rfl,V⟩:=HB.out k (tx F r).cs (by rw[CK,H];rfl);have aJ:Hid (wr.rangeAt g2 (o2+k*6) (tx F r).cs):=by obtain⟨L',_,_,_,_,hf⟩:=HR.out.1;exact aW V hf
    clear V H a8 hh;obtain⟨t0,t1,t2,t3,t4,t5⟩:=ke (aW aJ.out J.out.1);simp only[tx,M.out]at t0 t1 t2 t3 t4 t5;refine E5 (by kernel_rfl) (by kernel_rfl) (Bx.out ?_);repeat(refine bu (fun K hK=>?_);go_simp;refine hK _ ?_;clear hK K)
    refine bI ?_;go_wp2_with fail;clear q0 q1 q2 q3 U q5 q6 t0 t1 t2 t3 t4 t5;obtain⟨W2,aK⟩:=aw W.drew;have X:Hid (Fr (fun _=>False) wr W2∧aQ W2 v {r with S:=(0,0)}):=by rw[aK.out];exact⟨J.out.1.drew,J.out.2⟩
    rw[show W.drew=W2 from aK.out.symm];clear aK J;obtain⟨q0,q1,q2,q3,U,q5,q6⟩:=X.out.2.c;obtain⟨t0,t1,t2,t3,t4,t5⟩:=ke (aW aJ.out X.out.1);simp only[tx,M.out]at t0 t1 t2 t3 t4 t5;refine E5 (by kernel_rfl) (by kernel_rfl) (Bx.out ?_);repeat(refine bu (fun K hK=>?_);go_simp;refine hK _ ?_;clear hK K)
    refine bI ?_;go_wp2_with fail;clear q0 q1 q2 q3 U q5 q6 t0 t1 t2 t3 t4 t5;obtain⟨W3,aL⟩:=aw W2.drew;have ab:Hid (Fr (fun _=>False) wr W3∧aQ W3 v {r with S:=(0,0)}):=by rw[aL.out];exact⟨X.out.1.drew,X.out.2⟩
    rw[show W2.drew=W3 from aL.out.symm];clear aL X;obtain⟨t0,t1,t2,t3,t4,t5⟩:=ke (aW aJ.out ab.out.1);simp only[tx,M.out]at t0 t1 t2 t3 t4 t5;obtain⟨H,aC⟩:=kD (S1,S2) (w:=W3.drew) (r:={r with S:=(0,0)}) ab.out.2;obtain⟨W4,N⟩:=aw (W3.drew.setRow v ({r with S:=(S1,S2)}:RS).cs.toArray);have f:Hid (Fr (fun _=>False) wr W4∧aQ W4 v {r with S:=(S1,S2)}):=by rw[N.out];exact⟨ab.out.1.drew.setRow _ (fun h=>by have:=I.out;omega) _,aC⟩
    rw[←N.out]at H;clear aC N ab;refine wp_region_still_tail 12 (by kernel_rfl) (by kernel_rfl) (Bx.out ?_);simp only[CW,Dc,CQ,D2];repeat(refine bu (fun K hK=>?_);go_simp;refine hK _ ?_;clear hK K)
    refine bI ?_;refine ae 220 (w':=W4) _ _ rfl rfl ?_ ?_;exact H;clear t0 t1 t2 t3 t4 t5 H;obtain⟨q0,q1,q2,q3,U,q5,q6⟩:=f.out.2.c;go_wp2_with fail;refine(cY (aG.out.frz (R.trans f.out.1 fI)) aF (S1,S2)).mono ?_;rintro e Y ⟨rfl,O⟩;have G:decide ((S1,S2)∈r.may)=true:=by rw[DO,←M.out];exact T.out.1
    rw[G];have o:Hid (Fr (fun _=>False) wr Y∧aQ Y v {r with S:=(S1,S2)}):=⟨f.out.1.trans O fI,O.keep f.out.2 jI⟩;clear q0 q1 q2 q3 U q5 q6 O G f;obtain⟨q0,q1,q2,q3,U,q5,q6⟩:=o.out.2.c;obtain⟨P,z⟩:=aw (Y.setCell ⟨v,4,none⟩ (.int .i64 0));have h6:(Instr.storeAt 3 (.pointer (some ⟨v,4,none⟩)) (.int .i64 0)).run prog Y= .ok () P:=by rw[z.out];exact ah U (o.out.2.fz 4) (by kernel_rfl) rfl
    have B:aQ P v {r with S:=(S1,S2),tries:=0}:=by rw[z.out];exact ag Y v 4 _ _ _ o.out.2
    have Z:Fr (fun _=>False) wr P:=by rw[z.out];exact o.out.1.setCell _ (fun h=>by have:=I.out;simp at h;omega) _
    obtain⟨l,C⟩:=aw (P.setCell ⟨v,5,none⟩ (.int .i64 0));have h7:(Instr.storeAt 3 (.pointer (some ⟨v,5,none⟩)) (.int .i64 0)).run prog P= .ok () l:=by rw[C.out];exact ah B.c.2.2.2.2.2.1 (B.fz 5) (by kernel_rfl) rfl
    have a0:aQ l v {r with S:=(S1,S2),tries:=0,due:=0}:=by rw[C.out];exact ag P v 5 _ _ _ B
    have a1:Fr (fun _=>False) wr l:=by rw[C.out];exact Z.setCell _ (fun h=>by have:=I.out;simp at h;omega) _
    obtain⟨d,a3⟩:∃d:RS,Hid (d={r with S:=(S1,S2),tries:=0,due:=0}):=⟨_,rfl⟩;have a4:aQ l v d:=by rw[a3.out];exact a0
    have a5:Hid (us false (F r.id) r d∧Fr (fun _=>False) wr l):=⟨by rw[a3.out,M.out];exact⟨rfl,rfl,rfl,rfl,rfl,rfl,rfl,rfl,rfl,rfl⟩,a1⟩;obtain⟨p0,p1,p2,p3,p4,p5,p6⟩:=a4.c;clear B Z a0 a1 a4 z C;obtain⟨aj,ak,al,an,ap⟩:=Dn dO;obtain⟨xs,ho,a6,x⟩:=i7.step HR.out.1 (a5.out.2.alloc (.cells #[.int .i64 d.id,.slice d.sa d.st.length d.sc,.int .i64 d.S.1,.int .i64 d.S.2,.int .i64 d.tries,.int .i64 d.due,.slice d.ma d.may.length d.mc] 223)) T.out.2 a5.out.1 (fun e=>by cases e) (fun e=>by cases e);have p:∀j u,d.cs[j]?=some u→(l.alloc (.cells #[.int .i64 d.id,.slice d.sa d.st.length d.sc,.int .i64 d.S.1,.int .i64 d.S.2,.int .i64 d.tries,.int .i64 d.due,.slice d.ma d.may.length d.mc] 223)).cell? ((⟨l.heap.size,0,none⟩:Addr).add j)=some u:=CZ (cs:=d.cs.toArray) (aa l _)
    have E:Hid ((l.alloc (.cells #[.int .i64 d.id,.slice d.sa d.st.length d.sc,.int .i64 d.S.1,.int .i64 d.S.2,.int .i64 d.tries,.int .i64 d.due,.slice d.ma d.may.length d.mc] 223)).ownsRow Q.heap.size 223 7 (.slice ax j cx) j xs∧Q.heap.size≤(l.alloc (.cells #[.int .i64 d.id,.slice d.sa d.st.length d.sc,.int .i64 d.S.1,.int .i64 d.S.2,.int .i64 d.tries,.int .i64 d.due,.slice d.ma d.may.length d.mc] 223)).heap.size∧(∀j u,d.cs[j]?=some u→(l.alloc (.cells #[.int .i64 d.id,.slice d.sa d.st.length d.sc,.int .i64 d.S.1,.int .i64 d.S.2,.int .i64 d.tries,.int .i64 d.due,.slice d.ma d.may.length d.mc] 223)).cell? ((⟨l.heap.size,0,none⟩:Addr).add j)=some u)∧(∀w2 v2,w2.ownsRow Q.heap.size 223 7 v2 (j+1) (xs++d.cs)→(l.alloc (.cells #[.int .i64 d.id,.slice d.sa d.st.length d.sc,.int .i64 d.S.1,.int .i64 d.S.2,.int .i64 d.tries,.int .i64 d.due,.slice d.ma d.may.length d.mc] 223)).grownBy w2 (Value.slice ax j cx).ownBlock→i7 false F Q L (i+1) (j+1) v2 w2∧∃a2 c2,v2= .slice a2 (j+1) c2)):=⟨ho,a6,p,x⟩;clear ho a6 x p;go_wp2_with (first
     |(refine ae 3 (w':=P) _ _ rfl rfl ?_ ?_;exact h6)
     |(refine ae 3 (w':=l) _ _ rfl rfl ?_ ?_;exact h7)
     |(at_builtin;refine DD (l.alloc (.cells #[.int .i64 d.id,.slice d.sa d.st.length d.sc,.int .i64 d.S.1,.int .i64 d.S.2,.int .i64 d.tries,.int .i64 d.due,.slice d.ma d.may.length d.mc] 223)) rfl _ _ 107 rfl Q.heap.size 223 aj _ 7 88 underlying107 ak al an ap rfl (by decide) (.slice ax j cx) j xs rfl E.out.1 ⟨l.heap.size,0,none⟩ 1 1 d.cs rfl ?_ E.out.2.2.1 d.one ?_ ?_ E.out.2.1 ?_;(rw[d.len]);(unfold maxLen;omega);omega;intro v2 w2 y t _;obtain⟨a7,a2,aq,rfl⟩:=E.out.2.2.2 w2 v2 y t;have ar:=af a7;clear y t a7 p0 p1 p2 p3 p4 p5 p6))
    go_roundw;case rel=>exact⟨i+1,k+1,j+1,a2,aq,by omega,by omega,by omega,rfl,by go_num,by go_num,ar.out,ay.out⟩
    case measure=>simp[intOf];omega
   ·have hh:eV F r=false:=by simpa using hh
    obtain⟨aA,a8⟩:=lH aZ.out T.out.2 hh;rw[←ad.out,←ai.out,←HR.out.2]at aA;rw[←ai.out,←HR.out.2]at a8;have ay:=af a8.symm;have b2:=af hh;have M:=af (b0.out _ (by simpa[eV]using hh));clear a8 hh;by_cases az:k<m
    ·have aB:(k:Int)<m:=by omega
     obtain⟨s,H⟩:∃s,ch[k]?=some s:=⟨_,Cp (by rw[aD.out];exact az)⟩;have b8:=aA s H;obtain⟨g2,o2,rfl,V⟩:=HB.out k s.cs (by rw[CK,H];rfl);have u0:W.cell? ⟨g2,o2+k*6,none⟩=some (.int .i64 s.id):=by obtain⟨L',_,_,_,_,hf⟩:=HR.out.1;exact(aW (aW V hf) J.out.1) 0 _ rfl
     clear V H aA;go_region;clear q0 q1 q2 q3 U q5 q6 u0;obtain⟨W4,N⟩:=aw W.drew;have f:Hid (Fr (fun _=>False) wr W4∧aQ W4 v {r with S:=(0,0)}):=by rw[N.out];exact⟨J.out.1.drew,J.out.2⟩
     rw[show W.drew=W4 from N.out.symm];clear N J;obtain⟨q0,q1,q2,q3,U,q5,q6⟩:=f.out.2.c;go_wp2_with fail;refine(cY (aG.out.frz (R.trans f.out.1 fI)) aF (0,0)).mono ?_;rintro e Y ⟨rfl,O⟩;have G:decide ((0,0)∈r.may)=true:=by rw[DO,←M.out];exact T.out.1
     rw[G];have o:Hid (Fr (fun _=>False) wr Y∧aQ Y v {r with S:=(0,0)}):=⟨f.out.1.trans O fI,O.keep f.out.2 jI⟩;clear q0 q1 q2 q3 U q5 q6 O G f;obtain⟨q0,q1,q2,q3,U,q5,q6⟩:=o.out.2.c;obtain⟨P,z⟩:=aw (Y.setCell ⟨v,4,none⟩ (.int .i64 0));have h6:(Instr.storeAt 3 (.pointer (some ⟨v,4,none⟩)) (.int .i64 0)).run prog Y= .ok () P:=by rw[z.out];exact ah U (o.out.2.fz 4) (by kernel_rfl) rfl
     have B:aQ P v {r with S:=(0,0),tries:=0}:=by rw[z.out];exact ag Y v 4 _ _ _ o.out.2
     have Z:Fr (fun _=>False) wr P:=by rw[z.out];exact o.out.1.setCell _ (fun h=>by have:=I.out;simp at h;omega) _
     obtain⟨l,C⟩:=aw (P.setCell ⟨v,5,none⟩ (.int .i64 0));have h7:(Instr.storeAt 3 (.pointer (some ⟨v,5,none⟩)) (.int .i64 0)).run prog P= .ok () l:=by rw[C.out];exact ah B.c.2.2.2.2.2.1 (B.fz 5) (by kernel_rfl) rfl
     have a0:aQ l v {r with S:=(0,0),tries:=0,due:=0}:=by rw[C.out];exact ag P v 5 _ _ _ B
     have a1:Fr (fun _=>False) wr l:=by rw[C.out];exact Z.setCell _ (fun h=>by have:=I.out;simp at h;omega) _
     obtain⟨d,a3⟩:∃d:RS,Hid (d={r with S:=(0,0),tries:=0,due:=0}):=⟨_,rfl⟩;have a4:aQ l v d:=by rw[a3.out];exact a0
     have a5:Hid (us false (F r.id) r d∧Fr (fun _=>False) wr l):=⟨by rw[a3.out,M.out];exact⟨rfl,rfl,rfl,rfl,rfl,rfl,rfl,rfl,rfl,rfl⟩,a1⟩;obtain⟨p0,p1,p2,p3,p4,p5,p6⟩:=a4.c;clear B Z a0 a1 a4 z C;obtain⟨aj,ak,al,an,ap⟩:=Dn dO;obtain⟨xs,ho,a6,x⟩:=i7.step HR.out.1 (a5.out.2.alloc (.cells #[.int .i64 d.id,.slice d.sa d.st.length d.sc,.int .i64 d.S.1,.int .i64 d.S.2,.int .i64 d.tries,.int .i64 d.due,.slice d.ma d.may.length d.mc] 223)) T.out.2 a5.out.1 (fun e=>by cases e) (fun e=>by cases e);have p:∀j u,d.cs[j]?=some u→(l.alloc (.cells #[.int .i64 d.id,.slice d.sa d.st.length d.sc,.int .i64 d.S.1,.int .i64 d.S.2,.int .i64 d.tries,.int .i64 d.due,.slice d.ma d.may.length d.mc] 223)).cell? ((⟨l.heap.size,0,none⟩:Addr).add j)=some u:=CZ (cs:=d.cs.toArray) (aa l _)
     have E:Hid ((l.alloc (.cells #[.int .i64 d.id,.slice d.sa d.st.length d.sc,.int .i64 d.S.1,.int .i64 d.S.2,.int .i64 d.tries,.int .i64 d.due,.slice d.ma d.may.length d.mc] 223)).ownsRow Q.heap.size 223 7 (.slice ax j cx) j xs∧Q.heap.size≤(l.alloc (.cells #[.int .i64 d.id,.slice d.sa d.st.length d.sc,.int .i64 d.S.1,.int .i64 d.S.2,.int .i64 d.tries,.int .i64 d.due,.slice d.ma d.may.length d.mc] 223)).heap.size∧(∀j u,d.cs[j]?=some u→(l.alloc (.cells #[.int .i64 d.id,.slice d.sa d.st.length d.sc,.int .i64 d.S.1,.int .i64 d.S.2,.int .i64 d.tries,.int .i64 d.due,.slice d.ma d.may.length d.mc] 223)).cell? ((⟨l.heap.size,0,none⟩:Addr).add j)=some u)∧(∀w2 v2,w2.ownsRow Q.heap.size 223 7 v2 (j+1) (xs++d.cs)→(l.alloc (.cells #[.int .i64 d.id,.slice d.sa d.st.length d.sc,.int .i64 d.S.1,.int .i64 d.S.2,.int .i64 d.tries,.int .i64 d.due,.slice d.ma d.may.length d.mc] 223)).grownBy w2 (Value.slice ax j cx).ownBlock→i7 false F Q L (i+1) (j+1) v2 w2∧∃a2 c2,v2= .slice a2 (j+1) c2)):=⟨ho,a6,p,x⟩;clear ho a6 x p;go_wp2_with (first
      |(refine ae 3 (w':=P) _ _ rfl rfl ?_ ?_;exact h6)
      |(refine ae 3 (w':=l) _ _ rfl rfl ?_ ?_;exact h7)
      |(at_builtin;refine DD (l.alloc (.cells #[.int .i64 d.id,.slice d.sa d.st.length d.sc,.int .i64 d.S.1,.int .i64 d.S.2,.int .i64 d.tries,.int .i64 d.due,.slice d.ma d.may.length d.mc] 223)) rfl _ _ 107 rfl Q.heap.size 223 aj _ 7 88 underlying107 ak al an ap rfl (by decide) (.slice ax j cx) j xs rfl E.out.1 ⟨l.heap.size,0,none⟩ 1 1 d.cs rfl ?_ E.out.2.2.1 d.one ?_ ?_ E.out.2.1 ?_;(rw[d.len]);(unfold maxLen;omega);omega;intro v2 w2 y t _;obtain⟨a7,a2,aq,rfl⟩:=E.out.2.2.2 w2 v2 y t;have ar:=af a7;clear y t a7 p0 p1 p2 p3 p4 p5 p6))
     go_roundw;case rel=>exact⟨i+1,k,j+1,a2,aq,by omega,hk,by omega,rfl,by go_num,by go_num,ar.out,ay.out⟩
     case measure=>simp[intOf];omega
    ·have aB:¬(k:Int)<m:=by omega
     clear aA;go_region;clear q0 q1 q2 q3 U q5 q6;obtain⟨W4,N⟩:=aw W.drew;have f:Hid (Fr (fun _=>False) wr W4∧aQ W4 v {r with S:=(0,0)}):=by rw[N.out];exact⟨J.out.1.drew,J.out.2⟩
     rw[show W.drew=W4 from N.out.symm];clear N J;obtain⟨q0,q1,q2,q3,U,q5,q6⟩:=f.out.2.c;go_wp2_with fail;refine(cY (aG.out.frz (R.trans f.out.1 fI)) aF (0,0)).mono ?_;rintro e Y ⟨rfl,O⟩;have G:decide ((0,0)∈r.may)=true:=by rw[DO,←M.out];exact T.out.1
     rw[G];have o:Hid (Fr (fun _=>False) wr Y∧aQ Y v {r with S:=(0,0)}):=⟨f.out.1.trans O fI,O.keep f.out.2 jI⟩;clear q0 q1 q2 q3 U q5 q6 O G f;obtain⟨q0,q1,q2,q3,U,q5,q6⟩:=o.out.2.c;obtain⟨P,z⟩:=aw (Y.setCell ⟨v,4,none⟩ (.int .i64 0));have h6:(Instr.storeAt 3 (.pointer (some ⟨v,4,none⟩)) (.int .i64 0)).run prog Y= .ok () P:=by rw[z.out];exact ah U (o.out.2.fz 4) (by kernel_rfl) rfl
     have B:aQ P v {r with S:=(0,0),tries:=0}:=by rw[z.out];exact ag Y v 4 _ _ _ o.out.2
     have Z:Fr (fun _=>False) wr P:=by rw[z.out];exact o.out.1.setCell _ (fun h=>by have:=I.out;simp at h;omega) _
     obtain⟨l,C⟩:=aw (P.setCell ⟨v,5,none⟩ (.int .i64 0));have h7:(Instr.storeAt 3 (.pointer (some ⟨v,5,none⟩)) (.int .i64 0)).run prog P= .ok () l:=by rw[C.out];exact ah B.c.2.2.2.2.2.1 (B.fz 5) (by kernel_rfl) rfl
     have a0:aQ l v {r with S:=(0,0),tries:=0,due:=0}:=by rw[C.out];exact ag P v 5 _ _ _ B
     have a1:Fr (fun _=>False) wr l:=by rw[C.out];exact Z.setCell _ (fun h=>by have:=I.out;simp at h;omega) _
     obtain⟨d,a3⟩:∃d:RS,Hid (d={r with S:=(0,0),tries:=0,due:=0}):=⟨_,rfl⟩;have a4:aQ l v d:=by rw[a3.out];exact a0
     have a5:Hid (us false (F r.id) r d∧Fr (fun _=>False) wr l):=⟨by rw[a3.out,M.out];exact⟨rfl,rfl,rfl,rfl,rfl,rfl,rfl,rfl,rfl,rfl⟩,a1⟩;obtain⟨p0,p1,p2,p3,p4,p5,p6⟩:=a4.c;clear B Z a0 a1 a4 z C;obtain⟨aj,ak,al,an,ap⟩:=Dn dO;obtain⟨xs,ho,a6,x⟩:=i7.step HR.out.1 (a5.out.2.alloc (.cells #[.int .i64 d.id,.slice d.sa d.st.length d.sc,.int .i64 d.S.1,.int .i64 d.S.2,.int .i64 d.tries,.int .i64 d.due,.slice d.ma d.may.length d.mc] 223)) T.out.2 a5.out.1 (fun e=>by cases e) (fun e=>by cases e);have p:∀j u,d.cs[j]?=some u→(l.alloc (.cells #[.int .i64 d.id,.slice d.sa d.st.length d.sc,.int .i64 d.S.1,.int .i64 d.S.2,.int .i64 d.tries,.int .i64 d.due,.slice d.ma d.may.length d.mc] 223)).cell? ((⟨l.heap.size,0,none⟩:Addr).add j)=some u:=CZ (cs:=d.cs.toArray) (aa l _)
     have E:Hid ((l.alloc (.cells #[.int .i64 d.id,.slice d.sa d.st.length d.sc,.int .i64 d.S.1,.int .i64 d.S.2,.int .i64 d.tries,.int .i64 d.due,.slice d.ma d.may.length d.mc] 223)).ownsRow Q.heap.size 223 7 (.slice ax j cx) j xs∧Q.heap.size≤(l.alloc (.cells #[.int .i64 d.id,.slice d.sa d.st.length d.sc,.int .i64 d.S.1,.int .i64 d.S.2,.int .i64 d.tries,.int .i64 d.due,.slice d.ma d.may.length d.mc] 223)).heap.size∧(∀j u,d.cs[j]?=some u→(l.alloc (.cells #[.int .i64 d.id,.slice d.sa d.st.length d.sc,.int .i64 d.S.1,.int .i64 d.S.2,.int .i64 d.tries,.int .i64 d.due,.slice d.ma d.may.length d.mc] 223)).cell? ((⟨l.heap.size,0,none⟩:Addr).add j)=some u)∧(∀w2 v2,w2.ownsRow Q.heap.size 223 7 v2 (j+1) (xs++d.cs)→(l.alloc (.cells #[.int .i64 d.id,.slice d.sa d.st.length d.sc,.int .i64 d.S.1,.int .i64 d.S.2,.int .i64 d.tries,.int .i64 d.due,.slice d.ma d.may.length d.mc] 223)).grownBy w2 (Value.slice ax j cx).ownBlock→i7 false F Q L (i+1) (j+1) v2 w2∧∃a2 c2,v2= .slice a2 (j+1) c2)):=⟨ho,a6,p,x⟩;clear ho a6 x p;go_wp2_with (first
      |(refine ae 3 (w':=P) _ _ rfl rfl ?_ ?_;exact h6)
      |(refine ae 3 (w':=l) _ _ rfl rfl ?_ ?_;exact h7)
      |(at_builtin;refine DD (l.alloc (.cells #[.int .i64 d.id,.slice d.sa d.st.length d.sc,.int .i64 d.S.1,.int .i64 d.S.2,.int .i64 d.tries,.int .i64 d.due,.slice d.ma d.may.length d.mc] 223)) rfl _ _ 107 rfl Q.heap.size 223 aj _ 7 88 underlying107 ak al an ap rfl (by decide) (.slice ax j cx) j xs rfl E.out.1 ⟨l.heap.size,0,none⟩ 1 1 d.cs rfl ?_ E.out.2.2.1 d.one ?_ ?_ E.out.2.1 ?_;(rw[d.len]);(unfold maxLen;omega);omega;intro v2 w2 y t _;obtain⟨a7,a2,aq,rfl⟩:=E.out.2.2.2 w2 v2 y t;have ar:=af a7;clear y t a7 p0 p1 p2 p3 p4 p5 p6))
     go_roundw;case rel=>exact⟨i+1,k,j+1,a2,aq,by omega,hk,by omega,rfl,by go_num,by go_num,ar.out,ay.out⟩
     case measure=>simp[intOf];omega
  ·have aT:¬(i:Int)<L.length:=by omega
   obtain rfl:i=L.length:=by omega
   have az:k=m:=by rw[HR.out.2,ai.out,kE,←ad.out];exact aD.out
   subst az;have hd:=HD.out.fr R jI;clear c9;have c3:=hd.c3;have c4:=hd.c4;have c5:=hd.c5;have c6:=hd.c6;have c7:=hd.c7;have c8:=hd.c8;have c9:=hd.c9;have fz:=hd.fz;have HX:Hid (aH wr D A Pp n nn em x0 a9 clock fd (.slice ao L.length aM)∧Fr (fun _=>False) w wr):=⟨hd,R⟩;clear hd R;go_wp2;go_ret;have e5:=HX.out.1.set5 (.pointer xp);have e6:=e5.set6 pause;have e7:=e6.set7 0;have e8:=e7.set8 false;have e9:=e8.set9 (.slice ax j cx);refine i7.end (nn:=nn) (em:=em) HR.out.1 (lt_of_heap HD.out) (aP.out.mono (fun _ _ h=>h.elim)) (eh.set (eh.set (eh.set (eh.set (eh.set (Fr.refl _ _)))))) ?_ (fun c hc=>by rw[HX.out.1]at hc;simp at hc);simpa using e9
theorem xU{w:World}{D A n Pp:Nat}{nn fd:Bool}{x0:Value}{xp:Option Addr}{l clock:Int}{ao:Option Addr}{a0:Nat}{L:List RS}{F:Int→SP}(h:aH w D A Pp n nn false x0 l clock fd (.slice ao L.length a0))(hl:cO w ao L)(hn:L.length≤1000000)(a1:∀r∈L,F r.id∈r.may∧r.may.length≤1000000)(a2:L.Pairwise (fun a b=>a.id<b.id))(hF:∀id,(F id).1=0→F id=(0,0))(hz:ee F L=[])(pause:Int)(hA:Calls prog 35 #[.pointer xp,.int .i64 1048576] w fun e w'=>lx (ee F L) w e w')(hP:∀W,Fr (fun _=>False) w W→Calls prog 34 #[.pointer (some ⟨A,0,none⟩)] W fun e w'=>e= .returned (.int .i64 0)∧w'=W):Calls prog 82 #[.pointer (some ⟨D,0,none⟩),.pointer xp,.int .i64 pause] w fun e w'=>iI true F L D A Pp n nn false xp pause w e w':=by
 have HL:=af hl;have HD:=af h;have au:=af a1;have av:=af a2;have ay:=af hF;obtain⟨ch,y⟩:=aw (ee F L);obtain⟨kk,N⟩:=aw (kf F L);have a3:ch.length=0:=by rw[y.out,hz];rfl
 rw[←y.out]at hA;have a4:=af a3;clear h hl a1 a2 hF hz;go_enter func82,ntmps82;go_wp2_with fail;refine hA.mono ?_;rintro e w1 ⟨bo,cb,rfl,hb,z⟩;rw[a3];have HB:=af hb;have a5:=af z;have O:=HD.out.fr z jI;have a6:=hP w1 z;have c0:=O.c0;have c4:=O.c4;clear hA hb z O hP;go_wp2_with fail;refine a6.mono ?_;rintro e aN ⟨rfl,hw⟩;rw[hw];clear hw c0 c4 a6;have HI:Hid (i7 true F w1 L 0 0 (.slice none 0 0) w1):=i7.zero _ _ _ _;have a7:Hid (kk 0=0):=by show kk 0=0;rw[N.out];rfl
 go_wp2;go_loopw [9,10,11] (fun lv q c wr=>∃(i k j:Nat) (ax:Option Addr) (cx:Nat),i≤L.length∧k≤0∧j≤i∧lv= .slice ax j cx∧q= .int .i64 k∧c= .int .i64 i∧Hid (i7 true F w1 L i j lv wr∧k=kk i)) (fun _ _ c _=>L.length-(intOf c).toNat);case atStart=>exact⟨0,0,0,none,0,CH _,CH _,Cs _,rfl,rfl,rfl,HI.out,a7.out.symm⟩
 case round=>
  clear HI a7;obtain⟨i,k,j,ax,cx,hi,hk,hj,rfl,rfl,rfl,HR⟩:=hrel;have p:Fr (fun _=>False) w wr:=by obtain⟨L',_,_,_,_,hf⟩:=HR.out.1;exact a5.out.trans hf fI
  have s:=HD.out.fr p jI;have c9:=s.c9;by_cases az:i<L.length
  ·have a8:(i:Int)<L.length:=by omega
   obtain⟨r,hr⟩:∃r,L[i]?=some r:=⟨_,Cp az⟩;obtain⟨g,off,rfl,a9⟩:=HL.out.get hr;obtain⟨s0,s1,s2,s3,s4,s5,s6⟩:=cH (aW a9 p);clear a9 s;obtain⟨ab,aA⟩:=au.out r (Cq hr);have aB:=af (HL.out.m r (Cq hr));have B:Hid (F r.id∈r.may∧L[i]?=some r):=⟨ab,hr⟩;clear ab hr;go_wp2_with fail;obtain⟨W,HW⟩:=aw (wr.alloc (.cells #[.int .i64 r.id,.slice r.sa r.st.length r.sc,.int .i64 0,.int .i64 0,.int .i64 r.tries,.int .i64 r.due,.slice r.ma r.may.length r.mc] 223));obtain⟨d,C⟩:=aw wr.heap.size;have ad:=j9 HW;have P:aQ W d {r with S:=(0,0)}:=by rw[HW.out,C.out];exact aa wr _
   rw[←HW.out,←C.out];have u:Hid (wr.heap.size≤d):=by show wr.heap.size≤d;rw[C.out];exact Cs _
   clear HW C s0 s1 s2 s3 s4 s5 s6 c9;obtain⟨q0,q1,q2,q3,q4,q5,q6⟩:=P.c;have Q:Hid (Fr (fun _=>False) wr W∧aQ W d {r with S:=(0,0)}):=⟨ad,P⟩;clear ad P;have Z:eV F r=false:=by
    cases Z:eV F r with
    |false=>rfl
    |true=>
     have h1:=(Co.1 (oq B.out.2 Z).1).1;rw[←y.out]at h1;have:=a4.out;omega
   have R:=(lH av.out B.out.2 Z).2;rw[←N.out,←HR.out.2]at R;have aC:=af R.symm;have aD:=af Z;have aj:=af (ay.out _ (by simpa[eV]using Z));have aM:¬(k:Int)<0:=by omega
   clear R Z;go_region;clear q0 q1 q2 q3 q4 q5 q6;obtain⟨W4,T⟩:=aw W.drew;have f:Hid (Fr (fun _=>False) wr W4∧aQ W4 d {r with S:=(0,0)}):=by rw[T.out];exact⟨Q.out.1.drew,Q.out.2⟩
   rw[show W.drew=W4 from T.out.symm];clear T Q;obtain⟨q0,q1,q2,q3,q4,q5,q6⟩:=f.out.2.c;go_wp2_with fail;refine(cY (aB.out.frz (p.trans f.out.1 fI)) aA (0,0)).mono ?_;rintro e w5 ⟨rfl,U⟩;have K:decide ((0,0)∈r.may)=true:=by rw[DO,←aj.out];exact B.out.1
   rw[K];have o:Hid (Fr (fun _=>False) wr w5∧aQ w5 d {r with S:=(0,0)}):=⟨f.out.1.trans U fI,U.keep f.out.2 jI⟩;clear q0 q1 q2 q3 q4 q5 q6 U K f;obtain⟨q0,q1,q2,q3,q4,q5,q6⟩:=o.out.2.c;obtain⟨V,E⟩:=aw (w5.setCell ⟨d,4,none⟩ (.int .i64 0));have h6:(Instr.storeAt 3 (.pointer (some ⟨d,4,none⟩)) (.int .i64 0)).run prog w5= .ok () V:=by rw[E.out];exact ah q4 (o.out.2.fz 4) (by kernel_rfl) rfl
   have G:aQ V d {r with S:=(0,0),tries:=0}:=by rw[E.out];exact ag w5 d 4 _ _ _ o.out.2
   have ak:Fr (fun _=>False) wr V:=by rw[E.out];exact o.out.1.setCell _ (fun h=>by have:=u.out;simp at h;omega) _
   obtain⟨W7,H⟩:=aw (V.setCell ⟨d,5,none⟩ (.int .i64 0));have h7:(Instr.storeAt 3 (.pointer (some ⟨d,5,none⟩)) (.int .i64 0)).run prog V= .ok () W7:=by rw[H.out];exact ah G.c.2.2.2.2.2.1 (G.fz 5) (by kernel_rfl) rfl
   have t:aQ W7 d {r with S:=(0,0),tries:=0,due:=0}:=by rw[H.out];exact ag V d 5 _ _ _ G
   have X:Fr (fun _=>False) wr W7:=by rw[H.out];exact ak.setCell _ (fun h=>by have:=u.out;simp at h;omega) _
   obtain⟨M,HM⟩:=aw W7.heap.size;obtain⟨W8,v⟩:=aw (W7.alloc (.cells #[.int .i64 0,.int .i64 0] 220));have aE:d≠M:=by have:=lt_of_heap t;rw[HM.out];omega
   have I:aQ W8 d {r with S:=(0,0),tries:=0,due:=0}:=by unfold aQ;rw[v.out,ai _ _ _ (lt_of_heap t)];exact t
   have al:Fr (fun _=>False) wr W8:=by rw[v.out];exact X.alloc _
   have an:W8.heap[M]?=some (.cells #[.int .i64 0,.int .i64 0] 220 (0,0)):=by rw[v.out,HM.out];exact aa _ _
   obtain⟨Y,x⟩:=aw (W8.setCell ⟨d,6,none⟩ (.slice (some ⟨M,0,none⟩) 1 1));have h9:(Instr.storeAt 221 (.pointer (some ⟨d,6,none⟩)) (.slice (some ⟨M,0,none⟩) 1 1)).run prog W8= .ok () Y:=by rw[x.out];exact ah I.c.2.2.2.2.2.2 (I.fz 6) (by kernel_rfl) rfl
   rw[v.out,HM.out]at h9;have aF:wr.heap.size≤M:=by rw[HM.out];exact X.size
   obtain⟨r',J⟩:∃r':RS,Hid (r'={r with S:=(0,0),tries:=0,due:=0,ma:=some ⟨M,0,none⟩,mc:=1,may:=[(0,0)]}):=⟨_,rfl⟩;have ap:aQ Y d r':=by rw[x.out,J.out];exact ag W8 d 6 _ _ _ I
   have aq:Fr (fun _=>False) wr Y:=by rw[x.out];exact al.setCell _ (fun h=>by have:=u.out;simp at h;omega) _
   have ar:Y.heap[M]?=some (.cells #[.int .i64 0,.int .i64 0] 220 (0,0)):=by rw[x.out,aK _ _ _ _ aE.symm];exact an
   have aG:Hid (us true (F r.id) r r'∧gz wr.heap.size Y r'∧Fr (fun _=>False) wr Y):=⟨by rw[J.out,aj.out];exact⟨rfl,rfl,rfl,rfl,rfl,rfl,rfl,rfl,rfl⟩,by rw[J.out];exact⟨M,aF,rfl,ar⟩,aq⟩;have aO:=t.c.2.2.1;have aP:=t.c.2.2.2.1;obtain⟨p0,p1,p2,p3,p4,p5,p6⟩:=ap.c;have aI:r'.S.1=0:=by rw[J.out]
   rw[aI]at p2;clear G ak t X I al ap aq an ar E H v x HM;go_wp2_with (first
    |(refine ae 3 (w':=V) _ _ rfl rfl ?_ ?_;exact h6)
    |(refine ae 3 (w':=W7) _ _ rfl rfl ?_ ?_;exact h7)
    |(refine ae 221 (w':=Y) _ _ rfl rfl ?_ ?_;exact h9))
   have aJ:=af (HR.out.1.skip aG.out.2.2 B.out.2 rfl aD.out);go_roundw;case rel=>exact⟨i+1,k,j,ax,cx,by omega,hk,by omega,rfl,rfl,by go_num,aJ.out,aC.out⟩
   case measure=>simp[intOf];omega
  ·have a8:¬(i:Int)<L.length:=by omega
   obtain rfl:i=L.length:=by omega
   have aL:k=0:=by rw[HR.out.2,N.out,kE,←y.out];exact a4.out
   subst aL;have s:=HD.out.fr p jI;clear c9;have c3:=s.c3;have c4:=s.c4;have c5:=s.c5;have c6:=s.c6;have c7:=s.c7;have c8:=s.c8;have c9:=s.c9;have fz:=s.fz;have HX:Hid (aH wr D A Pp n nn false x0 l clock fd (.slice ao L.length a0)∧Fr (fun _=>False) w wr):=⟨s,p⟩;clear s p;go_wp2;go_ret;have e5:=HX.out.1.set5 (.pointer xp);have e6:=e5.set6 pause;have e7:=e6.set7 0;have e8:=e7.set8 false;have e9:=e8.set9 (.slice ax j cx);have e3:=e9.set3 false;have e4:=e3.set4 false;refine i7.end (nn:=nn) (em:=false) HR.out.1 (lt_of_heap HD.out) (a5.out.mono (fun _ _ h=>h.elim)) (eh.set (eh.set (eh.set (eh.set (eh.set (eh.set (eh.set (Fr.refl _ _)))))))) ?_ (fun c hc=>by rw[HX.out.1]at hc;simp at hc);simpa using e4
theorem yz{w:World}{D A n Pp:Nat}{nn fd:Bool}{x0:Value}{xp:Option Addr}{p clock:Int}{ao:Option Addr}{a0:Nat}{L:List RS}{F:Int→SP}{pd:Nat}(h:aH w D A Pp n nn false x0 p clock fd (.slice ao L.length a0))(hl:cO w ao L)(hn:L.length≤1000000)(a1:∀r∈L,F r.id∈r.may∧r.may.length≤1000000)(a3:L.Pairwise (fun a b=>a.id<b.id))(hF:∀id,(F id).1=0→F id=(0,0))(aP:¬(pd:Int)=0)(hz:ee F L=[])(pause:Int)(hA:Calls prog 35 #[.pointer xp,.int .i64 1048576] w fun e w'=>lx (ee F L) w e w')(hP:∀W,Fr (fun _=>False) w W→Calls prog 34 #[.pointer (some ⟨A,0,none⟩)] W fun e w'=>e= .returned (.int .i64 pd)∧w'=W):Calls prog 82 #[.pointer (some ⟨D,0,none⟩),.pointer xp,.int .i64 pause] w fun e w'=>iI false F L D A Pp n nn false xp pause w e w':=by
 have HL:=af hl;have HD:=af h;have ay:=af a1;have az:=af a3;have aA:=af hF;obtain⟨ch,C⟩:=aw (ee F L);obtain⟨kk,Q⟩:=aw (kf F L);have a4:ch.length=0:=by rw[C.out,hz];rfl
 rw[←C.out]at hA;have a5:=af a4;clear h hl a1 a3 hF hz;go_enter func82,ntmps82;go_wp2_with fail;refine hA.mono ?_;rintro e E ⟨bo,cb,rfl,hb,G⟩;rw[a4];have HB:=af hb;have a6:=af G;have R:=HD.out.fr G jI;have a7:=hP E G;have c0:=R.c0;have c4:=R.c4;clear hA hb G R hP;go_wp2_with fail;refine a7.mono ?_;rintro e aR ⟨rfl,hw⟩;rw[hw];clear hw c0 c4 a7;have HI:Hid (i7 false F E L 0 0 (.slice none 0 0) E):=i7.zero _ _ _ _;have a8:Hid (kk 0=0):=by show kk 0=0;rw[Q.out];rfl
 go_wp2;rw[show((pd:Int)==0)=false by simp;omega];go_loopw [9,10,11] (fun lv q c wr=>∃(i k j:Nat) (ax:Option Addr) (cx:Nat),i≤L.length∧k≤0∧j≤i∧lv= .slice ax j cx∧q= .int .i64 k∧c= .int .i64 i∧Hid (i7 false F E L i j lv wr∧k=kk i)) (fun _ _ c _=>L.length-(intOf c).toNat);case atStart=>exact⟨0,0,0,none,0,CH _,CH _,Cs _,rfl,rfl,rfl,HI.out,a8.out.symm⟩
 case round=>
  clear HI a8;obtain⟨i,k,j,ax,cx,hi,hk,hj,rfl,rfl,rfl,HR⟩:=hrel;have x:Fr (fun _=>False) w wr:=by obtain⟨L',_,_,_,_,hf⟩:=HR.out.1;exact a6.out.trans hf fI
  have y:=HD.out.fr x jI;have c9:=y.c9;by_cases aB:i<L.length
  ·have a9:(i:Int)<L.length:=by omega
   obtain⟨r,hr⟩:∃r,L[i]?=some r:=⟨_,Cp aB⟩;obtain⟨g,off,rfl,ab⟩:=HL.out.get hr;obtain⟨s0,s1,s2,s3,s4,s5,s6⟩:=cH (aW ab x);clear ab y;obtain⟨ad,aC⟩:=ay.out r (Cq hr);have aD:=af (HL.out.m r (Cq hr));have H:Hid (F r.id∈r.may∧L[i]?=some r):=⟨ad,hr⟩;clear ad hr;go_wp2_with fail;obtain⟨W,HW⟩:=aw (wr.alloc (.cells #[.int .i64 r.id,.slice r.sa r.st.length r.sc,.int .i64 0,.int .i64 0,.int .i64 r.tries,.int .i64 r.due,.slice r.ma r.may.length r.mc] 223));obtain⟨o,I⟩:=aw wr.heap.size;have ai:=j9 HW;have T:aQ W o {r with S:=(0,0)}:=by rw[HW.out,I.out];exact aa wr _
   rw[←HW.out,←I.out];have O:Hid (wr.heap.size≤o):=by show wr.heap.size≤o;rw[I.out];exact Cs _
   clear HW I s0 s1 s2 s3 s4 s5 s6 c9;obtain⟨q0,q1,q2,q3,q4,q5,q6⟩:=T.c;have U:Hid (Fr (fun _=>False) wr W∧aQ W o {r with S:=(0,0)}):=⟨ai,T⟩;clear ai T;have hh:eV F r=false:=by
    cases hh:eV F r with
    |false=>rfl
    |true=>
     have h1:=(Co.1 (oq H.out.2 hh).1).1;rw[←C.out]at h1;have:=a5.out;omega
   have V:=(lH az.out H.out.2 hh).2;rw[←Q.out,←HR.out.2]at V;have aE:=af V.symm;have aS:=af hh;have aj:=af (aA.out _ (by simpa[eV]using hh));have aO:¬(k:Int)<0:=by omega
   clear V hh;go_region;clear q0 q1 q2 q3 q4 q5 q6;obtain⟨W4,X⟩:=aw W.drew;have f:Hid (Fr (fun _=>False) wr W4∧aQ W4 o {r with S:=(0,0)}):=by rw[X.out];exact⟨U.out.1.drew,U.out.2⟩
   rw[show W.drew=W4 from X.out.symm];clear X U;obtain⟨q0,q1,q2,q3,q4,q5,q6⟩:=f.out.2.c;go_wp2_with fail;refine(cY (aD.out.frz (x.trans f.out.1 fI)) aC (0,0)).mono ?_;rintro e w5 ⟨rfl,Y⟩;have P:decide ((0,0)∈r.may)=true:=by rw[DO,←aj.out];exact H.out.1
   rw[P];have s:Hid (Fr (fun _=>False) wr w5∧aQ w5 o {r with S:=(0,0)}):=⟨f.out.1.trans Y fI,Y.keep f.out.2 jI⟩;clear q0 q1 q2 q3 q4 q5 q6 Y P f;obtain⟨q0,q1,q2,q3,q4,q5,q6⟩:=s.out.2.c;obtain⟨Z,J⟩:=aw (w5.setCell ⟨o,4,none⟩ (.int .i64 0));have h6:(Instr.storeAt 3 (.pointer (some ⟨o,4,none⟩)) (.int .i64 0)).run prog w5= .ok () Z:=by rw[J.out];exact ah q4 (s.out.2.fz 4) (by kernel_rfl) rfl
   have K:aQ Z o {r with S:=(0,0),tries:=0}:=by rw[J.out];exact ag w5 o 4 _ _ _ s.out.2
   have ak:Fr (fun _=>False) wr Z:=by rw[J.out];exact s.out.1.setCell _ (fun h=>by have:=O.out;simp at h;omega) _
   obtain⟨l,M⟩:=aw (Z.setCell ⟨o,5,none⟩ (.int .i64 0));have h7:(Instr.storeAt 3 (.pointer (some ⟨o,5,none⟩)) (.int .i64 0)).run prog Z= .ok () l:=by rw[M.out];exact ah K.c.2.2.2.2.2.1 (K.fz 5) (by kernel_rfl) rfl
   have al:aQ l o {r with S:=(0,0),tries:=0,due:=0}:=by rw[M.out];exact ag Z o 5 _ _ _ K
   have an:Fr (fun _=>False) wr l:=by rw[M.out];exact ak.setCell _ (fun h=>by have:=O.out;simp at h;omega) _
   obtain⟨d,ap⟩:∃d:RS,Hid (d={r with S:=(0,0),tries:=0,due:=0}):=⟨_,rfl⟩;have aq:aQ l o d:=by rw[ap.out];exact al
   have ar:Hid (us false (F r.id) r d∧Fr (fun _=>False) wr l):=⟨by rw[ap.out,aj.out];exact⟨rfl,rfl,rfl,rfl,rfl,rfl,rfl,rfl,rfl,rfl⟩,an⟩;obtain⟨p0,p1,p2,p3,p4,p5,p6⟩:=aq.c;clear K ak al an aq J M;obtain⟨aF,aG,aI,aJ,aK⟩:=Dn dO;obtain⟨xs,ho,au,z⟩:=i7.step HR.out.1 (ar.out.2.alloc (.cells #[.int .i64 d.id,.slice d.sa d.st.length d.sc,.int .i64 d.S.1,.int .i64 d.S.2,.int .i64 d.tries,.int .i64 d.due,.slice d.ma d.may.length d.mc] 223)) H.out.2 ar.out.1 (fun e=>by cases e) (fun e=>by cases e);have t:∀j u,d.cs[j]?=some u→(l.alloc (.cells #[.int .i64 d.id,.slice d.sa d.st.length d.sc,.int .i64 d.S.1,.int .i64 d.S.2,.int .i64 d.tries,.int .i64 d.due,.slice d.ma d.may.length d.mc] 223)).cell? ((⟨l.heap.size,0,none⟩:Addr).add j)=some u:=CZ (cs:=d.cs.toArray) (aa l _)
   have N:Hid ((l.alloc (.cells #[.int .i64 d.id,.slice d.sa d.st.length d.sc,.int .i64 d.S.1,.int .i64 d.S.2,.int .i64 d.tries,.int .i64 d.due,.slice d.ma d.may.length d.mc] 223)).ownsRow E.heap.size 223 7 (.slice ax j cx) j xs∧E.heap.size≤(l.alloc (.cells #[.int .i64 d.id,.slice d.sa d.st.length d.sc,.int .i64 d.S.1,.int .i64 d.S.2,.int .i64 d.tries,.int .i64 d.due,.slice d.ma d.may.length d.mc] 223)).heap.size∧(∀j u,d.cs[j]?=some u→(l.alloc (.cells #[.int .i64 d.id,.slice d.sa d.st.length d.sc,.int .i64 d.S.1,.int .i64 d.S.2,.int .i64 d.tries,.int .i64 d.due,.slice d.ma d.may.length d.mc] 223)).cell? ((⟨l.heap.size,0,none⟩:Addr).add j)=some u)∧(∀w2 v2,w2.ownsRow E.heap.size 223 7 v2 (j+1) (xs++d.cs)→(l.alloc (.cells #[.int .i64 d.id,.slice d.sa d.st.length d.sc,.int .i64 d.S.1,.int .i64 d.S.2,.int .i64 d.tries,.int .i64 d.due,.slice d.ma d.may.length d.mc] 223)).grownBy w2 (Value.slice ax j cx).ownBlock→i7 false F E L (i+1) (j+1) v2 w2∧∃a2 c2,v2= .slice a2 (j+1) c2)):=⟨ho,au,t,z⟩;clear ho au z t;go_wp2_with (first
    |(refine ae 3 (w':=Z) _ _ rfl rfl ?_ ?_;exact h6)
    |(refine ae 3 (w':=l) _ _ rfl rfl ?_ ?_;exact h7)
    |(at_builtin;refine DD (l.alloc (.cells #[.int .i64 d.id,.slice d.sa d.st.length d.sc,.int .i64 d.S.1,.int .i64 d.S.2,.int .i64 d.tries,.int .i64 d.due,.slice d.ma d.may.length d.mc] 223)) rfl _ _ 107 rfl E.heap.size 223 aF _ 7 88 underlying107 aG aI aJ aK rfl (by decide) (.slice ax j cx) j xs rfl N.out.1 ⟨l.heap.size,0,none⟩ 1 1 d.cs rfl ?_ N.out.2.2.1 d.one ?_ ?_ N.out.2.1 ?_;(rw[d.len]);(unfold maxLen;omega);omega;intro v2 w2 B v _;obtain⟨av,a2,aL,rfl⟩:=N.out.2.2.2 w2 v2 B v;have aM:=af av;clear B v av p0 p1 p2 p3 p4 p5 p6))
   go_roundw;case rel=>exact⟨i+1,k,j+1,a2,aL,by omega,hk,by omega,rfl,by go_num,by go_num,aM.out,aE.out⟩
   case measure=>simp[intOf];omega
  ·have a9:¬(i:Int)<L.length:=by omega
   obtain rfl:i=L.length:=by omega
   have aN:k=0:=by rw[HR.out.2,Q.out,kE,←C.out];exact a5.out
   subst aN;have y:=HD.out.fr x jI;clear c9;have c3:=y.c3;have c4:=y.c4;have c5:=y.c5;have c6:=y.c6;have c7:=y.c7;have c8:=y.c8;have c9:=y.c9;have fz:=y.fz;have HX:Hid (aH wr D A Pp n nn false x0 p clock fd (.slice ao L.length a0)∧Fr (fun _=>False) w wr):=⟨y,x⟩;clear y x;go_wp2;go_ret;have e5:=HX.out.1.set5 (.pointer xp);have e6:=e5.set6 pause;have e7:=e6.set7 0;have e8:=e7.set8 false;have e9:=e8.set9 (.slice ax j cx);refine i7.end (nn:=nn) (em:=false) HR.out.1 (lt_of_heap HD.out) (a6.out.mono (fun _ _ h=>h.elim)) (eh.set (eh.set (eh.set (eh.set (eh.set (Fr.refl _ _)))))) ?_ (fun c hc=>by rw[HX.out.1]at hc;simp at hc);simpa using e9
theorem xe{w:World}{D A n s:Nat}{nn fd:Bool}{B Lv:Value}{m:Option Addr}{b clock:Int}{F:Int→SP}(h:aH w D A s n nn true B b clock fd Lv)(pause:Int)(t:Calls prog 35 #[.pointer m,.int .i64 1048576] w fun e k=>lx [] w e k)(u:∀W,Fr (· =D) w W→Calls prog 34 #[.pointer (some ⟨A,0,none⟩)] W fun e k=>e= .returned (.int .i64 0)∧k=W):Calls prog 82 #[.pointer (some ⟨D,0,none⟩),.pointer m,.int .i64 pause] w fun e k=>iI true F [] D A s n nn true m pause w e k:=by
 have v:=af h;clear h;go_enter func82,ntmps82;go_wp2_with fail;refine t.mono ?_;rintro e x ⟨P,Q,rfl,C,g⟩;have a:=v.out.fr g jI;have d:=a.set9 (.slice none 0 0);obtain⟨W,o⟩:=aw (x.setCell ⟨D,9,none⟩ (.slice none 0 0));have i:Fr (· =D) w W:=by rw[o.out];exact eh.set (g.mono (fun _ _ h=>h.elim))
 have y:(Instr.storeAt 107 (.pointer (some ⟨D,9,none⟩)) (.slice none 0 0)).run prog x= .ok () W:=by rw[o.out];exact ah a.c9 (a.fz 9) (by kernel_rfl) rfl
 rw[←o.out]at d;have l:=u W i;have r:=af i;have c4:=a.c4;have c0:=d.c0;have j:=af d;clear t C g a u i o d;simp only[ES];go_wp2_with (refine ae 107 (w':=W) _ _ rfl rfl ?_ ?_;exact y);refine l.mono ?_;rintro e E ⟨rfl,p⟩;rw[p];clear p c0 c4 l y;go_wp2;go_loopw [9,10,11] (fun G q c wr=>G= .slice none 0 0∧q= .int .i64 0∧c= .int .i64 0∧Hid (wr=W)) (fun _ _ _ _=>0);case atStart=>exact⟨rfl,rfl,rfl,(rfl:W=W)⟩
 case round=>
  obtain⟨rfl,rfl,rfl,H⟩:=hrel;have p:=H.out;subst p;have f:=j.out;have c3:=f.c3;have c4:=f.c4;have c5:=f.c5;have c6:=f.c6;have c7:=f.c7;have c8:=f.c8;have c9:=f.c9;have fz:=f.fz;clear f;go_wp2;go_ret;have I:=j.out.set5 (.pointer m);have J:=I.set6 pause;have K:=J.set7 0;have L:=K.set8 false;have M:=L.set9 (.slice none 0 0);have N:=M.set3 false;have O:=N.set4 false;refine i7.end (nn:=nn) (em:=true) (i7.zero true F wr []) (lt_of_heap v.out) r.out (eh.set (eh.set (eh.set (eh.set (eh.set (eh.set (eh.set (Fr.refl _ _)))))))) ?_ (fun c z=>by rw[j.out]at z;simp at z);simpa using O
section
variable{w w':World}{k X A B n:Nat}{clock pause:Int}{a:Value}{L:List AS}{rs:List ba}{s:DS}{C F:Nat→Prop}
theorem EG.bad(h:EG w k X A B n clock pause a L rs s C F)(hk:k<80000)(j m:Int)(O:0≤j)(H:j≤1000)(P:0≤m)(I:m≤1000):Calls prog 31 #[.pointer (some ⟨A,0,none⟩),.int .i64 j,.int .i64 m] w fun e w'=>e= .returned (.tuple #[])∧EG w' k X A B n clock pause a L rs ⟨{s.d with lo:=s.d.calls+j,hi:=s.d.calls+j+m},s.ents,s.bs⟩ C F∧Fr (· =A) w w':=by
 obtain⟨S,x,M,J,R,V,E,y,G,ev,z,U,Y,Z,g,hc⟩:=h;have a0:=x.c1;refine(tF g.jn.d.d x.c0 (by omega) j m O H P I).mono ?_;rintro e w' ⟨rfl,hd,D⟩;have N:bi w' A B n y z ⟨{s.d with lo:=s.d.calls+j,hi:=s.d.calls+j+m},s.ents,s.bs⟩:=⟨hd,⟨D.keep g.jn.d.r.1 (fun e=>g.jn.d.ne.1 e.symm),g.jn.d.r.2⟩,g.jn.d.q.fr D (fun b c x _ e=>by rw[e,g.jn.d.d]at x;simp at x),Ct g.jn.d.b D.size,g.jn.d.c⟩;have nX:X≠A:=fun e=>by have:=g.eng;rw[e]at this;have:=this.symm.trans g.jn.d.d;simp at this
 have nV:=g.jn.v.neK g.jn.d.d;have nJ:J≠A:=fun e=>by have:=g.jn.j;rw[e]at this;have:=this.symm.trans g.jn.d.d;simp at this
 refine⟨rfl,⟨S,⟨x.c0,x.c1,x.w0,x.w1,x.t0,x.t1,x.e⟩,M.keep rfl rfl rfl,J,R,V,E,y,G,ev,z,U,Y,Z,⟨D.keep g.eng nX,g.roll.fr D (fun b x e=>(g.dis b x).1 (.inl (.inl e))),⟨g.jn.v.fr D nV,N,g.jn.j.fr D nJ⟩,g.hi,g.m,g.rm,Ct g.b D.size,g.f⟩,hc⟩,D⟩
theorem DG.bad(h:DG w k A B n s C)(P:k<80000)(j m:Int)(E:0≤j)(z:j≤1000)(G:0≤m)(D:m≤1000):Calls prog 31 #[.pointer (some ⟨A,0,none⟩),.int .i64 j,.int .i64 m] w fun e w'=>e= .returned (.tuple #[])∧DG w' k A B n ⟨{s.d with lo:=s.d.calls+j,hi:=s.d.calls+j+m},s.ents,s.bs⟩ C∧Fr (· =A) w w':=by obtain⟨f,x,v,g,H,I,J,M⟩:=h;have N:=f.c1;refine(tF g.d f.c0 (by omega) j m E z G D).mono ?_;rintro e w' ⟨rfl,O,y⟩;exact⟨rfl,⟨⟨f.c0,f.c1,f.w0,f.w1,f.t0,f.t1,f.e⟩,x,v,⟨O,⟨y.keep g.r.1 (fun e=>g.ne.1 e.symm),g.r.2⟩,g.q.fr y (fun b c f _ e=>by rw[e,g.d]at f;simp at f),Ct g.b y.size,g.c⟩,H,I,J,M⟩,y⟩
end
theorem un{w:World}{A B n m:Nat}{L:Value}{s:DS}(h:bi w A B n m L s)(hn:0<n)(aP:n≤1000){la:Option Addr}{I:List Int}{kc:Nat}(hl:oH w la I)(hz:I.length<100000):Calls prog 32 #[.pointer (some ⟨A,0,none⟩),.slice la I.length kc] w fun e w'=>Aj w n s I e w':=by
 obtain⟨i0,hi,ap,aq,ar⟩:=Dn me;obtain⟨k,T⟩:=aw s.ents.length;obtain⟨N,HN⟩:=aw I.length;obtain⟨U,S,au⟩:∃U S,L= .slice U k S:=by
  rw[T.out];rcases h.q.o.2 with⟨rfl,h0⟩|⟨g,a6,av,rfl,_⟩
  ·exact⟨none,0,by rw[h0]⟩
  ·exact⟨_,_,rfl⟩
 subst au;have aQ:k<1000000:=by rw[T.out];exact h.q.k
 have hN:N<100000:=by rw[HN.out];exact hz
 have c0:=h.d.c0;have c1:=h.d.c1;have aR:=h.c;have V:(s.bs.take (n*128)).length=n*128:=by rw[Cy,h.r.2.1];omega
 have C:∀j u,(s.bs.take (n*128))[j]?=some u→w.cell? ((⟨B,0,none⟩:Addr).add j)=some u:=by have:=fJ h.r.1 0 (n*128);simpa using this
 have HL:=af hl;have aS:=h.d.lt;have HS:Hid (∀E f J,n≤f→E=w.heap.size→J=w.drew.alloc (.cells ((s.bs.take (n*128)).toArray++Builtin.zeroCells (Value.agg bJ).cells (f-n)) 97)→v8 w J.heap.size E n f m k (.slice U k S) s.ents (cutL (s.bs.take (n*128)++List.replicate ((f-n)*128) (Value.int .u8 0)) ((s.ents.zip I).take 0)) (J.alloc (.cells #[.slice (some ⟨E,0,none⟩) n f,.slice none 0 0,.int .i64 0,.int .i64 0,.int .i64 0,.int .i64 (-1),.int .i64 0,.int .i64 0] 96))):=by
  intro E f J D ax X;have Y:Fr (fun _=>False) w J:=by rw[X];exact(Fr.refl _ _).drew.alloc _
  have hB:J.heap[E]?=some (.cells (s.bs.take (n*128)++List.replicate ((f-n)*128) (Value.int .u8 0)).toArray 97 (0,0)):=by rw[X,ax];refine(aa _ _).trans ?_;congr 2;apply Array.ext';rw[Array.toList_append,zG]
  have Z:Fr (fun _=>False) J (J.alloc (.cells #[.slice (some ⟨E,0,none⟩) n f,.slice none 0 0,.int .i64 0,.int .i64 0,.int .i64 0,.int .i64 (-1),.int .i64 0,.int .i64 0] 96)):=(Fr.refl _ _).alloc _;have hq:fy w m k n (.slice U k S) s.ents:=by rw[T.out];have:=h.q;rw[T.out]at this;exact this
  refine⟨aa _ _,⟨Z.keep hB jI,?_,fun v y=>?_⟩,hq.fr (Y.trans Z fI) (fun _ _ _ _ h=>h),Y.trans Z fI,Y.size,by omega⟩
  ·show(s.bs.take (n*128)++List.replicate ((f-n)*128) (Value.int .u8 0)).length=_;rw[Cr,V,Dm];omega
  ·have y:v∈s.bs.take (n*128)++List.replicate ((f-n)*128) (Value.int .u8 0):=y;rcases Cv.1 y with y|y
   ·exact h.r.2.2 v (CU y)
   ·rw[(D6.1 y).2];rfl
 have ay:∀g,U=some g→g=⟨g.block,0,none⟩:=fun g hg=>by
  rcases h.q.o.2 with⟨y,_⟩|⟨g',a6,av,y,_⟩
  ·subst hg;cases y
  ·subst hg;cases y;rfl
 have az:0<k→∃g,U=some ⟨g,0,none⟩:=fun hk=>by have hq:=h.q.o;obtain⟨g,a6,y,_⟩:=hq.form (by rw[←T.out];exact hk);cases y;exact⟨g,rfl⟩
 have HQ:Hid (∀p∈s.ents,p.2.length=128∧(∀v∈p.2,v.oneCell'=true)∧p.1<n):=fun p M=>⟨h.q.l p M,h.q.one p M,h.q.n p M⟩;rw[←HN.out];go_enter func32,ntmps32;go_wp2_with (first|(at_builtin;refine jB rfl (.const (.slice none 0 0)) (.tmp 12) 93 rfl 97 i0 (.agg bJ) 128 128 underlying93 hi ap aq ar rfl ⟨B,0,none⟩ n s.d.cap (s.bs.take (n*128)) rfl V C hn ?_ ?_ ?_;omega;omega;intro E f J D a7 a8;have HA:=HS.out E f J D a7.out a8.out;have aA:=HA.2.2.2.1.cell c1 jI));generalize J.alloc (.cells #[.slice (some ⟨E,0,none⟩) n f,.slice none 0 0,.int .i64 0,.int .i64 0,.int .i64 0,.int .i64 (-1),.int .i64 0,.int .i64 0] 96)=w2 at*
 generalize J.heap.size=A' at*
 have HI:=af HA;clear HA a8 a7 HS C V c0 c1 aA h hl ay;obtain⟨H,a0⟩:=aw (s.bs.take (n*128)++List.replicate ((f-n)*128) (Value.int .u8 0));rw[←a0.out]at HI;go_loopw [21] (fun c wr=>∃j:Nat,j≤k∧j≤N∧c= .int .i64 j∧Hid (v8 w A' E n f m k (.slice U k S) s.ents (cutL H ((s.ents.zip I).take j)) wr)) (fun c _=>k-(intOf c).toNat);case atStart=>exact⟨0,CH _,CH _,rfl,HI⟩
 case round=>
  obtain⟨j,aT,aU,rfl,HR⟩:=hrel;by_cases aD:j<k
  ·have aM:(j:Int)<k:=by omega
   obtain⟨g,rfl⟩:=az (by omega);obtain⟨p,M⟩:∃p,s.ents[j]?=some p:=⟨_,Cp (by rw[←T.out];exact aD)⟩;obtain⟨O,P,a9⟩:=HQ.out p (Cq M);have Q:=kl HR.out.2.2.1.o (fun p M=>(HQ.out p M).1) M;obtain⟨a,i⟩:=p;dsimp only at O P a9 Q;have a1:(Value.int .i64 a::i).length=129:=by simp[O]
   have aF:∀v∈(Value.int .i64 a::i),v.oneCell'=true:=fun v y=>by
    rcases CF.1 y with rfl|y
    ·rfl
    ·exact P v y
   obtain⟨W,HW⟩:=aw (wr.alloc (.cells (Value.int .i64 a::i).toArray 101));have a2:(Instr.storeAt 101 (.pointer (some ⟨wr.heap.size,0,none⟩)) (.agg (Value.int .i64 a::i).toArray)).run prog (wr.alloc (.cells (wz (.int .i64 0)) 101))= .ok () W:=by rw[HW.out];exact gU _ a1 aF wr
   have a3:=j9 HW;have ab:W.heap[wr.heap.size]?=some (.cells (Value.int .i64 a::i).toArray 101 (0,0)):=by rw[HW.out];exact aa _ _
   by_cases aG:j<N
   ·have aN:¬(N:Int)≤j:=by omega
    go_wp2_with (first
     |(refine CC rfl 101 (.tmp 24) rfl g (j*129) ?_ (Value.int .i64 a::i) _ Q underlying101 rfl ?_ ?_;rfl;(rw[dq,a1]))
     |(refine bR 101 (v:= .pointer (some ⟨wr.heap.size,0,none⟩)) (w':=wr.alloc (.cells (wz (.int .i64 0)) 101)) rfl rfl ?_ ?_;exact dP wr)
     |(refine ae 101 (w':=W) (.tmp 7) (.tmp 25) rfl rfl ?_ ?_;exact a2))
    generalize wr.heap.size=G at*
    obtain⟨z,ad⟩:∃z,I[j]?=some z:=⟨_,Cp (by rw[←HN.out];exact aG)⟩;obtain⟨lg,off,rfl,aH⟩:=HL.out j z ad;have aI:Hid (cutL H ((s.ents.zip I).take (j+1))=cf (cutL H ((s.ents.zip I).take j)) a i z 4):=uX (b:=H) (p:=(a,i)) (z:=z) M ad;obtain⟨bj,ag⟩:=aw (cutL H ((s.ents.zip I).take j));have HJ:Hid (v8 w A' E n f m k (.slice (some ⟨g,0,none⟩) k S) s.ents (cf bj a i z 0) W∧W.heap[G]?=some (.cells (Value.int .i64 a::i).toArray 101 (0,0))):=⟨by have:=HR.out.frz a3;rw[←ag.out]at this;rw[vF];exact this,ab⟩;clear Q a2 a3 ab HW HR;go_loopw [8] (fun c ah=>∃t:Nat,t≤4∧c= .int .i64 t∧Hid (v8 w A' E n f m k (.slice (some ⟨g,0,none⟩) k S) s.ents (cf bj a i z t) ah∧ah.heap[G]?=some (.cells (Value.int .i64 a::i).toArray 101 (0,0)))) (fun c _=>4-(intOf c).toNat);case atStart=>exact⟨0,CH _,rfl,HJ⟩
    case round=>
     obtain⟨t,ht,rfl,HT⟩:=hrel;by_cases F:t<4
     ·have aJ:(t:Int)<4:=by omega
      have aV:=HT.out.1.2.2.2.1.cell aH jI;have aW:=HT.out.1.1.c0;have aX:wr.cell? ⟨G,0,none⟩=some (.int .i64 a):=(Cn _ _ 0 _ _ _ HT.out.2).trans rfl;have aO:(j:Int)<N:=by omega
      by_cases hb:ff z t=true
      ·have aK:(bits BinOp.and IntKind.i64 (z/2^t) 1==1)=true:=hb;have aY:(a:Int)<n:=by omega
       have aZ:(0:Int)≤(t:Int)*32:=by omega
       have b0:(t:Int)*32≤((t:Int)+1)*32:=by omega
       have b1:((t:Int)+1)*32≤128:=by omega
       have b2:((t:Int)*32).toNat=t*32:=by omega
       have X:IntKind.i64.wrap ((t:Int)*32)=(t:Int)*32:=by rw[E4];omega
       have b3:IntKind.i64.wrap ((t:Int)+1)=(t:Int)+1:=by rw[E4];omega
       have b4:IntKind.i64.wrap (((t:Int)+1)*32)=((t:Int)+1)*32:=by rw[E4];omega
       have b5:(((t:Int)+1)*32).toNat=t*32+32:=by omega
       have b6:=zN E (a*128) t F;have b7:=zN G 1 t F;go_wp2;try simp only[Act.put,aC,aB,aE]
       refine wp_region_still_tail 20 (by kernel_rfl) (by kernel_rfl) (Bx.out ?_);simp only[CW,Dc,CQ,D2];repeat(refine bu (fun K hK=>?_);go_simp;refine hK _ ?_;clear hK K)
       refine bI ?_;change wpList _ _ _ _ _ wr.drew;obtain⟨W3,a4⟩:=aw wr.drew;have ai:=eG a4;rw[←a4.out];clear a4;have R:=HT.out.1.frz ai;have a5:=ai.keep HT.out.2 jI;have aj:=jS O F;have C:∀j v,((i.drop (t*32)).take 32)[j]?=some v→W3.cell? ((⟨G,1+t*32,none⟩:Addr).add j)=some v:=by
        have h1:=fJ a5 (1+t*32) 32;have e:(Value.int .i64 a::i).drop (1+t*32)=i.drop (t*32):=by rw[Nat.add_comm];rfl
        rw[e]at h1;exact h1
       have ak:∀v∈(i.drop (t*32)).take 32,v.oneCell'=true:=fun v y=>P v (D8 (CU y));have aL:=R.2.1.2.1;have al:a*128+t*32+((i.drop (t*32)).take 32).length≤(cf bj a i z t).toArray.size:=by rw[aj,Df,aL];omega
       go_wp2_with (first|(refine bC rfl (.tmp 54) (.tmp 61) 85 85 rfl 5 underlying85 ir E (a*128+t*32) 32 (128-t*32) ⟨G,1+t*32,none⟩ 32 (128-t*32) rfl rfl (cf bj a i z t).toArray 97 R.2.1.1 ((i.drop (t*32)).take 32) (by rw[aj];rfl) C al ak (splice (cf bj a i z t) (a*128+t*32) ((i.drop (t*32)).take 32)) rfl ?_;intro w4 an;have x:=af (R.sect a5 D a9 O P F hb an.out);clear an R a5 C));go_roundw;case rel=>exact⟨t+1,by omega,by go_num,x⟩
       case measure=>simp[intOf];omega
      ·have aK:(bits BinOp.and IntKind.i64 (z/2^t) 1==1)=false:=by simpa[ff]using hb
       have e1:cf bj a i z (t+1)=cf bj a i z t:=by rw[cf,Cz hb]
       have x:=HT;rw[←e1]at x;go_wp2;go_roundw;case rel=>exact⟨t+1,by omega,by go_num,x⟩
       case measure=>simp[intOf];omega
     ·obtain rfl:t=4:=by omega
      have x:Hid (v8 w A' E n f m k (.slice (some ⟨g,0,none⟩) k S) s.ents (cutL H ((s.ents.zip I).take (j+1))) wr):=by have:=HT.out.1;rw[ag.out,←aI.out]at this;exact this
      go_wp2;go_roundw;case rel=>exact⟨j+1,by omega,by omega,by go_num,x⟩
      case measure=>simp[intOf];omega
   ·obtain rfl:j=N:=by omega
    have x:=af ((HR.out.frz a3).post D (by rw[CO (by rw[List.length_zip,←HN.out];omega),a0.out]));go_wp2_with (first
     |(refine CC rfl 101 (.tmp 24) rfl g (j*129) ?_ (Value.int .i64 a::i) _ Q underlying101 rfl ?_ ?_;rfl;(rw[dq,a1]))
     |(refine bR 101 (v:= .pointer (some ⟨wr.heap.size,0,none⟩)) (w':=wr.alloc (.cells (wz (.int .i64 0)) 101)) rfl rfl ?_ ?_;exact dP wr)
     |(refine ae 101 (w':=W) (.tmp 7) (.tmp 25) rfl rfl ?_ ?_;exact a2))
    go_ret;exact x.out
  ·obtain rfl:j=k:=by omega
   have x:=af (HR.out.post D (by rw[CO (by rw[List.length_zip,←T.out];omega),a0.out]));go_wp2;go_ret;exact x.out
end Go.Proofs.YteebjgfalllbjaaGreatDoor
