import Derived.Test.YteebjgfalllbjaaGreatDoorK12
namespace Go.Proofs.YteebjgfalllbjaaGreatDoor
open Go.RowKit Go.Proofs.Tryz
set_option maxRecDepth 100000
set_option maxHeartbeats 4000000
theorem fS(s:ByteArray)(w:World):Calls prog 41 #[.string s,.nilIface] w fun e a=>e= .returned .nilIface∧a=w:=by go_enter func41,ntmps41;go_wp2;go_ret;exact⟨rfl,rfl⟩
theorem cp(s:ByteArray)(k:Int)(w:World):Calls prog 41 #[.string s,.iface 59 (.int .i64 k)] w fun e a=>e= .returned (.iface 117 (.pointer (some ⟨w.heap.size,0,none⟩)))∧a=w.alloc (.cells #[.string s,.iface 59 (.int .i64 k)] 119):=by go_enter func41,ntmps41;go_wp2;go_ret;exact⟨rfl,rfl⟩
def um(w:World)(V:Nat)(a b:Value):World:=(((((w.alloc (.cells #[.pointer (some ⟨V,0,none⟩)] 155)).alloc (.cells #[a] 127)).alloc (.cells #[b] 162)).alloc (.cells #[.pointer (some ⟨V,0,none⟩),.int .i64 1,.bool false] 179)).alloc (.cells #[.pointer (some ⟨w.heap.size+1+1+1,0,none⟩)] 87))
theorem rE(w:World)(V:Nat)(a b:Value):Fr (fun _=>False) w (um w V a b):=(((((Fr.refl _ _).alloc _).alloc _).alloc _).alloc _).alloc _
theorem qO(w:World)(V:Nat)(a b:Value):(um w V a b).heap.size=w.heap.size+5:=by simp[um]
theorem mT(r:Int)(w:World):Calls prog 73 #[.int .i64 r] w fun e a=>e= .returned (.pointer (some ⟨w.heap.size,0,none⟩))∧a=w.alloc (.cells #[.slice none 0 0,.int .i64 r] 176):=by go_enter func73,ntmps73;go_wp2;go_ret;exact⟨rfl,rfl⟩
theorem pz{w:World}{V A n:Nat}(h:aZ w V A n)(c:1≤n)(b:n≤400):Calls prog 74 #[.pointer (some ⟨V,0,none⟩)] w fun e a=>e= .returned (.int .i64 ((n:Int)-1))∧a=w:=by go_enter func74,ntmps74;go_wp2_with fail;refine(cJ h).mono ?_;rintro e a ⟨rfl,rfl⟩;go_wp2;go_ret;exact⟨by go_num,rfl⟩
theorem lU{w:World}{g i n:Nat}{id:Int}{a b:List SS}{q:SS}(p:SS)(c:w.heap[g]?=some (.cells (av id n (a++q::b)).toArray 122 (0,0)))(hi:a.length=i):(Instr.storeAt 58 (.pointer (some ⟨g,2+i*2,none⟩)) (.agg #[.string p.1,.string p.2])).run prog w= .ok () (w.setRow g (av id n (a++p::b)).toArray):=by
 subst hi;have:=au (P:=prog) (o:=2+a.length*2) (ty:=58) (vs:=dj p) c (by simp[av,bW,dj];omega) (ov p) (by kernel_rfl);have e:splice (av id n (a++q::b)) (2+a.length*2) (dj p)=av id n (a++p::b):=by
  have h:=kM a b p q;unfold av;rw[←h];unfold splice;have d:2+a.length*2=(a.length*2)+1+1:=by omega
  have f:2+a.length*2+(dj p).length=(a.length*2+(dj p).length)+1+1:=by omega
  rw[f,d,CW,CW,CQ,CQ];simp
 rw[e]at this;exact this
theorem vq(g i:Nat)(h:i<6)(w:World):(Instr.indexAt 120 (.pointer (some ⟨g,2,none⟩)) (.int .i64 i)).run prog w= .ok (.pointer (some ⟨g,2+i*2,none⟩)) w:=by
 have a:(i:Int)<6:=by omega
 go_simp
def BH(id:Int)(st:List SS)(w:World)(i:Nat)(wr:World):Prop:=wr.heap[w.heap.size]?=some (.cells iO.toArray 122 (0,0))∧wr.heap[w.heap.size+1]?=some (.cells (av id st.length (st.take i++List.replicate (6-i) bB)).toArray 122 (0,0))∧Fr (fun _=>False) w wr∧∀p∈st.take i,p.1.size≤8∧p.2.size≤8
theorem rB{w:World}{ao:Option Addr}{a0:Nat}{st:List SS}(hl:aY w ao 2 (st.map dj))(id:Int)(h1:1≤id)(h2:id≤1000)(h3:1≤st.length)(I:st.length≤6):Calls prog 57 #[.int .i64 id,.slice ao st.length a0] w fun e N=>BA id st w e N:=by
 have HL:=af hl;have a5:¬id<1:=by omega
 have a6:¬1000<id:=by omega
 have a7:¬(st.length:Int)<1:=by omega
 have Q:¬(6:Int)<st.length:=by omega
 clear hl;have HI:Hid (BH id st w 0 ((w.alloc (.cells iO.toArray 122)).alloc (.cells (av id st.length (bz [])).toArray 122))):=⟨by rw[ai _ _ _ (by simp)];exact aa _ _,Di w _ _,((Fr.refl _ _).alloc _).alloc _,by simp⟩;go_enter func57,ntmps57;go_wp2;go_loopw [33] (fun c wr=>∃i:Nat,i≤st.length∧c= .int .i64 i∧Hid (BH id st w i wr)) (fun c _=>st.length-(intOf c).toNat);case atStart=>exact⟨0,CH _,rfl,HI⟩
 case round=>
  obtain⟨i,hi,rfl,k⟩:=hrel;by_cases a1:i<st.length
  ·have a4:(i:Int)<st.length:=by omega
   obtain⟨p,hp⟩:∃p,st[i]?=some p:=⟨_,Cp a1⟩;obtain⟨g,off,rfl,hr⟩:=HL.out i (dj p) (by simp[hp]);have c0:wr.cell? ⟨g,off+i*2,none⟩=some (.string p.1):=k.out.2.2.1.cell (hr 0 _ rfl) jI;have c1:=k.out.2.2.1.cell (hr 1 _ rfl) jI;have HP:=af hp;clear hr hp;have a:Hid (¬(p.1.size≤8∧p.2.size≤8)→aO id st=false):=fun h=>by unfold aO;exact Dl (fun h'=>h (h'.2.2.2.2 p (Cq HP.out)))
   obtain⟨W,HW⟩:=aw (wr.alloc (.cells #[.string p.1,.string p.2] 58));have y:=j9 HW;have hR:=y.keep k.out.1 jI;have n:(Instr.storeAt 122 (.pointer (some ⟨w.heap.size,0,none⟩)) (.agg iO.toArray)).run prog W= .ok () (W.setRow w.heap.size iO.toArray):=by
    have:=au (P:=prog) (o:=0) (ty:=122) (vs:=iO) hR (by simp) (eD _ _ _) (by kernel_rfl);have e:splice iO 0 iO=iO:=by kernel_rfl
    rw[e]at this;exact this
   have l:=CA W w.heap.size _ iO.toArray 122 (0,0) hR;obtain⟨r,d⟩:=aw (W.setRow w.heap.size iO.toArray);have R:Fr (fun _=>False) w r:=by rw[d.out];exact(k.out.2.2.1.trans y fI).setRow _ (fun h=>by omega) _
   rw[←d.out]at n l;have J:(Instr.storeAt 122 (.pointer (some ⟨w.heap.size,0,none⟩)) (.agg iO.toArray)).run prog (wr.alloc (.cells #[.string p.1,.string p.2] 58))= .ok () r:=by rw[←HW.out];exact n
   have s:∀(tmps:Array Value),tmps.getD 4 undef= .pointer (some ⟨w.heap.size,0,none⟩)→tmps.getD 5 undef=iZ→(results Tryz.f57 tmps).run prog r= .ok (.tuple #[.agg iO.toArray,iZ]) r:=fun tmps I h5=>by rw[←h5];exact ay Tryz.results57 tmps _ w.heap.size 122 iO.toArray (0,0) _ I l underlying122 rfl (by kernel_rfl)
   have t:=af R;have a8:Hid (Fr (fun _=>False) wr W∧W=wr.alloc (.cells #[.string p.1,.string p.2] 58)):=⟨y,HW.out⟩;clear y hR n l R d HW;by_cases e1:(8:Int)<p.1.size
   ·have K:=af (a.out (by omega));clear a;go_wp2_with (refine ae 122 (w':=r) _ _ rfl rfl ?_ ?_;exact J);refine CJ (s _ rfl rfl) rfl ⟨.inr ⟨K.out,rfl⟩,t.out⟩
   ·by_cases e2:(8:Int)<p.2.size
    ·have K:=af (a.out (by omega));clear a;go_wp2_with (refine ae 122 (w':=r) _ _ rfl rfl ?_ ?_;exact J);refine CJ (s _ rfl rfl) rfl ⟨.inr ⟨K.out,rfl⟩,t.out⟩
    ·clear s J a t;go_wp2_with fail;obtain⟨O,z⟩:=aw ((wr.alloc (.cells #[.string p.1,.string p.2] 58)).drew);obtain⟨u,A⟩:=aw wr.heap.size;have T:Fr (fun _=>False) wr O:=by rw[z.out];exact((Fr.refl _ _).alloc _).drew
     have L:O.heap[u]?=some (.cells #[.string p.1,.string p.2] 58 (0,0)):=by rw[z.out,A.out];exact aa wr _
     have U:¬u=w.heap.size+1:=by have:=lt_of_heap k.out.2.1;rw[A.out];omega
     rw[←A.out];let M:World→Prop:=fun N=>N.cell? ⟨u,0,none⟩=some (.string p.1)∧N.cell? ⟨u,1,none⟩=some (.string p.2)
     have B:M O:=⟨(Cn O u 0 _ _ _ L).trans rfl,(Cn O u 1 _ _ _ L).trans rfl⟩;refine dZ M z ?_;clear L z A;refine bM 0 50 7 (.int .i64 i) rfl B ?_;refine bT 1 51 58 8 0 (.pointer (some ⟨u,0,none⟩)) rfl B ?_;refine cU 2 52 9 51 (.string p.1) ⟨u,0,none⟩ rfl (fun _ hs=>hs.1) underlying9 B ?_;refine bT 4 54 58 8 1 (.pointer (some ⟨u,1,none⟩)) rfl B ?_;refine cU 5 55 9 54 (.string p.2) ⟨u,1,none⟩ rfl (fun _ hs=>hs.2) underlying9 B ?_;refine bT 8 58 122 6 2 (.pointer (some ⟨w.heap.size+1,2,none⟩)) rfl B ?_;simp only[Act.put,aC,aB,aE];refine dN 3 53 89 #[.tmp 52] #[.string p.1] rfl ?_;refine(pu p.1 O (by omega)).mono ?_;rintro e wA ⟨rfl,C⟩;have D:M wA:=⟨C.cell B.1 jI,C.cell B.2 jI⟩;refine⟨_,rfl,D,?_⟩;simp only[Act.put,aC,aB,aE];refine dN 6 56 89 #[.tmp 55] #[.string p.2] rfl ?_;refine(pu p.2 wA (by omega)).mono ?_;rintro e V ⟨rfl,E⟩;have m:M V:=⟨E.cell D.1 jI,E.cell D.2 jI⟩;refine⟨_,rfl,m,?_⟩;simp only[Act.put,aC,aB,aE];refine qg (S:=M) (i:=7) (oi:=⟨some 57,.build 58 #[(0,.tmp 53),(1,.tmp 56)],_,_,_,none⟩) (v:= .agg #[.string p.1,.string p.2]) rfl m ?_;simp only[Act.put,aC,aB,aE];refine eW (S:=M) (i:=9) (oi:=⟨some 59,.indexAddr 120 (.tmp 58) (.tmp 50),_,_,_,none⟩) (v:= .pointer (some ⟨w.heap.size+1,2+i*2,none⟩)) rfl (Or.inl ⟨rfl,fun N _=>bn 120 _ _ rfl rfl rfl (vq _ i (by omega) N)⟩) m ?_;simp only[Act.put,aC,aB,aE];have F:=(T.trans C fI).trans E fI;have b:V.heap[w.heap.size+1]?=some (.cells (av id st.length (st.take i++bB::List.replicate (5-i) bB)).toArray 122 (0,0)):=by have:=F.keep k.out.2.1 jI;rw[show 6-i=(5-i)+1 by omega,EB]at this;exact this
     have f:=lU (i:=i) p b (by rw[Cy];omega);have j:=CA V (w.heap.size+1) _ (av id st.length (st.take i++p::List.replicate (5-i) bB)).toArray 122 (0,0) b;obtain⟨wC,G⟩:=aw (V.setRow (w.heap.size+1) (av id st.length (st.take i++p::List.replicate (5-i) bB)).toArray);rw[←G.out]at f j;have H:Fr (· =w.heap.size+1) V wC:=by rw[G.out];exact(Fr.refl (fun x=>x=w.heap.size+1) _).setRow _ (fun _=>rfl) _
     have X:M wC:=⟨H.cell m.1 U,H.cell m.2 U⟩;have HN:Hid (BH id st w (i+1) wC):=by
      refine⟨H.keep (F.keep k.out.1 jI) (by omega),?_,?_,?_⟩
      ·rw[j,D1,HP.out];simp
      ·rw[G.out];exact(k.out.2.2.1.trans F fI).setRow _ (fun h=>by omega) _
      ·intro q hq;rw[D1,HP.out]at hq;rcases Cv.1 hq with h|h
       ·exact k.out.2.2.2 q h
       ·simp at h;subst h;omega
     refine cj 10 ?_;refine aA (o:=⟨none,.store 58 (.tmp 59) (.tmp 57),_,_,_,none⟩) (w':=wC) rfl rfl (ar 58 _ _ rfl ⟨w.heap.size+1,2+i*2,none⟩ _ rfl rfl f) ⟨X,?_⟩;simp only[Act.put];refine dn ?_;clear B D m X C E H F b j f G T c0 c1;go_wp2;go_roundw;case rel=>exact⟨i+1,by omega,by go_num,HN⟩
     case measure=>simp[intOf];omega
  ·obtain rfl:i=st.length:=by omega
   have Y:aO id st=true:=by unfold aO;refine Dg ⟨h1,h2,h3,I,?_⟩;have:=k.out.2.2.2;rwa[Dj]at this
   have b:wr.heap[w.heap.size+1]?=some (.cells (av id st.length (bz st)).toArray 122 (0,0)):=by have:=k.out.2.1;rwa[Dj]at this
   have f:=au (P:=prog) (o:=0) (ty:=122) (vs:=av id st.length (bz st)) k.out.1 (by simp[bD,bf,iO,I]) (eD _ _ _) (by rw[bK,bD _ _ _ (bf st I)]);have Z:splice iO 0 (av id st.length (bz st))=av id st.length (bz st):=by unfold splice;simp[bD,bf,iO,I]
   rw[Z]at f;have l:=CA wr w.heap.size _ (av id st.length (bz st)).toArray 122 (0,0) k.out.1;obtain⟨r,d⟩:=aw (wr.setRow w.heap.size (av id st.length (bz st)).toArray);have t:Hid (Fr (fun _=>False) w r):=by rw[d.out];exact k.out.2.2.1.setRow _ (fun h=>by omega) _
   rw[←d.out]at f l;have s:∀(tmps:Array Value),tmps.getD 4 undef= .pointer (some ⟨w.heap.size,0,none⟩)→tmps.getD 5 undef= .nilIface→(results Tryz.f57 tmps).run prog r= .ok (.tuple #[.agg (av id st.length (bz st)).toArray,.nilIface]) r:=fun tmps Q h5=>by rw[←h5];exact ay Tryz.results57 tmps _ w.heap.size 122 _ (0,0) _ Q l underlying122 rfl (by rw[bK,Df,bD _ _ _ (bf st I)])
   have a2:Hid ((prog.info? 122).map (·.size)=some (av id st.length (bz st)).toArray.size):=by unfold Hid;rw[bK,Df,bD _ _ _ (bf st I)]
   have a3:=af Y;clear Y Z d;go_wp2_with (first|(refine wpList_load_row rfl 122 _ rfl (w.heap.size+1) ?_ 122 (av id st.length (bz st)).toArray (0,0) _ b underlying122 rfl a2.out ?_;rfl)|(refine ae 122 (w':=r) _ _ rfl rfl ?_ ?_;exact f));refine CJ (s _ rfl rfl) rfl ⟨.inl ⟨a3.out,rfl⟩,t.out⟩
theorem fm{w:World}{a:Option Addr}{cap:Nat}{st:List SS}(b:aY w a 2 (st.map dj))(id:Int):Calls prog 57 #[.int .i64 id,.slice a st.length cap] w fun e c=>BA id st w e c:=by
 by_cases d:id<1∨1000<id∨(st.length:Int)<1∨(6:Int)<st.length
 ·exact qc id d
 ·exact rB b id (by omega) (by omega) (by omega) (by omega)
theorem uw(C i n:Nat)(h:i+n≤124)(g:0<n)(w:World):(Instr.sliceAt 182 (.pointer (some ⟨C,0,none⟩)) (some (.int .i64 i)) (some (.int .i64 (i+n))) (some (.int .i64 (i+n)))).run prog w= .ok (.slice (some ⟨C,i,none⟩) n n) w:=by
 have b:prog.arrayLen 182=124:=by kernel_rfl
 have c:(sizeOf (prog.elem 182)).run prog w= .ok 1 w:=by kernel_rfl
 rw[run_sliceAt_array_lhm w 182 ⟨C,0,none⟩ (by kernel_rfl) .i64 .i64 .i64 i (i+n) (i+n) (by omega) (by omega) (by omega) (by rw[b];omega),c];have d:((i:Int)+n).toNat=i+n:=by omega
 have e:(i:Int).toNat=i:=by omega
 have f:¬i+n=i:=by omega
 simp only[CS,slicedAt,d,e,Cz f,DJ,FS];rcases FP i with rfl|hi
 ·rfl
 ·have a:¬i=0:=by omega
  simp[Addr.add,a]
theorem gD(w:World)(g i n:Nat)(h:i+n≤124)(a:0<n):Calls prog 97 #[.pointer (some ⟨g,0,none⟩),.int .i64 i,.int .i64 n] w fun e b=>e= .returned (.slice (some ⟨g,i,none⟩) n n)∧b=w:=by have c:=uw g i n h a w;go_enter func97,ntmps97;go_wp2_with (refine aR 182 (.tmp 8) (some (.tmp 9)) (some (.tmp 12)) (some (.tmp 15)) (v:= .slice (some ⟨g,i,none⟩) n n) (w':=w) rfl rfl ?_ ?_;exact c);go_ret;exact⟨rfl,rfl⟩
theorem yf(C i n:Nat)(h:i+n≤128)(g:0<n)(w:World):(Instr.sliceAt 130 (.pointer (some ⟨C,0,none⟩)) (some (.int .i64 i)) (some (.int .i64 (i+n))) (some (.int .i64 (i+n)))).run prog w= .ok (.slice (some ⟨C,i,none⟩) n n) w:=by
 have b:prog.arrayLen 130=128:=by kernel_rfl
 have c:(sizeOf (prog.elem 130)).run prog w= .ok 1 w:=by kernel_rfl
 rw[run_sliceAt_array_lhm w 130 ⟨C,0,none⟩ (by kernel_rfl) .i64 .i64 .i64 i (i+n) (i+n) (by omega) (by omega) (by omega) (by rw[b];omega),c];have d:((i:Int)+n).toNat=i+n:=by omega
 have e:(i:Int).toNat=i:=by omega
 have f:¬i+n=i:=by omega
 simp only[CS,slicedAt,d,e,Cz f,DJ,FS];rcases FP i with rfl|hi
 ·rfl
 ·have a:¬i=0:=by omega
  simp[Addr.add,a]
theorem tJ(w:World)(g i n:Nat)(h:i+n≤128)(a:0<n):Calls prog 141 #[.pointer (some ⟨g,0,none⟩),.int .i64 i,.int .i64 n] w fun e b=>e= .returned (.slice (some ⟨g,i,none⟩) n n)∧b=w:=by have c:=yf g i n h a w;go_enter func141,ntmps141;go_wp2_with (refine aR 130 (.tmp 8) (some (.tmp 9)) (some (.tmp 12)) (some (.tmp 15)) (v:= .slice (some ⟨g,i,none⟩) n n) (w':=w) rfl rfl ?_ ?_;exact c);go_ret;exact⟨rfl,rfl⟩
def tL(cs:List Value)(i:Nat):List Value:=(cs.drop (i*32+1)).take 31
def sh(cs:List Value)(i:Nat):List Value:=((List.range i).map (tL cs)).flatten
def jj(cs:List Value)(i:Nat):List Value:=sh cs i++List.replicate (124-i*31) (Value.int .u8 0)
theorem oP(cs:List Value)(a:cs.length=128)(i:Nat)(h:i<4):(tL cs i).length=31:=by simp[tL,a];omega
theorem nT(cs:List Value)(i:Nat):sh cs (i+1)=sh cs i++tL cs i:=by simp[sh,List.range_succ]
theorem pk(cs:List Value)(a:cs.length=128)(i:Nat)(h:i≤4):(sh cs i).length=i*31:=by
 induction i with
 |zero=>rfl
 |succ i b=>rw[nT,Cr,b (by omega),oP cs a i (by omega)];omega
theorem fV(cs:List Value)(a:cs.length=128)(i:Nat)(h:i≤4):(jj cs i).length=124:=by rw[jj,Cr,pk cs a i h,Dm];omega
theorem xX(cs:List Value)(a:cs.length=128)(i:Nat)(h:i<4):(jj cs i).take (i*31)++(tL cs i++(jj cs i).drop (i*31+(tL cs i).length))=jj cs (i+1):=by have b:=pk cs a i (by omega);rw[oP cs a i h,jj,jj,nT,←b,List.take_left,DN,b,EP (by omega),Dr,Ep,FD];congr 3;omega
theorem tX(cs:List Value)(a:∀v∈cs,v.oneCell'=true)(i:Nat):∀v∈tL cs i,v.oneCell'=true:=fun v b=>a v (D8 (CU b))
theorem zJ(cs:List Value)(b:∀v∈cs,v.oneCell'=true)(i:Nat):∀v∈jj cs i,v.oneCell'=true:=fun v a=>by
 simp only[jj,sh,Cv,Ee,Cx,D6]at a;rcases a with⟨x,⟨j,_,rfl⟩,c⟩|⟨_,rfl⟩
 ·exact tX cs b j v c
 ·rfl
theorem dQ:(prog.info? 182).map (·.size)=some 124:=by kernel_rfl
def Bs(cs:List Value)(w:World)(i:Nat)(wr:World):Prop:=wr.heap[w.heap.size]?=some (.cells cs.toArray 130 (0,0))∧wr.heap[w.heap.size+1]?=some (.cells (jj cs 0).toArray 182 (0,0))∧wr.heap[w.heap.size+1+1]?=some (.cells (jj cs i).toArray 182 (0,0))∧Fr (fun _=>False) w wr
theorem nt(w:World)(cs:List Value)(d:cs.length=128)(t:∀v∈cs,v.oneCell'=true):Calls prog 164 #[.agg cs.toArray] w fun e l=>e= .returned (.agg (jj cs 4).toArray)∧Fr (fun _=>False) w l:=by
 have u:=af t;clear t;have B:Hid (Bs cs w 0 (((w.alloc (.cells cs.toArray 130)).alloc (.cells (jj cs 0).toArray 182)).alloc (.cells (jj cs 0).toArray 182))):=⟨by rw[ai _ _ _ (by simp;omega),ai _ _ _ (by simp)];exact aa _ _,by rw[ai _ _ _ (by simp)];exact Di w _ _,by
  have:=aa ((w.alloc (.cells cs.toArray 130)).alloc (.cells (jj cs 0).toArray 182)) (.cells (jj cs 0).toArray 182);simpa using this,(((Fr.refl _ _).alloc _).alloc _).alloc _⟩
 go_enter func164,ntmps164;go_wp2;go_loopw [5] (fun c wr=>∃i:Nat,i≤4∧c= .int .i64 i∧Hid (Bs cs w i wr)) (fun c _=>4-(intOf c).toNat);case atStart=>exact⟨0,by omega,rfl,B⟩
 case round=>
  obtain⟨i,hi,rfl,f⟩:=hrel;by_cases m:i<4
  ·have x:(i:Int)<4:=by omega
   have y:∀a,Calls prog 97 #[.pointer (some ⟨w.heap.size+1+1,0,none⟩),.int .i64 ((i:Int)*31),.int .i64 31] a fun e l=>e= .returned (.slice (some ⟨w.heap.size+1+1,i*31,none⟩) 31 31)∧l=a:=fun a=>by have:=gD a (w.heap.size+1+1) (i*31) 31 (by omega) (by omega);push_cast at this;exact this
   have z:∀a,Calls prog 141 #[.pointer (some ⟨w.heap.size,0,none⟩),.int .i64 ((i:Int)*32+1),.int .i64 31] a fun e l=>e= .returned (.slice (some ⟨w.heap.size,i*32+1,none⟩) 31 31)∧l=a:=fun a=>by have:=tJ a w.heap.size (i*32+1) 31 (by omega) (by omega);push_cast at this;exact this
   go_wp2_with fail;refine(y _).mono ?_;rintro e l ⟨rfl,rfl⟩;go_wp2_with fail;refine(z _).mono ?_;rintro e C ⟨rfl,rfl⟩;clear y z;have n:=oP cs d i m;go_wp2_with (first|(refine bC rfl (.tmp 10) (.tmp 14) 85 85 rfl 5 underlying85 ir (w.heap.size+1+1) (i*31) 31 31 ⟨w.heap.size,i*32+1,none⟩ 31 31 rfl rfl (jj cs i).toArray 182 f.out.2.2.1 (tL cs i) ?_ ?_ ?_ ?_ (jj cs (i+1)) (xX cs d i m) ?_;(rw[n];rfl);exact fJ f.out.1 _ _;(rw[n,Df,fV cs d i hi];omega);exact tX cs u.out i;intro a b));have D:Hid (Bs cs w (i+1) a):=by
    have q:=f.out;refine⟨?_,?_,?_,?_⟩
    ·rw[b.out,DB _ _ _ _ (by omega)];exact q.1
    ·rw[b.out,DB _ _ _ _ (by omega)];exact q.2.1
    ·rw[b.out];exact CA _ _ _ _ _ _ q.2.2.1
    ·rw[b.out];exact q.2.2.2.setRow _ (fun h=>by omega) _
   clear b f;go_roundw;case rel=>exact⟨i+1,by omega,by go_num,D⟩
   case measure=>simp[intOf];omega
  ·obtain rfl:i=4:=by omega
   have r:wr.rangeAt (w.heap.size+1+1) 0 (jj cs 4):=fun j v E=>(Cn wr _ (0+j) _ _ _ f.out.2.2.1).trans (by simpa using E);have g:=au (P:=prog) (o:=0) (ty:=182) (vs:=jj cs 4) f.out.2.1 (by rw[fV cs d 4 (by omega),fV cs d 0 (by omega)];omega) (zJ cs u.out 4) (by rw[dQ,fV cs d 4 (by omega)]);rw[show splice (jj cs 0) 0 (jj cs 4)=jj cs 4 from by simp[splice,fV cs d 4,fV cs d 0]]at g;have p:=CA wr (w.heap.size+1) _ (jj cs 4).toArray 182 (0,0) f.out.2.1;obtain⟨A,k⟩:=aw (wr.setRow (w.heap.size+1) (jj cs 4).toArray);have s:Hid (Fr (fun _=>False) w A):=by rw[k.out];exact f.out.2.2.2.setRow _ (fun h=>by omega) _
   rw[←k.out]at g p;clear k;go_wp2_with (first|(refine CC rfl 182 (.tmp 3) rfl (w.heap.size+1+1) 0 ?_ (jj cs 4) _ r underlying182 rfl ?_ ?_;rfl;(rw[dQ,fV cs d 4 (by omega)]))|(refine ae 182 (w':=A) _ _ rfl rfl ?_ ?_;exact g));refine CJ (v:= .agg (jj cs 4).toArray) (Dd Tryz.results164 _ _ (w.heap.size+1) 182 _ (0,0) _ rfl p underlying182 rfl (by rw[dQ];simp[fV cs d 4])) rfl ⟨rfl,s.out⟩
def tE(k:Nat)(a:List Value)(j:Nat):List Value:= .int .u8 k::(a.drop (j*31)).take 31
def iH(k:Nat)(a:List Value)(i:Nat):List Value:=((List.range i).map (tE k a)).flatten
def di(k:Nat)(a:List Value)(i:Nat):List Value:=iH k a i++List.replicate (128-i*32) (Value.int .u8 0)
def xR(k:Nat)(a:List Value)(i:Nat):List Value:=iH k a i++ .int .u8 k::List.replicate (127-i*32) (Value.int .u8 0)
theorem zy(k:Nat)(a:List Value)(b:a.length=124)(i:Nat)(h:i<4):(tE k a i).length=32:=by simp[tE,b];omega
theorem kG(a:List Value)(b:a.length=124)(i:Nat)(h:i<4):((a.drop (i*31)).take 31).length=31:=by simp[b];omega
theorem nP(k:Nat)(a:List Value)(i:Nat):iH k a (i+1)=iH k a i++tE k a i:=by simp[iH,List.range_succ]
theorem gC(k:Nat)(a:List Value)(b:a.length=124)(i:Nat)(h:i≤4):(iH k a i).length=i*32:=by
 induction i with
 |zero=>rfl
 |succ i c=>rw[nP,Cr,c (by omega),zy k a b i (by omega)];omega
theorem bX(k:Nat)(a:List Value)(b:a.length=124)(i:Nat)(h:i≤4):(di k a i).length=128:=by rw[di,Cr,gC k a b i h,Dm];omega
theorem zg(k:Nat)(a:List Value)(b:a.length=124)(i:Nat)(h:i<4):(xR k a i).length=128:=by rw[xR,Cr,gC k a b i (by omega),DA,Dm];omega
theorem zt(k:Nat)(a:List Value)(b:a.length=124)(i:Nat)(h:i<4):(di k a i).toArray.setIfInBounds (i*32) (.int .u8 k)=(xR k a i).toArray:=by have c:=gC k a b i (by omega);rw[di,xR,Eo,Eu _ _ (by omega),c,Em,show 128-i*32=(127-i*32)+1 by omega,EB,F8]
theorem xY(k:Nat)(a:List Value)(b:a.length=124)(i:Nat)(h:i<4):(xR k a i).take (i*32+1)++((a.drop (i*31)).take 31++(xR k a i).drop (i*32+1+((a.drop (i*31)).take 31).length))=di k a (i+1):=by have c:=gC k a b i (by omega);have d:(iH k a i).drop (i*32+1+31)=[]:=EP (by omega);rw[kG a b i h,xR,di,nP,tE];generalize (a.drop (i*31)).take 31=S;rw[Fp,DN,d,c,CO (by omega),show i*32+1-i*32=1 by omega,show i*32+1+31-i*32=31+1 by omega,CQ,FD,Dr];simp;omega
theorem o8(a:List Value)(b:∀v∈a,v.oneCell'=true)(i:Nat):∀v∈(a.drop (i*31)).take 31,v.oneCell'=true:=fun v c=>b v (D8 (CU c))
theorem eF(k:Nat)(a:List Value)(d:∀v∈a,v.oneCell'=true)(i:Nat):∀v∈di k a i,v.oneCell'=true:=fun v c=>by
 simp only[di,iH,Cv,Ee,Cx,D6]at c;rcases c with⟨x,⟨j,_,rfl⟩,b⟩|⟨_,rfl⟩
 ·rcases CF.1 b with rfl|b
  ·rfl
  ·exact o8 a d j v b
 ·rfl
def BT(k:Nat)(a:List Value)(w:World)(l:List Value)(wr:World):Prop:=wr.heap[w.heap.size]?=some (.cells a.toArray 182 (0,0))∧wr.heap[w.heap.size+1]?=some (.cells (di k a 0).toArray 130 (0,0))∧wr.heap[w.heap.size+1+1]?=some (.cells l.toArray 130 (0,0))∧Fr (fun _=>False) w wr
theorem tR(w:World)(k:Nat)(a:List Value)(g:a.length=124)(D:∀v∈a,v.oneCell'=true):Calls prog 98 #[.int .u8 k,.agg a.toArray] w fun e t=>e= .returned (.agg (di k a 4).toArray)∧Fr (fun _=>False) w t:=by
 have E:=af D;clear D;have J:Hid (BT k a w (di k a 0) (((w.alloc (.cells a.toArray 182)).alloc (.cells (di k a 0).toArray 130)).alloc (.cells (di k a 0).toArray 130))):=⟨by rw[ai _ _ _ (by simp;omega),ai _ _ _ (by simp)];exact aa _ _,by rw[ai _ _ _ (by simp)];exact Di w _ _,by
  have:=aa ((w.alloc (.cells a.toArray 182)).alloc (.cells (di k a 0).toArray 130)) (.cells (di k a 0).toArray 130);simpa using this,(((Fr.refl _ _).alloc _).alloc _).alloc _⟩
 go_enter func98,ntmps98;go_wp2;go_loopw [7] (fun c wr=>∃i:Nat,i≤4∧c= .int .i64 i∧Hid (BT k a w (di k a i) wr)) (fun c _=>4-(intOf c).toNat);case atStart=>exact⟨0,by omega,rfl,J⟩
 case round=>
  obtain⟨i,hi,rfl,p⟩:=hrel;by_cases q:i<4
  ·have F:(i:Int)<4:=by omega
   have G:∀l,Calls prog 97 #[.pointer (some ⟨w.heap.size,0,none⟩),.int .i64 ((i:Int)*31),.int .i64 31] l fun e t=>e= .returned (.slice (some ⟨w.heap.size,i*31,none⟩) 31 31)∧t=l:=fun l=>by have:=gD l w.heap.size (i*31) 31 (by omega) (by omega);push_cast at this;exact this
   have H:∀l,Calls prog 141 #[.pointer (some ⟨w.heap.size+1+1,0,none⟩),.int .i64 ((i:Int)*32+1),.int .i64 31] l fun e t=>e= .returned (.slice (some ⟨w.heap.size+1+1,i*32+1,none⟩) 31 31)∧t=l:=fun l=>by have:=tJ l (w.heap.size+1+1) (i*32+1) 31 (by omega) (by omega);push_cast at this;exact this
   have K:(Instr.indexAt 130 (.pointer (some ⟨w.heap.size+1+1,0,none⟩)) (.int .i64 (i*32))).run prog wr= .ok (.pointer (some ⟨w.heap.size+1+1,i*32,none⟩)) wr:=by have:=kh (w.heap.size+1+1) (i*32) (by omega) wr;push_cast at this;exact this
   have d:=p.out.2.2.1;have f:(Instr.storeAt 5 (.pointer (some ⟨w.heap.size+1+1,i*32,none⟩)) (.int .u8 k)).run prog wr= .ok () (wr.setRow (w.heap.size+1+1) (xR k a i).toArray):=by
    have L:wr.cell? ⟨w.heap.size+1+1,i*32,none⟩=some ((di k a i).getD (i*32) undef):=(Cn wr _ (i*32) _ _ _ d).trans (by
     have:i*32<(di k a i).length:=by rw[bX k a g i hi];omega
     simp[List.getD,List.getElem?_eq_getElem this])
    rw[←zt k a g i q,←setCell_eq_setRow wr _ (i*32) _ _ _ _ d];exact ah L (by simp[World.frozen?,d]) (by kernel_rfl) rfl
   have b:=CA wr (w.heap.size+1+1) _ (xR k a i).toArray 130 (0,0) d;obtain⟨A,m⟩:=aw (wr.setRow (w.heap.size+1+1) (xR k a i).toArray);rw[←m.out]at f b;have r:A.heap[w.heap.size]?=some (.cells a.toArray 182 (0,0)):=by rw[m.out,DB _ _ _ _ (by omega)];exact p.out.1
   have u:A.heap[w.heap.size+1]?=some (.cells (di k a 0).toArray 130 (0,0)):=by rw[m.out,DB _ _ _ _ (by omega)];exact p.out.2.1
   have x:Fr (fun _=>False) w A:=by rw[m.out];exact p.out.2.2.2.setRow _ (fun h=>by omega) _
   clear m p d;go_wp2_with (refine ae 5 (w':=A) _ _ rfl rfl ?_ ?_;exact f);refine(H _).mono ?_;rintro e t ⟨rfl,rfl⟩;go_wp2_with fail;refine(G _).mono ?_;rintro e M ⟨rfl,rfl⟩;clear G H f K;have y:=kG a g i q;go_wp2_with (first|(refine bC rfl (.tmp 17) (.tmp 20) 85 85 rfl 5 underlying85 ir (w.heap.size+1+1) (i*32+1) 31 31 ⟨w.heap.size,i*31,none⟩ 31 31 rfl rfl (xR k a i).toArray 130 b ((a.drop (i*31)).take 31) ?_ ?_ ?_ ?_ (di k a (i+1)) (xY k a g i q) ?_;(rw[y];rfl);exact fJ r _ _;(rw[y,Df,zg k a g i q];omega);exact o8 a E.out i;intro l n));have N:Hid (BT k a w (di k a (i+1)) l):=by
    refine⟨?_,?_,?_,?_⟩
    ·rw[n.out,DB _ _ _ _ (by omega)];exact r
    ·rw[n.out,DB _ _ _ _ (by omega)];exact u
    ·rw[n.out];exact CA _ _ _ _ _ _ b
    ·rw[n.out];exact x.setRow _ (fun h=>by omega) _
   clear n r u x b;go_roundw;case rel=>exact⟨i+1,by omega,by go_num,N⟩
   case measure=>simp[intOf];omega
  ·obtain rfl:i=4:=by omega
   have B:wr.rangeAt (w.heap.size+1+1) 0 (di k a 4):=fun j v O=>(Cn wr _ (0+j) _ _ _ p.out.2.2.1).trans (by simpa using O);have f:=au (P:=prog) (o:=0) (ty:=130) (vs:=di k a 4) p.out.2.1 (by rw[bX k a g 4 (by omega),bX k a g 0 (by omega)];omega) (eF k a E.out 4) (by rw[aV,bX k a g 4 (by omega)]);rw[show splice (di k a 0) 0 (di k a 4)=di k a 4 from by simp[splice,bX k a g 4,bX k a g 0]]at f;have z:=CA wr (w.heap.size+1) _ (di k a 4).toArray 130 (0,0) p.out.2.1;obtain⟨I,s⟩:=aw (wr.setRow (w.heap.size+1) (di k a 4).toArray);have C:Hid (Fr (fun _=>False) w I):=by rw[s.out];exact p.out.2.2.2.setRow _ (fun h=>by omega) _
   rw[←s.out]at f z;clear s;go_wp2_with (first|(refine CC rfl 130 (.tmp 5) rfl (w.heap.size+1+1) 0 ?_ (di k a 4) _ B underlying130 rfl ?_ ?_;rfl;(rw[aV,bX k a g 4 (by omega)]))|(refine ae 130 (w':=I) _ _ rfl rfl ?_ ?_;exact f));refine CJ (v:= .agg (di k a 4).toArray) (Dd Tryz.results98 _ _ (w.heap.size+1) 130 _ (0,0) _ rfl z underlying130 rfl (by rw[aV];simp[bX k a g 4])) rfl ⟨rfl,C.out⟩
theorem ub(k:Nat)(a:List Value)(i:Nat)(h:i<4):∃z,di k a 4=iH k a i++(tE k a i++z):=by
 have e:di k a 4=iH k a 4:=by simp[di]
 rw[e];have hi:i=0∨i=1∨i=2∨i=3:=by omega
 rcases hi with rfl|rfl|rfl|rfl
 ·exact⟨tE k a 1++(tE k a 2++tE k a 3),by simp[iH,List.range_succ]⟩
 ·exact⟨tE k a 2++tE k a 3,by simp[iH,List.range_succ]⟩
 ·exact⟨tE k a 3,by simp[iH,List.range_succ]⟩
 ·exact⟨[],by simp[iH,List.range_succ]⟩
theorem iP(k:Nat)(a:List Value)(b:a.length=124)(i:Nat)(h:i<4):(di k a 4)[i*32]?=some (.int .u8 k):=by obtain⟨z,e⟩:=ub k a i h;have c:=gC k a b i (by omega);rw[e,CG (by omega),c,Em];rfl
theorem lD(k:Nat)(a:List Value)(b:a.length=124)(i:Nat)(h:i<4):tL (di k a 4) i=(a.drop (i*31)).take 31:=by obtain⟨z,e⟩:=ub k a i h;have d:=gC k a b i (by omega);have c:=kG a b i h;have f:(iH k a i).drop (i*32+1)=[]:=EP (by omega);rw[tL,e,DN,f,d,show i*32+1-i*32=0+1 by omega,tE];generalize (a.drop (i*31)).take 31=S at c;rw[En,CQ,D2,Dr,←c,List.take_left]
theorem tY(k:Nat)(a:List Value)(b:a.length=124):jj (di k a 4) 4=a:=by
 have e:jj (di k a 4) 4=tL (di k a 4) 0++(tL (di k a 4) 1++(tL (di k a 4) 2++tL (di k a 4) 3)):=by simp[jj,sh,List.range_succ]
 rw[e,lD k a b 0 (by omega),lD k a b 1 (by omega),lD k a b 2 (by omega),lD k a b 3 (by omega)];have c:(a.drop (3*31)).take 31=a.drop (3*31):=CO (by simp[b]);rw[c];have s:∀n,(a.drop n).take 31++a.drop (n+31)=a.drop n:=fun n=>by rw[←List.drop_drop,CX]
 rw[s (2*31),s (1*31),s (0*31)];rfl
def zv:Value:= .int .u8 0
def dR(s:ByteArray):List Value:=Lib.byteCells s.data.toList++List.replicate (8-s.size) zv
def gA(p:SS):List Value:= .int .u8 ((p.1.size*16+p.2.size:Nat):Int)::(dR p.1++dR p.2)
def dD(l:List SS)(i:Nat):List Value:=((l.take i).map gA).flatten
def be(id n:Nat)(l:List SS)(i:Nat):List Value:=[.int .u8 ((id/256:Nat):Int),.int .u8 ((id%256:Nat):Int),.int .u8 (n:Int)]++(dD l i++List.replicate (121-i*17) zv)
theorem ju(s:ByteArray):(Lib.byteCells s.data.toList).length=s.size:=by simp[Lib.byteCells]
theorem eI(s:ByteArray)(h:s.size≤8):(dR s).length=8:=by simp only[dR,Cr,ju,Dm];omega
theorem uS(p:SS)(h:p.1.size≤8∧p.2.size≤8):(gA p).length=17:=by simp only[gA,DA,Cr,eI _ h.1,eI _ h.2]
theorem lh(l:List SS)(i:Nat)(p:SS)(a:l[i]?=some p):dD l (i+1)=dD l i++gA p:=by simp[dD,List.take_add_one,a]
theorem jv(l:List SS)(h:∀p∈l,p.1.size≤8∧p.2.size≤8)(i:Nat)(hi:i≤l.length):(dD l i).length=i*17:=by
 induction i with
 |zero=>rfl
 |succ i b=>
  have a:i<l.length:=by omega
  rw[lh l i _ (Cp a),Cr,b (by omega),uS _ (h _ (Ef a))];omega
theorem eE(id n:Nat)(l:List SS)(h:∀p∈l,p.1.size≤8∧p.2.size≤8)(i:Nat)(hi:i≤l.length)(a:i≤6):(be id n l i).length=124:=by simp only[be,Cr,jv l h i hi,Dm,DA,ES];omega
theorem y9(a b:List Value)(s:ByteArray)(h:s.size≤8):(a++(List.replicate 8 zv++b)).take a.length++(Lib.byteCells s.data.toList++(a++(List.replicate 8 zv++b)).drop (a.length+(Lib.byteCells s.data.toList).length))=a++(dR s++b):=by have c:a.drop (a.length+s.size)=[]:=EP (by omega);rw[ju,List.take_left,DN,c,show a.length+s.size-a.length=s.size by omega,DN,FD,Dm,show s.size-8=0 by omega,D2,dR];simp
theorem sj(id n:Nat)(l:List SS)(i:Nat)(c:i<6):∃b,be id n l i=([.int .u8 ((id/256:Nat):Int),.int .u8 ((id%256:Nat):Int),.int .u8 (n:Int)]++dD l i)++(zv::(List.replicate 8 zv++(List.replicate 8 zv++b)))∧∀p,l[i]?=some p→be id n l (i+1)=([.int .u8 ((id/256:Nat):Int),.int .u8 ((id%256:Nat):Int),.int .u8 (n:Int)]++dD l i)++(.int .u8 ((p.1.size*16+p.2.size:Nat):Int)::(dR p.1++(dR p.2++b))):=by
 refine⟨List.replicate (104-i*17) zv,?_,?_⟩
 ·rw[be,Ep,show 121-i*17=(8+(8+(104-i*17)))+1 by omega,EB,←Fk,←Fk]
 ·intro p a;rw[be,lh l i p a,gA,show 121-(i+1)*17=104-i*17 by omega];simp
end Go.Proofs.YteebjgfalllbjaaGreatDoor
