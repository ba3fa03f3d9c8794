import Derived.Test.YteebjgfalllbjaaGreatDoorK4
import Derived.StillTail
namespace Go.Proofs.YteebjgfalllbjaaGreatDoor
open Go.RowKit Go.Proofs.Tryz
set_option maxRecDepth 100000
set_option maxHeartbeats 2000000
theorem Cb(w:World)(a b c:Obj):Fr (fun _=>False) w (((w.alloc a).alloc b).alloc c)∧(((w.alloc a).alloc b).alloc c).heap[w.heap.size]?=some a∧(((w.alloc a).alloc b).alloc c).heap[w.heap.size+1]?=some b∧(((w.alloc a).alloc b).alloc c).heap[w.heap.size+1+1]?=some c:=by
 refine⟨(((Fr.refl _ _).alloc _).alloc _).alloc _,?_,?_,?_⟩
 ·rw[ai _ _ _ (by simp;omega),ai _ _ _ (by simp)];exact aa _ _
 ·rw[ai _ _ _ (by simp)];exact Di w _ _
 ·have:=aa ((w.alloc a).alloc b) c;simpa using this
theorem dO:(prog.info? 223).map (fun i=>(i.zero,i.size,i.bytes))=some (some (.agg #[.int .i64 0,.slice none 0 0,.int .i64 0,.int .i64 0,.int .i64 0,.int .i64 0,.slice none 0 0]),7,88):=by kernel_rfl
theorem ky:(prog.info? 223).map (·.size)=some 7:=by kernel_rfl
theorem gI:prog.underlying 107=some (.slice (prog.elem 107)):=by kernel_rfl
theorem pc(w:World):(sizeOf (prog.elem 107)).run prog w= .ok 7 w:=by kernel_rfl
theorem xC(b:Option Addr)(n a k:Nat)(c:k≤a)(W:World):(Instr.sliceAt 107 (.slice b n a) none (some (.int .i64 k)) none).run prog W= .ok (.slice b k a) W:=by
 rw[Fh W 107 _ _ _ _ gI,run_slice_h W 107 b n a gI .i64 k (by omega) (by omega),pc];have:(if a=0 then b else b.map (fun x=>x.add (0*7)))=b:=by
  split
  ·rfl
  ·cases b<;>simp[Addr.add]
 simp[sliced,this]
theorem yA(b:Option Addr)(n a k:Nat)(c:k≤n)(W:World):(Instr.sliceAt 107 (.slice b n a) (some (.int .i64 k)) none none).run prog W= .ok (.slice (if a=k then b else b.map (fun x=>x.add (k*7))) (n-k) (a-k)) W:=by rw[Fh W 107 _ _ _ _ gI,run_slice_l W 107 b n a gI .i64 k (by omega) (by omega),pc];simp[sliced]
theorem RS.len(r:RS):r.cs.length=7:=rfl
theorem RS.one(r:RS):∀v∈r.cs,v.oneCell'=true:=by intro v a;simp only[RS.cs,CF,Dy,EF]at a;rcases a with rfl|rfl|rfl|rfl|rfl|rfl|rfl<;>rfl
def az(L:List RS):List Value:=(L.map RS.cs).flatten
theorem er(L:List RS):(az L).length=L.length*7:=by
 induction L with
 |nil=>rfl
 |cons a l b=>
  have e:az (a::l)=a.cs++az l:=by simp[az]
  rw[e,Cr,b,a.len];simp;omega
theorem de(a b:List RS):az (a++b)=az a++az b:=by simp[az]
theorem gR(L:List RS):∀v∈az L,v.oneCell'=true:=by intro v a;simp only[az,Ee,Cx]at a;obtain⟨l,⟨r,_,rfl⟩,h⟩:=a;exact r.one v h
theorem fk(L:List RS)(k:Nat)(a:k≤L.length):(az L).take (k*7)=az (L.take k)∧(az L).drop (k*7)=az (L.drop k):=by
 have h:az L=az (L.take k)++az (L.drop k):=by rw[←de,CX]
 have e:(az (L.take k)).length=k*7:=by rw[er,Cy];congr 1;omega
 exact⟨by rw[h,EA e],by rw[h,List.drop_left' e]⟩
theorem kg{w:World}{b:Nat}{c:Option Addr}{a:Nat}{L:List RS}(h:w.ownsRow b 223 7 (.slice c L.length a) L.length (az L)):aY w c 7 (L.map RS.cs):=fL h (fun x d=>by simp only[Cx]at d;obtain⟨r,_,rfl⟩:=d;rfl) (by simp)
def B1(L:List RS)(b c:Int)(f:Bool)(s:RS)(w:World)(e:Ending)(a:World):Prop:=∃k t v,e= .returned (.agg #[.int .i64 b,.int .i64 c,.bool f,v])∧fM L s.id k t∧a.ownsRow w.heap.size 223 7 v (L.length+1) (az (L.take k++s::L.drop k))∧Fr (fun _=>False) w a
theorem it{w:World}{b:Nat}{v:Value}{L:List RS}(hv:w.ownsRow b 223 7 v L.length (az L))(hn:L.length≤1000000)(r y:Int)(f:Bool)(s:RS):Calls prog 127 #[.agg #[.int .i64 r,.int .i64 y,.bool f,v],.agg s.cs.toArray] w fun e w'=>B1 L r y f s w e w':=by
 obtain⟨m,d,rfl,D,V⟩:=aN hv;obtain⟨Y,Z,a4,a5,a6⟩:=Dn dO;have aM:L.length≤d:=by
  rcases hv.2 with⟨h,_⟩|⟨g,aO,aQ,h,_,_,h2,_⟩
  ·simp at h;omega
  ·simp at h;omega
 have HV:=af hv;obtain⟨id,z,A,st,S,B,C,ma,mc,may⟩:=s;obtain⟨hW,hB,ah,ai⟩:=Cb w (.cells #[.int .i64 r,.int .i64 y,.bool f,.slice m L.length d] 109) (.cells #[.int .i64 id,.slice z st.length A,.int .i64 S.1,.int .i64 S.2,.int .i64 B,.int .i64 C,.slice ma may.length mc] 223) (.cells #[.int .i64 0,.int .i64 0,.bool false,.slice none 0 0] 109);clear hv;unfold RS.cs;go_enter func127,ntmps127;go_wp2_with fail;refine(eK ((kg HV.out).frz hW) hn r y f id).mono ?_;rintro e p ⟨k,t,rfl,hp,E⟩;have HP:=af hp;have hk:=hp.1;have aj:=hW.trans E fI;have a7:=E.keep hB jI;have X:=E.keep ah jI;have F:=E.keep ai jI;have d3:p.cell? ⟨w.heap.size,3,none⟩=some (.slice m L.length d):=by rw[Cn p w.heap.size 3 _ _ _ a7];rfl
 clear hp hB ah ai hW E;obtain⟨aA,ak⟩:=fk L k hk;have aB:(L.take k).length=k:=by rw[Cy];omega
 have al:Hid (∀W:World,Fr (fun _=>False) w W→∀g,m=some ⟨g,0,none⟩→∀j u,(az L)[j]?=some u→W.cell? ⟨g,j,none⟩=some u):=fun W hF g hg j u G=>by subst hg;have:=HV.out.cells (g:=g) rfl j u G;rw[DF,D5]at this;exact hF.cell this jI
 have a8:∀H,m=some H→∃g,H=⟨g,0,none⟩:=fun H h=>by obtain⟨h1,h2⟩:=V H h;obtain⟨g,o,sp⟩:=H;simp only at h1 h2;exact⟨g,by rw[h1,h2]⟩
 have aC:=af a8;have an:=af D;have M:=af aj;have aD:Hid (∀W:World,Fr (fun _=>False) p W→W.cell? ⟨w.heap.size+1,0,none⟩=some (.int .i64 id)∧W.cell? ⟨w.heap.size+1,1,none⟩=some (.slice z st.length A)∧W.cell? ⟨w.heap.size+1,2,none⟩=some (.int .i64 S.1)∧W.cell? ⟨w.heap.size+1,3,none⟩=some (.int .i64 S.2)∧W.cell? ⟨w.heap.size+1,4,none⟩=some (.int .i64 B)∧W.cell? ⟨w.heap.size+1,5,none⟩=some (.int .i64 C)∧W.cell? ⟨w.heap.size+1,6,none⟩=some (.slice ma may.length mc)):=fun W hF=>by have hb:=hF.keep X jI;refine⟨?_,?_,?_,?_,?_,?_,?_⟩<;>(rw[Cn W (w.heap.size+1) _ _ _ _ hb];rfl)
 have ap:Hid (∀W:World,Fr (fun _=>False) p W→W.heap[w.heap.size]?=some (.cells #[.int .i64 r,.int .i64 y,.bool f,.slice m L.length d] 109 (0,0))∧W.cell? ⟨w.heap.size,3,none⟩=some (.slice m L.length d)):=fun W hF=>by have hb:=hF.keep a7 jI;exact⟨hb,by rw[Cn W w.heap.size 3 _ _ _ hb];rfl⟩
 obtain⟨xa,N⟩:∃xa,(if d=k then m else m.map (fun x=>x.add (k*7)))=xa:=⟨_,rfl⟩;have aE:Hid (∀W:World,(Instr.sliceAt 107 (.slice m L.length d) (some (.int .i64 k)) none none).run prog W= .ok (.slice xa (L.length-k) (d-k)) W):=fun W=>by rw[←N];exact yA m L.length d k hk W
 have aF:Hid (xa=none→L.length-k=0∧d-k=0):=fun h=>by
  have:m=none:=by
   rw[←N]at h;split at h
   ·exact h
   ·simpa using h
  have:=D this;omega
 have aG:Hid (∀W:World,Fr (fun _=>False) w W→∀H,xa=some H→∀j u,(az (L.drop k))[j]?=some u→W.cell? (H.add j)=some u):=fun W hF H i j u G=>by
  rw[←N]at i;split at i
  ·exfalso;have:L.drop k=[]:=CP (by omega);rw[this]at G;simp[az]at G
  ·cases q:m with
   |none=>rw[q]at i;simp at i
   |some a0=>
    obtain⟨g,rfl⟩:=a8 a0 q;rw[q]at i;simp only[Option.map_some,Cu,DF,D5]at i;subst i;rw[DF];refine al.out W hF g q (k*7+j) u ?_;rw[←ak,E3]at G;exact G
 have aq:Hid (az (L.take k)++[.int .i64 id,.slice z st.length A,.int .i64 S.1,.int .i64 S.2,.int .i64 B,.int .i64 C,.slice ma may.length mc]++az (L.drop k)=az (L.take k++⟨id,z,A,st,S,B,C,ma,mc,may⟩::L.drop k)):=by show _=_;rw[de];simp[az,RS.cs]
 have aH:(az (L.drop k)).length=(L.length-k)*7:=by rw[er,Dx]
 have ar:Hid (∀(W:World) (v:Value),Fr (fun _=>False) p W→(W.setCell ⟨w.heap.size,3,none⟩ v).heap[w.heap.size+1+1]?=some (.cells #[.int .i64 0,.int .i64 0,.bool false,.slice none 0 0] 109 (0,0))):=fun W v hF=>by rw[aK _ _ _ _ (by simp;omega)];exact hF.keep F jI
 have aI:=af (lt_of_heap F);have aJ:Hid (∀(W:World) (a:Option Addr) (n c:Nat),Fr (fun _=>False) p W→(Instr.storeAt 109 (.pointer (some ⟨w.heap.size+1+1,0,none⟩)) (.agg #[.int .i64 r,.int .i64 y,.bool f,.slice a n c])).run prog (W.setCell ⟨w.heap.size,3,none⟩ (.slice a n c))= .ok () ((W.setCell ⟨w.heap.size,3,none⟩ (.slice a n c)).setRow (w.heap.size+1+1) #[.int .i64 r,.int .i64 y,.bool f,.slice a n c])):=fun W a n c hF=>by have:=au (P:=prog) (o:=0) (ty:=109) (cur:=[.int .i64 0,.int .i64 0,.bool false,.slice none 0 0]) (vs:=[.int .i64 r,.int .i64 y,.bool f,.slice a n c]) (ar.out W (.slice a n c) hF) (by simp) (by simp[Value.oneCell']) (by kernel_rfl);exact this
 clear a7 X F V a8 D aj N ak;go_wp2_with (first
  |(refine aR 107 _ _ _ _ rfl rfl (by exact xC m L.length d k (by omega) _) ?_)
  |(at_builtin;refine cB rfl _ _ 107 rfl p.heap.size 223 Y _ 7 88 underlying107 Z a4 a5 a6 rfl (by decide) (.slice none 0 0) 0 [] rfl (CT _ _ _ _) m k d (az (L.take k)) rfl ?_ ?_ ?_ (gR _) ?_ ?_ ?_ ?_;(intro h;have:=an.out h;omega);(rw[er,aB]);(intro H i j u G;obtain⟨g,rfl⟩:=aC.out H i;rw[DF,D5];refine al.out _ M.out g i j u ?_;rw[←aA,DE]at G;split at G;exact G;cases G);(unfold maxLen;omega);omega;exact Cs _;intro v1 O Q av;have a9:Fr (fun _=>False) p O:=(Fr.refl _ _).grown av (fun _ _ h=>by cases h);clear av;obtain⟨a1,c1,rfl,-,-⟩:=aN Q;obtain⟨s0,s1,s2,s3,s4,s5,s6⟩:=aD.out O a9;simp only[D5,Dr]at Q;have I:Hid ((O.alloc (.cells #[.int .i64 id,.slice z st.length A,.int .i64 S.1,.int .i64 S.2,.int .i64 B,.int .i64 C,.slice ma may.length mc] 223)).ownsRow p.heap.size 223 7 (.slice a1 k c1) k (az (L.take k))∧Fr (fun _=>False) p (O.alloc (.cells #[.int .i64 id,.slice z st.length A,.int .i64 S.1,.int .i64 S.2,.int .i64 B,.int .i64 C,.slice ma may.length mc] 223))∧(∀j u,[Value.int .i64 id,.slice z st.length A,.int .i64 S.1,.int .i64 S.2,.int .i64 B,.int .i64 C,.slice ma may.length mc][j]?=some u→(O.alloc (.cells #[.int .i64 id,.slice z st.length A,.int .i64 S.1,.int .i64 S.2,.int .i64 B,.int .i64 C,.slice ma may.length mc] 223)).cell? ((⟨O.heap.size,0,none⟩:Addr).add j)=some u)):=⟨Q.alloc _,a9.alloc _,CZ (cs:=#[.int .i64 id,.slice z st.length A,.int .i64 S.1,.int .i64 S.2,.int .i64 B,.int .i64 C,.slice ma may.length mc]) (aa O _)⟩;clear Q a9)
  |(at_builtin;refine DD (O.alloc (.cells #[.int .i64 id,.slice z st.length A,.int .i64 S.1,.int .i64 S.2,.int .i64 B,.int .i64 C,.slice ma may.length mc] 223)) rfl _ _ 107 rfl p.heap.size 223 Y _ 7 88 underlying107 Z a4 a5 a6 rfl (by decide) (.slice a1 k c1) k (az (L.take k)) rfl I.out.1 ⟨O.heap.size,0,none⟩ 1 1 [.int .i64 id,.slice z st.length A,.int .i64 S.1,.int .i64 S.2,.int .i64 B,.int .i64 C,.slice ma may.length mc] rfl rfl I.out.2.2 ?_ ?_ ?_ ?_ ?_;(simp[Value.oneCell']);(unfold maxLen;omega);omega;(exact I.out.2.1.size);intro v2 w4 R aw _;have J:=I.out.2.1.grown aw (fun j hj h=>by(have:=(I.out.1.lt j h).1;exact absurd hj (by omega)));clear aw;obtain⟨a2,c2,rfl,-,-⟩:=aN R;have e3:=(ap.out w4 J).2;clear s0 s1 s2 s3 s4 s5 s6 d3)
  |(refine aR 107 _ _ _ _ rfl rfl (by exact aE.out _) ?_)
  |(at_builtin;refine cB rfl _ _ 107 rfl p.heap.size 223 Y _ 7 88 underlying107 Z a4 a5 a6 rfl (by decide) (.slice a2 (k+1) c2) (k+1) _ rfl R xa (L.length-k) (d-k) (az (L.drop k)) rfl aF.out aH ?_ (gR _) ?_ ?_ ?_ ?_;(exact aG.out w4 (M.out.trans J fI));(unfold maxLen;omega);omega;exact J.size;intro v3 l ab ax;have ag:=J.grown ax (fun j hj h=>by(have:=(R.lt j h).1;exact absurd hj (by omega)));clear ax;obtain⟨T,c3,rfl,-,-⟩:=aN ab;obtain⟨K,f3⟩:=ap.out l ag;have aS:=CN l w.heap.size 3 _ _ K;have f0:l.cell? ⟨w.heap.size,0,none⟩=some (.int .i64 r):=(Cn l w.heap.size 0 _ _ _ K).trans rfl;have f1:l.cell? ⟨w.heap.size,1,none⟩=some (.int .i64 y):=(Cn l w.heap.size 1 _ _ _ K).trans rfl;have f2:l.cell? ⟨w.heap.size,2,none⟩=some (.bool f):=(Cn l w.heap.size 2 _ _ _ K).trans rfl;have U:Hid (l.ownsRow p.heap.size 223 7 (.slice T (k+1+(L.length-k)) c3) (k+1+(L.length-k)) (az (L.take k)++[.int .i64 id,.slice z st.length A,.int .i64 S.1,.int .i64 S.2,.int .i64 B,.int .i64 C,.slice ma may.length mc]++az (L.drop k))∧Fr (fun _=>False) p l):=⟨ab,ag⟩;clear R J ab ag e3 K)
  |(refine ae 109 (w':=(l.setCell ⟨w.heap.size,3,none⟩ (.slice T (k+1+(L.length-k)) c3)).setRow (w.heap.size+1+1) #[.int .i64 r,.int .i64 y,.bool f,.slice T (k+1+(L.length-k)) c3]) _ _ rfl rfl ?_ ?_;exact aJ.out l T _ c3 U.out.2))
 simp only[Act.put];have hE:=CA (l.setCell ⟨w.heap.size,3,none⟩ (.slice T (k+1+(L.length-k)) c3)) (w.heap.size+1+1) _ #[.int .i64 r,.int .i64 y,.bool f,.slice T (k+1+(L.length-k)) c3] 109 (0,0) (ar.out l _ U.out.2);refine CJ (v:= .agg #[.int .i64 r,.int .i64 y,.bool f,.slice T (k+1+(L.length-k)) c3]) (Dd Tryz.results127 _ _ (w.heap.size+1+1) 109 _ (0,0) _ rfl hE underlying109 rfl (by kernel_rfl)) rfl ?_;have ay:k+1+(L.length-k)=L.length+1:=by omega
 have ho:=U.out.1;rw[aq.out]at ho;have aL:Fr (fun _=>False) w ((l.setCell ⟨w.heap.size,3,none⟩ (.slice T (k+1+(L.length-k)) c3)).setRow (w.heap.size+1+1) #[.int .i64 r,.int .i64 y,.bool f,.slice T (k+1+(L.length-k)) c3]):=((M.out.trans U.out.2 fI).setCell _ (fun h=>by simp at h) _).setRow _ (fun h=>by omega) _;refine⟨k,t,_,rfl,HP.out,?_,aL⟩;rw[ay]at ho⊢;have aP:=aI.out;refine bg (bY (S:=fun b=>b=w.heap.size∨b=w.heap.size+1+1) ho ((((Fr.refl _ _).setCell _ (fun _=> .inl rfl) _)).setRow _ (fun _=> .inr rfl) _) ?_) M.out.size;rintro b hb (e|e)<;>omega
def yc:Value:= .string ⟨#[]⟩
def iX:ByteArray:=⟨#[98,101,121,111,110,100]⟩
def tG:ByteArray:=⟨#[103,111,110,101]⟩
def an(st:List SS):List Value:=(st.map dj).flatten
theorem bW(st:List SS):(an st).length=st.length*2:=by
 induction st with
 |nil=>rfl
 |cons a l b=>
  have e:an (a::l)=dj a++an l:=by simp[an]
  rw[e,Cr,b];simp[dj];omega
theorem dh(a b:List SS):an (a++b)=an a++an b:=by simp[an]
theorem te(k:Nat)(p:SS):an (List.replicate (k+1) p)=dj p++an (List.replicate k p):=by simp[an,List.replicate_succ]
def eX:SS:=(iX,⟨#[]⟩)
def bB:SS:=(⟨#[]⟩,⟨#[]⟩)
theorem kM(a b:List SS)(p q:SS):splice (an (a++q::b)) (a.length*2) (dj p)=an (a++p::b):=by
 have e:an (a++q::b)=an a++(dj q++an b):=by rw[dh];simp[an]
 have d:an (a++p::b)=an a++(dj p++an b):=by rw[dh];simp[an]
 have c:=bW a;rw[e,d,splice,EA c,DN,c,CP (by rw[c];simp[dj])];simp[dj]
theorem rK:(prog.info? 58).map (fun i=>(i.zero,i.size,i.bytes))=some (some (.agg #[.string ⟨#[]⟩,.string ⟨#[]⟩]),2,32):=by kernel_rfl
theorem rD(n:Nat):(madeCells #[.string ⟨#[]⟩,.string ⟨#[]⟩] (n*2)).toList=an (List.replicate n bB):=by
 have a:∀j,j<n*2→(madeCells #[.string ⟨#[]⟩,.string ⟨#[]⟩] (n*2))[j]?=some yc:=fun j b=>by
  have c:j%2=0∨j%2=1:=by omega
  have d:(#[Value.string ⟨#[]⟩,.string ⟨#[]⟩]:Array Value)[j%2]! =yc:=by rcases c with h|h<;>rw[h]<;>rfl
  simp only[madeCells];rw[Array.getElem?_map,Array.getElem?_range,CE b];exact Ej some d
 have e:∀(n i:Nat),i<n*2→(an (List.replicate n bB))[i]?=some yc:=by
  intro n;induction n with
  |zero=>intro i hi;omega
  |succ k f=>
   intro i hi;rw[te];match i with
   |0=>rfl
   |1=>rfl
   |i+2=>
    have:=f i (by omega);simpa[dj]using this
 apply DX;intro i;by_cases h:i<n*2
 ·rw[Fl,a i h,e n i h]
 ·rw[Da (by rw[DM,FN];omega),Da (by rw[bW];simp;omega)]
theorem sO{w:World}{a e size g n:Nat}{c:List Value}(h:w.ownsRow a e size (.slice (some ⟨g,0,none⟩) n n) n c):w.heap[g]?=some (.cells c.toArray e (0,0)):=by
 rcases h.2 with⟨b,_⟩|⟨k,f,d,b,l,i,_,_,m,j⟩
 ·cases b
 ·simp only[DW,Cu,Ec,ER,FK]at b;obtain⟨rfl,rfl⟩:=b;rw[i];have:d=c.toArray:=by rw[←j,CO (by simp;omega)]
  rw[this]
theorem ov(p:SS):∀v∈dj p,v.oneCell'=true:=by intro v a;simp only[dj,CF,Dy,EF]at a;rcases a with rfl|rfl<;>rfl
theorem dV{w:World}{g i:Nat}{a b:List SS}{q:SS}(p:SS)(c:w.heap[g]?=some (.cells (an (a++q::b)).toArray 58 (0,0)))(hi:a.length=i):(Instr.storeAt 58 (.pointer (some ⟨g,i*2,none⟩)) (.agg #[.string p.1,.string p.2])).run prog w= .ok () (w.setRow g (an (a++p::b)).toArray):=by subst hi;have:=au (P:=prog) (o:=a.length*2) (ty:=58) (vs:=dj p) c (by rw[bW];simp[dj];omega) (ov p) (by kernel_rfl);rw[kM]at this;exact this
def An(st:List SS)(w:World)(e:Ending)(a:World):Prop:=∃g,e= .returned (.slice (some ⟨g,0,none⟩) st.length (st.length+2))∧w.heap.size≤g∧a.heap[g]?=some (.cells (an (st++[eX,eX])).toArray 58 (0,0))∧Fr (fun _=>False) w a
theorem kJ{w:World}{G:Option Addr}{y:Nat}{st:List SS}(H:aY w G 2 (st.map dj))(V:st.length≤1000000):Calls prog 123 #[.slice G st.length y] w fun e S=>An st w e S:=by
 obtain⟨T,hi,z,A,B⟩:=Dn rK;have I:=af H;clear H;go_enter func123,ntmps123;go_wp2_with (first|(at_make;refine wpList_make_full w rfl _ _ 38 rfl w.heap.size 58 T (.agg #[.string ⟨#[]⟩,.string ⟨#[]⟩]) 2 underlying38 hi z A .i64 .i64 ((st.length:Int)+2) ((st.length:Int)+2) (st.length+2) rfl rfl (by omega) (by omega) ?_ ?_ ?_ ?_;(rw[B];omega);(unfold maxLen;omega);exact Cs _;intro J L M;have N:Hid (J.heap[w.heap.size]?=some (.cells (an (List.replicate (st.length+2) bB)).toArray 58 (0,0))∧Fr (fun _=>False) w J):=⟨by(have h:=sO L;rw[show(Value.agg #[.string ⟨#[]⟩,.string ⟨#[]⟩]).cells=#[.string ⟨#[]⟩,.string ⟨#[]⟩] from rfl,rD]at h;exact h),(Fr.refl _ _).grown M (fun _ _ h=>by cases h)⟩;clear L M));go_loopw [5] (fun c wr=>∃i:Nat,i≤st.length∧c= .int .i64 i∧Hid (wr.heap[w.heap.size]?=some (.cells (an (st.take i++List.replicate (st.length+2-i) bB)).toArray 58 (0,0))∧Fr (fun _=>False) w wr)) (fun c _=>st.length-(intOf c).toNat);case atStart=>exact⟨0,CH _,rfl,by simpa using N⟩
 case round=>
  obtain⟨i,U,rfl,r⟩:=hrel;by_cases C:i<st.length
  ·have t:(i:Int)<st.length:=by omega
   have O:(i:Int)<(st.length:Int)+2:=by omega
   obtain⟨p,D⟩:∃p,st[i]?=some p:=⟨_,Cp C⟩;obtain⟨g,off,rfl,E⟩:=I.out i (dj p) (by simp[D]);have c0:wr.cell? ⟨g,off+i*2,none⟩=some (.string p.1):=r.out.2.cell (E 0 _ rfl) jI;have c1:=r.out.2.cell (E 1 _ rfl) jI;have d:=r.out.1;rw[show st.length+2-i=(st.length+1-i)+1 by omega,EB]at d;have u:=dV (w:=wr.drew) (i:=i) p d (by rw[Cy];omega);have P:st.take i++p::List.replicate (st.length+1-i) bB=st.take (i+1)++List.replicate (st.length+2-(i+1)) bB:=by rw[D1,D];simp
   have k:=CA wr.drew w.heap.size _ (an (st.take i++p::List.replicate (st.length+1-i) bB)).toArray 58 (0,0) d;have Q:Hid ((wr.drew.setRow w.heap.size (an (st.take i++p::List.replicate (st.length+1-i) bB)).toArray).heap[w.heap.size]?=some (.cells (an (st.take (i+1)++List.replicate (st.length+2-(i+1)) bB)).toArray 58 (0,0))∧Fr (fun _=>False) w (wr.drew.setRow w.heap.size (an (st.take i++p::List.replicate (st.length+1-i) bB)).toArray)):=⟨by rw[k,P],r.out.2.drew.setRow _ (fun h=>by omega) _⟩;obtain⟨s,j⟩:=aw (wr.drew.setRow w.heap.size (an (st.take i++p::List.replicate (st.length+1-i) bB)).toArray);rw[←j.out]at u Q;clear E d k P j D;go_wp2;refine wp_region_still_tail 14 (by kernel_rfl) (by kernel_rfl) (Bx.out ?_);simp only[CW,Dc,CQ,D2];repeat(refine bu (fun K R=>?_);go_simp;refine R _ ?_;clear R K)
   refine bI ?_;refine ae 58 (w':=s) _ _ rfl rfl ?_ ?_;exact u;go_wp2;go_roundw;case rel=>exact⟨i+1,by omega,by go_num,Q⟩
   case measure=>simp[intOf];omega
  ·have t:¬(i:Int)<st.length:=by omega
   obtain rfl:i=st.length:=by omega
   have d:=r.out.1;rw[Dj,show st.length+2-st.length=2 by omega]at d;have n:=dV (a:=st) (b:=[bB]) (q:=bB) (i:=st.length) eX d rfl;have f:=CA wr w.heap.size _ (an (st++eX::[bB])).toArray 58 (0,0) d;obtain⟨s,j⟩:=aw (wr.setRow w.heap.size (an (st++eX::[bB])).toArray);have v:Fr (fun _=>False) w s:=by rw[j.out];exact r.out.2.setRow _ (fun h=>by omega) _
   rw[←j.out]at n f;rw[show st++eX::[bB]=(st++[eX])++bB::[] by simp]at f;have o:=dV (a:=st++[eX]) (b:=[]) (q:=bB) (i:=st.length+1) eX f (by simp);have l:=CA s w.heap.size _ (an ((st++[eX])++[eX])).toArray 58 (0,0) f;obtain⟨F,m⟩:=aw (s.setRow w.heap.size (an ((st++[eX])++[eX])).toArray);have x:Hid (Fr (fun _=>False) w F∧F.heap[w.heap.size]?=some (.cells (an (st++[eX,eX])).toArray 58 (0,0))):=⟨by rw[m.out];exact v.setRow _ (fun h=>by omega) _,by rw[m.out,l];simp⟩;rw[←m.out]at o;clear d f l j m v I N;go_wp2_with (first|(refine ae 58 (w':=s) _ _ rfl rfl ?_ ?_;exact n)|(refine ae 58 (w':=F) _ _ rfl rfl ?_ ?_;exact o));go_ret;exact⟨w.heap.size,rfl,Cs _,x.out.2,x.out.1⟩
end Go.Proofs.YteebjgfalllbjaaGreatDoor
