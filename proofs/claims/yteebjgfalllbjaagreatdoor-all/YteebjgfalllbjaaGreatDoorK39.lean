import Derived.Test.YteebjgfalllbjaaGreatDoorK38
namespace Go.Proofs.YteebjgfalllbjaaGreatDoor
open Go.RowKit Go.Proofs.Tryz
set_option maxRecDepth 100000
set_option maxHeartbeats 2000000
def BU(r:RS)(reply clock pause:Int)(w:World)(e:Ending)(b:World):Prop:=∃a:RS,e= .returned (.agg a.cs.toArray)∧(if r.moves reply then ∃ma mc,a={r with ma:=ma,mc:=mc,may:=r.may++[r.next reply]}∧cm b w.heap.size a else a=r.vain clock pause)∧Fr (fun _=>False) w b
theorem ux{w:World}{D A Pp n:Nat}{nn em fd:Bool}{x Lv:Value}{pause clock:Int}(h:aH w D A Pp n nn em x pause clock fd Lv)(r:RS)(reply:Int)(h2:1≤r.S.2)(h3:r.S.2≤6)(h0:0≤r.tries)(h1:r.tries≤1000000)(aL:0≤clock)(aM:clock≤1000000)(aO:1≤pause)(aP:pause≤64){bm:Nat}(ak:cm w bm r)(b0:r.may.length≤1000000):Calls prog 134 #[.pointer (some ⟨D,0,none⟩),.agg r.cs.toArray,.int .i64 reply,.bool true] w fun e w'=>BU r reply clock pause w e w':=by
 have a5:=af ak;clear ak;have HM:=fun w'=>mH w' r reply;have HV:=fun w'=>lC w' r clock pause h0 h1 aL aM aO aP;have HN:=fun w'=>o6 w' r reply h2 h3;obtain⟨rv,al⟩:=aw (r.vain clock pause);obtain⟨nx,an⟩:=aw (r.next reply);rw[←al.out]at HV;rw[←an.out]at HN;obtain⟨Z,HZ⟩:∃Z:List Value,Hid (Z=[.int .i64 0,.slice none 0 0,.int .i64 0,.int .i64 0,.int .i64 0,.int .i64 0,.slice none 0 0]):=⟨_,rfl⟩;obtain⟨W,HW⟩:=aw ((w.alloc (.cells #[.int .i64 r.id,.slice r.sa r.st.length r.sc,.int .i64 r.S.1,.int .i64 r.S.2,.int .i64 r.tries,.int .i64 r.due,.slice r.ma r.may.length r.mc] 223)).alloc (.cells Z.toArray 223));have hF:Fr (fun _=>False) w W:=by rw[HW.out];exact((Fr.refl _ _).alloc _).alloc _
 have r0:aQ W w.heap.size r:=by unfold aQ;rw[HW.out,ai _ _ _ (by simp)];exact aa _ _
 have r1:W.heap[w.heap.size+1]?=some (.cells Z.toArray 223 (0,0)):=by rw[HW.out];exact Di w _ _
 have ap:Z.length=7:=by rw[HZ.out];rfl
 rw[HZ.out]at HW;unfold RS.cs at*
 go_enter func134,ntmps134;go_wp2_with fail;rw[←HW.out];refine(HM W).mono ?_;rintro e w2 ⟨rfl,P⟩;have G:=hF.trans P fI;have b2:aQ w2 w.heap.size r:=P.keep r0 jI;have z2:=P.keep r1 jI;have a6:=h.fr G jI;obtain⟨s0,s1,s2,s3,s4,s5,s6⟩:=b2.c;have c6:=a6.c6;have c7:=a6.c7;clear HW hF r0 r1 P a6 h;by_cases hm:r.moves reply=true
 ·rw[hm];clear HV;go_wp2_with fail;refine(HN w2).mono ?_;rintro e d ⟨rfl,f⟩;have b3:aQ d w.heap.size r:=f.keep b2 jI;have z3:=f.keep z2 jI;have H:=G.trans f fI;clear s0 s1 s2 s3 s4 s5 s6 c6 c7 b2 z2 G f;have aq:=aa d (.cells #[.int .i64 nx.1,.int .i64 nx.2] 220);have i:Fr (fun _=>False) d (d.alloc (.cells #[.int .i64 nx.1,.int .i64 nx.2] 220)):=(Fr.refl _ _).alloc _;have b4:aQ (d.alloc (.cells #[.int .i64 nx.1,.int .i64 nx.2] 220)) w.heap.size r:=i.keep b3 jI;have z4:=i.keep z3 jI;have Q:=H.trans i fI;obtain⟨s0,s1,s2,s3,s4,s5,s6⟩:=b4.c;obtain⟨ar,au,av,ax,ay⟩:=Dn fp;obtain⟨ao,aR,a7,X,Y⟩:=aN a5.out;have a7:r.ma=ao∧r.mc=aR:=by simpa using a7
  obtain⟨rfl,rfl⟩:=a7;have a0:=af X;have az:=a5.out.1;have aA:Hid (∀ad,r.ma=some ad→∀j u,(dt r.may)[j]?=some u→(d.alloc (.cells #[.int .i64 nx.1,.int .i64 nx.2] 220)).cell? (ad.add j)=some u):=fun ad aB j u hu=>by obtain⟨e1,e2⟩:=Y ad aB;obtain⟨g,o,sp⟩:=ad;simp only at e1 e2;subst e1;subst e2;exact Q.cell (a5.out.cells (g:=g) (by rw[aB];rfl) j u hu) jI
  have I:Hid (aQ (d.alloc (.cells #[.int .i64 nx.1,.int .i64 nx.2] 220)) w.heap.size r∧(d.alloc (.cells #[.int .i64 nx.1,.int .i64 nx.2] 220)).heap[w.heap.size+1]?=some (.cells Z.toArray 223 (0,0))∧Fr (fun _=>False) w (d.alloc (.cells #[.int .i64 nx.1,.int .i64 nx.2] 220))∧(d.alloc (.cells #[.int .i64 nx.1,.int .i64 nx.2] 220)).heap[d.heap.size]?=some (.cells #[.int .i64 nx.1,.int .i64 nx.2] 220 (0,0))):=⟨b4,z4,Q,aq⟩;have a3:∀v∈dt r.may,v.oneCell'=true:=fun v hv=>by simp only[dt,Ee,Cx]at hv;obtain⟨l,⟨p,_,rfl⟩,h⟩:=hv;simp only[wy,CF,Dy,EF]at h;rcases h with rfl|rfl<;>rfl
  have aC:=af a3;have aD:Hid (∀(v1:Value) (a:World),a.ownsRow w.heap.size 220 2 v1 (0+r.may.length) ([]++dt r.may)→(d.alloc (.cells #[.int .i64 nx.1,.int .i64 nx.2] 220)).grownBy a (Value.ownBlock (.slice none 0 0))→∃y c1,v1= .slice y r.may.length c1∧a.ownsRow w.heap.size 220 2 (.slice y r.may.length c1) r.may.length (dt r.may)∧aQ a w.heap.size r∧a.heap[w.heap.size+1]?=some (.cells Z.toArray 223 (0,0))∧Fr (fun _=>False) w a∧a.heap[d.heap.size]?=some (.cells #[.int .i64 nx.1,.int .i64 nx.2] 220 (0,0))):=by intro v1 a z R;have T:Fr (fun _=>False) (d.alloc (.cells #[.int .i64 nx.1,.int .i64 nx.2] 220)) a:=(Fr.refl _ _).grown R (fun _ _ h=>by cases h);simp only[D5,Dr]at z;obtain⟨y,c1,rfl,-,-⟩:=aN z;exact⟨y,c1,rfl,z,T.keep I.out.1 jI,T.keep I.out.2.1 jI,I.out.2.2.1.trans T fI,T.keep I.out.2.2.2 jI⟩
  have a4:=Q.size;have aS:Hid (∀(v2:Value) (a J:World) (y:Option Addr) (c1:Nat),(a.ownsRow w.heap.size 220 2 (.slice y r.may.length c1) r.may.length (dt r.may)∧aQ a w.heap.size r∧a.heap[w.heap.size+1]?=some (.cells Z.toArray 223 (0,0))∧Fr (fun _=>False) w a∧a.heap[d.heap.size]?=some (.cells #[.int .i64 nx.1,.int .i64 nx.2] 220 (0,0)))→J.ownsRow w.heap.size 220 2 v2 (r.may.length+1) (dt r.may++[.int .i64 nx.1,.int .i64 nx.2])→(a.alloc (.cells #[.int .i64 nx.1,.int .i64 nx.2] 220)).grownBy J (Value.slice y r.may.length c1).ownBlock→∃E c2 m F,∃rt:RS,v2= .slice E (r.may.length+1) c2∧rt={r with ma:=E,mc:=c2,may:=r.may++[nx]}∧(Instr.storeAt 221 (.pointer (some ⟨w.heap.size,6,none⟩)) (.slice E (r.may.length+1) c2)).run prog J= .ok () m∧(Instr.storeAt 223 (.pointer (some ⟨w.heap.size+1,0,none⟩)) (.agg #[.int .i64 rt.id,.slice rt.sa rt.st.length rt.sc,.int .i64 rt.S.1,.int .i64 rt.S.2,.int .i64 rt.tries,.int .i64 rt.due,.slice rt.ma rt.may.length rt.mc])).run prog m= .ok () F∧F.heap[w.heap.size+1]?=some (.cells rt.cs.toArray 223 (0,0))∧cm F w.heap.size rt∧Fr (fun _=>False) w F∧aQ m w.heap.size rt):=by
   intro v2 a J y c1 hQ L U;obtain⟨B,M,C,V,N⟩:=hQ;obtain⟨E,c2,rfl,-,-⟩:=aN L;have hA:=B.alloc (.cells #[.int .i64 nx.1,.int .i64 nx.2] 220);have aT:Fr (fun _=>False) a (a.alloc (.cells #[.int .i64 nx.1,.int .i64 nx.2] 220)):=(Fr.refl _ _).alloc _;have a8:=(aT.mono (fun _ _ h=>h.elim)).trans ((Fr.refl _ _).grown U fI) fI;have aE:∀q c,a.heap[q]?=some (.cells c 223 (0,0))→¬(Value.slice y r.may.length c1).ownBlock=some q:=fun q c O e=>by obtain⟨c',aU⟩:=cn B e;rw[aU]at O;simp at O
   have b6:aQ J w.heap.size r:=a8.keep M (aE _ _ M);have z6:=a8.keep C (aE _ _ C);have aV:=V.trans a8 (fun q O e=>by have:=(B.lt q e).1;omega);obtain⟨m,a9⟩:∃m,m=J.setCell ⟨w.heap.size,6,none⟩ (.slice E (r.may.length+1) c2):=⟨_,rfl⟩;obtain⟨rt,k⟩:∃rt:RS,rt={r with ma:=E,mc:=c2,may:=r.may++[nx]}:=⟨_,rfl⟩;have b7:aQ m w.heap.size rt:=by have:=ag J w.heap.size 6 _ _ (.slice E (r.may.length+1) c2) b6;rw[←a9]at this;unfold aQ;rw[this,k];simp[RS.cs]
   have f7:Fr (fun q=>q=w.heap.size) J m:=by rw[a9];exact Fr.setCell (S:=fun q=>q=w.heap.size) (Fr.refl _ _) _ (fun _=>rfl) _
   have z7:=f7.keep z6 (by omega);have s:=CA m (w.heap.size+1) _ rt.cs.toArray 223 (0,0) z7;have t:=gM (r:=rt) z7 ap;have fE:Fr (fun q=>q=w.heap.size+1) m (m.setRow (w.heap.size+1) rt.cs.toArray):=Fr.setRow (S:=fun q=>q=w.heap.size+1) (Fr.refl _ _) _ (fun _=>rfl) _;have aW:∀q c,J.heap[q]?=some (.cells c 220 (0,0))→¬q=w.heap.size:=fun q c O e=>by subst e;rw[b6]at O;simp at O
   have aX:∀q c,m.heap[q]?=some (.cells c 220 (0,0))→¬q=w.heap.size+1:=fun q c O e=>by subst e;rw[z7]at O;simp at O
   refine⟨E,c2,m,m.setRow (w.heap.size+1) rt.cs.toArray,rt,rfl,k,?_,t,s,?_,(aV.trans f7 (fun q O e=>by omega)).trans fE (fun q O e=>by omega),b7⟩
   ·rw[a9];exact ah b6.c.2.2.2.2.2.2 (b6.fz 6) (by kernel_rfl) rfl
   ·have h1:=bP (bP L f7 aW) fE aX;have e1:rt.ma=E:=by rw[k]
    have e2:rt.mc=c2:=by rw[k]
    have e3:rt.may=r.may++[nx]:=by rw[k]
    unfold cm;rw[e1,e2,e3,jc,Cr,CM];exact h1
  clear aq i b4 z4 Q b3 z3 H X Y HM HN a3;go_wp2_with (first
   |(at_builtin;refine cB rfl _ _ 221 rfl w.heap.size 220 ar _ 2 16 underlying221 au av ax ay rfl (by decide) (.slice none 0 0) 0 [] rfl (CT _ _ _ _) r.ma r.may.length r.mc (dt r.may) rfl a0.out az aA.out aC.out ?_ ?_ a4 ?_;(unfold maxLen;omega);omega;intro v1 a z R;obtain⟨y,c1,rfl,B,M,C,V,N⟩:=aD.out v1 a z R;have aF:Hid (a.ownsRow w.heap.size 220 2 (.slice y r.may.length c1) r.may.length (dt r.may)∧aQ a w.heap.size r∧a.heap[w.heap.size+1]?=some (.cells Z.toArray 223 (0,0))∧Fr (fun _=>False) w a∧a.heap[d.heap.size]?=some (.cells #[.int .i64 nx.1,.int .i64 nx.2] 220 (0,0))):=⟨B,M,C,V,N⟩;have u0:a.cell? ⟨d.heap.size,0,none⟩=some (.int .i64 nx.1):=(Cn _ _ 0 _ _ _ N).trans rfl;have u1:a.cell? ⟨d.heap.size,1,none⟩=some (.int .i64 nx.2):=(Cn _ _ 1 _ _ _ N).trans rfl;have aZ:=lt_of_heap C;clear B M C V N z R s0 s1 s2 s3 s4 s5 s6 aD aA a0 a4 I)
   |(at_builtin;refine DD (a.alloc (.cells #[.int .i64 nx.1,.int .i64 nx.2] 220)) rfl _ _ 221 rfl w.heap.size 220 ar _ 2 16 underlying221 au av ax ay rfl (by decide) (.slice y r.may.length c1) r.may.length (dt r.may) rfl (aF.out.1.alloc _) ⟨a.heap.size,0,none⟩ 1 1 [.int .i64 nx.1,.int .i64 nx.2] rfl rfl (CZ (cs:=#[.int .i64 nx.1,.int .i64 nx.2]) (aa a _)) ?_ ?_ ?_ ?_ ?_;(simp[Value.oneCell']);(unfold maxLen;omega);omega;(simp;omega);intro v2 J L U _;obtain⟨E,c2,m,F,rt,rfl,k,h7,t,s,aG,aI,aJ⟩:=aS.out v2 a J y c1 aF.out L U;have HE:Hid (rt={r with ma:=E,mc:=c2,may:=r.may++[nx]}∧F.heap[w.heap.size+1]?=some (.cells rt.cs.toArray 223 (0,0))∧cm F w.heap.size rt∧Fr (fun _=>False) w F):=⟨k,s,aG,aI⟩;obtain⟨p0,p1,p2,p3,p4,p5,p6⟩:=aJ.c;clear L U k s aG aI aJ u0 u1)
   |(refine ae 221 (w':=m) _ _ rfl rfl ?_ ?_;exact h7)
   |(refine ae 223 (w':=F) _ _ rfl rfl ?_ ?_;exact t)
   |fail)
  refine CJ (v:= .agg rt.cs.toArray) (Dd Tryz.results134 _ _ (w.heap.size+1) 223 _ (0,0) _ rfl HE.out.2.1 underlying223 rfl (by kernel_rfl)) rfl ?_;refine⟨rt,rfl,?_,HE.out.2.2.2⟩;rw[CE hm];exact⟨E,c2,by rw[←an.out];exact HE.out.1,HE.out.2.2.1⟩
 ·have aY:r.moves reply=false:=by simpa using hm
  rw[aY];clear HN;go_wp2_with fail;refine wp_region_still_tail 11 (by kernel_rfl) (by kernel_rfl) (Bx.out ?_);simp only[CW,Dc,CQ,D2];repeat(refine bu (fun K hK=>?_);go_simp;refine hK _ ?_;clear hK K)
  refine bI ?_;obtain⟨W3,ab⟩:=aw w2.drew;have f:=eG ab;rw[ww ab];have z3:=f.keep z2 jI;have H:=G.trans f fI;clear s0 s1 s2 s3 s4 s5 s6 c6 c7 b2 z2 G f ab;go_wp2_with fail;refine(HV W3).mono ?_;rintro e w4 ⟨rfl,i⟩;have z4:=i.keep z3 jI;have t:=gM (r:=rv) z4 ap;have s:=CA w4 (w.heap.size+1) _ rv.cs.toArray 223 (0,0) z4;obtain⟨F,aj⟩:=aw (w4.setRow (w.heap.size+1) rv.cs.toArray);have fE:Fr (fun b=>b=w.heap.size+1) w4 F:=by rw[aj.out];exact Fr.setRow (S:=fun b=>b=w.heap.size+1) (Fr.refl _ _) _ (fun _=>rfl) _
  rw[←aj.out]at t s;have aK:=af ((H.trans i fI).trans fE (fun b hb h=>by omega));unfold RS.cs at t;clear z3 z4 H i aj fE HV HM;go_wp2_with (refine ae 223 (w':=F) _ _ rfl rfl ?_ ?_;exact t);refine CJ (v:= .agg rv.cs.toArray) (Dd Tryz.results134 _ _ (w.heap.size+1) 223 _ (0,0) _ rfl s underlying223 rfl (by kernel_rfl)) rfl ?_;exact⟨rv,rfl,by rw[Cz hm];exact al.out,aK.out⟩
theorem ld:prog.underlying 45=some (.slice (prog.elem 45)):=by kernel_rfl
theorem we(w:World):(sizeOf (prog.elem 45)).run prog w= .ok 5 w:=by kernel_rfl
theorem uf(b:Option Addr)(n a k:Nat)(c:k≤n)(W:World):(Instr.sliceAt 45 (.slice b n a) (some (.int .i64 k)) none none).run prog W= .ok (.slice (if a=k then b else b.map (fun x=>x.add (k*5))) (n-k) (a-k)) W:=by rw[Fh W 45 _ _ _ _ ld,run_slice_l W 45 b n a ld .i64 k (by omega) (by omega),we];simp[sliced]
def ql(p:CL×Nat):List Value:=p.1.cs++[.int .i64 p.2]
def r9(w:World)(e:Nat)(a:List (CL×Nat)):Prop:=∃b lc f l v,w.heap[e]?=some (.cells #[.slice b a.length lc,f,l,v] 48 (0,0))∧a.length≤lc∧aY w b 5 (a.map ql)∧∀d,b=some d→∃c,w.heap[d.block]?=some (.cells c 52 (0,0))
theorem r9.of{w:World}{i q:Nat}{lg j l:Value}{b:List (CL×Nat)}{d:List CL}{r:List Int}{a:Int}(h:jh w i q lg j l b d r a):r9 w i b:=by
 obtain⟨s,lc,e,k,c⟩:=aN h.lo;have t:=h.p;have f:=h.lo;subst e;refine⟨s,lc,j,l,_,t,?_,fL f (fun x u=>by obtain⟨p,_,rfl⟩:=Cx.1 u;rfl) (by simp),fun m e=>?_⟩;rotate_left
 ·subst e;have n:=c m rfl;obtain⟨y,z,A⟩:=m;simp only at n;obtain⟨rfl,rfl⟩:=n;exact zn f rfl
 rcases f.2 with⟨h,_⟩|⟨g,o,v,h,_,_,B,_⟩
 ·simp at h;omega
 ·simp at h;omega
theorem zc{w:World}{c:Option Addr}{lc k:Nat}{a:List (CL×Nat)}(h:aY w c 5 (a.map ql))(j:a.length≤lc):aY w (if lc=k then c else c.map (fun x=>x.add (k*5))) 5 ((a.drop k).map ql):=by
 intro i cs hi;have b:(a.map ql)[k+i]?=some cs:=by rw[List.map_drop,E3]at hi;exact hi
 have d:=(Co.1 b).1;rw[CR]at d;obtain⟨g,off,e,f⟩:=h (k+i) cs b;refine⟨g,off+k*5,?_,?_⟩
 ·rw[Cz (by omega),e];simp[Addr.add_mid]
 ·rw[show off+k*5+i*5=off+(k+i)*5 from by omega];exact f
theorem iV{r:RS}{b c:Int}(h:r.a.Ok c):r.waits b=r.a.dueB b:=by have d:r.S.1=1∨r.S.1=2∨r.S.1=3∨r.S.1=4:=h.s;refine decide_eq_decide.2 ?_;show(r.S.1≤2∧r.due≤b)↔((r.S.1=1∨r.S.1=2)∧r.due≤b);omega
theorem oA{r:RS}{c:Int}(h:r.a.Ok c)(d:r.a.open):∃(k:Nat) (p:SS),r.S.2=(k:Int)+1∧r.st[k]?=some p∧r.a.asks=⟨r.id,r.S.2,decide (r.S.1=2),if r.S.1=2 then p.2 else p.1⟩:=by
 obtain⟨e,f⟩:1≤r.S.2∧r.S.2≤r.st.length:=h.p d;have b:(r.S.2-1).toNat<r.st.length:=by omega
 refine⟨(r.S.2-1).toNat,r.st[(r.S.2-1).toNat],by omega,Cp b,?_⟩;unfold AS.asks RS.a;simp only[EZ,Cp b,Option.getD_some]
theorem ox{w:World}{g off:Nat}{p:CL×Nat}(h:w.rangeAt g off (ql p)):w.cell? ⟨g,off,none⟩=some (.int .i64 p.1.saga)∧w.cell? ⟨g,off+1,none⟩=some (.int .i64 p.1.step)∧w.cell? ⟨g,off+2,none⟩=some (.bool p.1.back)∧w.cell? ⟨g,off+3,none⟩=some (.string p.1.data)∧w.cell? ⟨g,off+4,none⟩=some (.int .i64 p.2):=by refine⟨h 0 _ rfl,h 1 _ rfl,h 2 _ rfl,h 3 _ rfl,h 4 _ rfl⟩
theorem pQ{w:World}{g:Nat}{r:RS}(h:aQ w g r):(Instr.loadAt 223 (.pointer (some ⟨g,0,none⟩))).run prog w= .ok (.agg r.cs.toArray) w:=Dq w g 0 223 r.cs _ (fun j v a=>(Cn w g (0+j) _ _ _ h).trans (by simpa using a)) underlying223 rfl (by rw[ky,r.len])
theorem eM(g n c i:Nat)(h:i<n)(w:World):(Instr.indexAt 107 (.slice (some ⟨g,0,none⟩) n c) (.int .i64 i)).run prog w= .ok (.pointer (some ⟨g,i*7,none⟩)) w:=by
 have a:(i:Int)<n:=by omega
 go_simp
theorem cm.blk{w:World}{b:Nat}{r:RS}(h:cm w b r){q:Nat}(j:r.mb q):q<w.heap.size∧∃c,w.heap[q]?=some (.cells c 220 (0,0)):=by
 obtain⟨o,s,e⟩:=j;have a:(Value.slice r.ma r.may.length r.mc).ownBlock=some q:=by rw[e];rfl
 exact⟨(h.lt q a).2,cn h a⟩
theorem LG.set{w w':World}{b g E:Nat}{L:List RS}{i:Nat}{r l:RS}(h:LG w b (.slice (some ⟨g,0,none⟩) L.length E) L)(hi:L[i]?=some r)(T:w'.ownsRow b 223 7 (.slice (some ⟨g,0,none⟩) L.length E) L.length (az (L.set i l)))(I:Fr (fun c=>c=g) w w')(K:l.sa=r.sa)(M:l.sc=r.sc)(F:l.st=r.st)(U:cm w b l)(j:l.ma=r.ma∨∀p∈L,kt p l∧kt l p):LG w' b (.slice (some ⟨g,0,none⟩) L.length E) (L.set i l):=by
 obtain⟨cg,N⟩:=cn h.o (b:=g) rfl;have R:=Cq hi;obtain⟨V,G⟩:=Co.1 hi;have B:∀(t:TypeId),t≠223→∀c cs,w.heap[c]?=some (.cells cs t (0,0))→¬c=g:=by intro t X c cs C e;subst e;have:=C.symm.trans N;simp at this;exact X this.2
 have z:∀q∈L.set i l,q=l∨q∈L:=fun q v=>(EI v).symm;refine⟨by rw[DV];exact T,?_,?_,?_,?_⟩
 ·intro q v;rcases z q v with rfl|v
  ·rw[K,M,F];exact(h.s r R).fr I (fun c cs C=>B 165 (by decide) c cs C)
  ·exact(h.s q v).fr I (fun c cs C=>B 165 (by decide) c cs C)
 ·intro q v;rcases z q v with rfl|v
  ·exact bP U I (fun c cs C=>B 220 (by decide) c cs C)
  ·exact bP (h.m q v) I (fun c cs C=>B 220 (by decide) c cs C)
 ·have S:=h.ne;rw[D7]at S⊢;intro Y Z O P Q;rw[DV]at O P;rw[Ew,Ew];have H:=S Y Z O P Q;split
  ·rename_i e1;subst e1;split
   ·omega
   ·rcases j with e|j
    ·rw[G]at H;intro a J;rw[e]at J;exact H a J
    ·exact(j _ (Ef P)).2
  ·split
   ·rename_i e2;subst e2;rcases j with e|j
    ·rw[G]at H;intro a J;rw[e];exact H a J
    ·exact(j _ (Ef O)).1
   ·exact H
 ·intro q v;rcases z q v with rfl|v
  ·rw[F];exact h.n r R
  ·exact h.n q v
theorem ii.ask{o pause:Int}{io f:Bool}{new:List (CL×Nat)}{k:Nat}{m:AM}{M q:List AM}(h:ii o pause false io new k (m::M) q f)(z:m.a.dueB o=true)(B:new≠[]):(∃c w,c≤2∧new[k]?=some (m.a.asks,c)∧(io=true→k+1≠new.length)∧ii o pause false io new (k+1) M w f∧q=m.after c o pause::w)∨(∃c,c≤2∧new[k]?=some (m.a.asks,c)∧io=true∧k+1=new.length∧f=true∧q=m.cutA c o pause::M):=by
 cases h with
 |skip p _=>rw[z]at p;cases p
 |vain _ s _=>cases s
 |stop _ _ t _=>exact absurd t B
 |reply _ _ e j hcut h=>exact .inl ⟨_,_,j,e,hcut,h,rfl⟩
 |cut _ _ e j v C=>exact .inr ⟨_,j,e,v,C,rfl,rfl⟩
def Bu(clock:Int)(r:RS):Prop:=(r.S.1=0∨r.a.Ok clock)∧r.may.length≤1000000
structure AA(u:World)(D A Pp n:Nat)(nn em:Bool)(x:Value)(pause clock:Int)(b:Nat)(L:List RS)(y:Option Addr)(cx:Nat)(d:List RS)(wr:World):Prop where
 law:aH wr D A Pp n nn em x pause (clock+1) false (.slice y L.length cx)
 at':LG wr b (.slice y L.length cx) d
 ln:d.length=L.length
 mb:∀q,(∃r∈d,r.mb q)→(∃r∈L,r.mb q)∨u.heap.size≤q
 fr:Fr (fun c=>c=D∨y.map (·.block)=some c) u wr
structure jy(u:World)(D A Pp n:Nat)(nn em:Bool)(x:Value)(pause clock:Int)(b:Nat)(L:List RS)(fails io:Bool)(new:List (CL×Nat))(M':List AM)(f:Bool)(y:Option Addr)(cx i k:Nat)(d:List RS)(wr:World):Prop where
 tw:AA u D A Pp n nn em x pause clock b L y cx d wr
 tk:∃Mr,ii (clock+1) pause fails io new k ((d.drop i).map RS.am) Mr f∧M'=(d.take i).map RS.am++Mr
 ok:∀r∈d.drop i,Bu clock r
section
variable{u wr W w':World}{D A Pp n b g cx i k:Nat}{nn em fails io f:Bool}{x:Value}{pause clock:Int}{L d:List RS}{new:List (CL×Nat)}{M':List AM}{y:Option Addr}{r l:RS}
theorem jy.law(h:jy u D A Pp n nn em x pause clock b L fails io new M' f y cx i k d wr):aH wr D A Pp n nn em x pause (clock+1) false (.slice y L.length cx):=h.tw.law
theorem jy.at'(h:jy u D A Pp n nn em x pause clock b L fails io new M' f y cx i k d wr):LG wr b (.slice y L.length cx) d:=h.tw.at'
theorem jy.ln(h:jy u D A Pp n nn em x pause clock b L fails io new M' f y cx i k d wr):d.length=L.length:=h.tw.ln
theorem jy.fr(h:jy u D A Pp n nn em x pause clock b L fails io new M' f y cx i k d wr):Fr (fun c=>c=D∨y.map (·.block)=some c) u wr:=h.tw.fr
theorem jy.drop(h:jy u D A Pp n nn em x pause clock b L fails io new M' f y cx i k d wr)(j:d[i]?=some r):∃a,ii (clock+1) pause fails io new k (r.am::(d.drop (i+1)).map RS.am) a f∧M'=(d.take i).map RS.am++a:=by obtain⟨a,c,m⟩:=h.tk;obtain⟨o,e⟩:=Co.1 j;rw[Dk o,e]at c;exact⟨a,c,m⟩
theorem jy.rok(h:jy u D A Pp n nn em x pause clock b L fails io new M' f y cx i k d wr)(a:d[i]?=some r):Bu clock r:=by obtain⟨c,e⟩:=Co.1 a;exact h.ok r (by rw[Dk c,e];simp)
theorem jy.skip(h:jy u D A Pp n nn em x pause clock b L fails io new M' f y cx i k d wr)(j:d[i]?=some r)(a:Fr (fun _=>False) wr W){c:List AM}(m:ii (clock+1) pause fails io new k ((d.drop (i+1)).map RS.am) c f)(o:M'=(d.take i).map RS.am++r.am::c):jy u D A Pp n nn em x pause clock b L fails io new M' f y cx (i+1) k d W:=by obtain⟨p,e⟩:=Co.1 j;refine⟨⟨h.law.fr a jI,h.at'.frz a,h.ln,h.tw.mb,h.fr.trans a (fun _ _ h=>h.elim)⟩,⟨c,m,?_⟩,fun q s=>h.ok q (by rw[Dk p];exact List.mem_cons_of_mem _ s)⟩;rw[o,D1,j];simp
theorem AA.set(h:AA u D A Pp n nn em x pause clock b L (some ⟨g,0,none⟩) cx d wr)(Q:d[i]?=some r)(H:Fr (fun _=>False) wr W)(R:w'.ownsRow b 223 7 (.slice (some ⟨g,0,none⟩) d.length cx) d.length (az (d.set i l)))(w:Fr (fun c=>c=g) W w')(I:l.sa=r.sa)(J:l.sc=r.sc)(K:l.st=r.st)(S:cm W b l)(j:l.ma=r.ma∨cm W wr.heap.size l):AA u D A Pp n nn em x pause clock b L (some ⟨g,0,none⟩) cx (d.set i l) w':=by
 have z:=h.at'.frz H;rw[←h.ln]at z;have v:=h.law.fr H jI;have M:¬D=g:=by intro e;obtain⟨cs,C⟩:=cn z.o (b:=g) rfl;rw[←e]at C;have:=v.symm.trans C;simp at this
 have t:∀q,l.mb q→(l.ma=r.ma)∨wr.heap.size≤q:=fun q N=>by
  rcases j with e|j
  ·exact .inl e
  ·obtain⟨o,s,e⟩:=N;exact .inr ((j.lt q (by rw[e];rfl)).1)
 have E:=z.set Q R w I J K S (by
  rcases j with e|j
  ·exact .inl e
  ·refine .inr fun p F=>?_;have G:∀a,p.ma=some a→l.ma≠some a:=fun a O P=>by obtain⟨q,o,s⟩:=a;have U:=(h.at'.m p F).blk ⟨o,s,O⟩;have V:=(j.lt q (by rw[P];rfl)).1;omega
   exact⟨G,fun a O P=>G a P O⟩)
 refine⟨v.fr w M,by rw[←h.ln];exact E,by rw[DV];exact h.ln,fun q N=>?_,(h.fr.trans H (fun _ _ h=>h.elim)).trans w (fun _ _ h=> .inr (by rw[h];rfl))⟩;obtain⟨p,F,B⟩:=N;rcases EI F with F|rfl
 ·exact h.mb q ⟨p,F,B⟩
 ·rcases t q B with e|e
  ·refine h.mb q ⟨r,Cq Q,?_⟩;obtain⟨o,s,T⟩:=B;exact⟨o,s,by rw[←e];exact T⟩
  ·exact .inr (Ct h.fr.size e)
theorem jy.set(h:jy u D A Pp n nn em x pause clock b L fails io new M' f (some ⟨g,0,none⟩) cx i k d wr)(a:d[i]?=some r)(B:Fr (fun _=>False) wr W)(C:w'.ownsRow b 223 7 (.slice (some ⟨g,0,none⟩) d.length cx) d.length (az (d.set i l)))(j:Fr (fun c=>c=g) W w')(m:l.sa=r.sa)(o:l.sc=r.sc)(p:l.st=r.st)(E:cm W b l)(s:l.ma=r.ma∨cm W wr.heap.size l){w:Nat}{t:List AM}(F:ii (clock+1) pause fails io new w ((d.drop (i+1)).map RS.am) t f)(G:M'=(d.take i).map RS.am++l.am::t):jy u D A Pp n nn em x pause clock b L fails io new M' f (some ⟨g,0,none⟩) cx (i+1) w (d.set i l) w':=by
 obtain⟨H,e⟩:=Co.1 a;refine⟨h.tw.set a B C j m o p E s,⟨t,?_,?_⟩,fun q z=>h.ok q ?_⟩
 ·rw[FB (by omega)];exact F
 ·rw[G,List.take_set,D1,a];have v:(d.take i).length=i:=by rw[Cy];omega
  rw[Eu _ _ (by omega),v,Em];simp
 ·rw[FB (by omega)]at z;rw[Dk H];exact List.mem_cons_of_mem _ z
theorem Az(a:d[i]?=some r):(d.set i l).map RS.am=(d.take i).map RS.am++l.am::(d.drop (i+1)).map RS.am:=by obtain⟨c,_⟩:=Co.1 a;rw[Fb,CE c];simp
end
structure DQ where
 D:Nat
 A:Nat
 B:Nat
 Pp:Nat
 n:Nat
 nn:Bool
 em:Bool
 x:Option Addr
 pause:Int
 clock:Int
 fd:Bool
 Lv:Value
 L:List RS
 fl:Bool
 C:Nat→Prop
 F:Nat→Prop
 G:Nat→Prop
def DQ.S(q:DQ)(b:Nat):Prop:=b=q.D∨b=q.A∨b=q.B∨q.C b∨q.F b∨q.G b∨q.Lv.ownBlock=some b∨∃r∈q.L,r.mb b
def ge(f:Bool)(a:Nat):Value:=if f=true then xA else uq a
def mX(w:World)(s c:Nat)(G:Nat→Prop)(a:List (CL×Nat)):Prop:=∃b st d,rj b∧yE c d b st G w∧st.log=a∧a.length≤200*s∧st.eff.length≤200*s∧st.at'≤200*s
def Jn(n:Nat)(nn em:Bool)(L:List RS)(c:DS)(b:List ba):Prop:=bE b∧bA b≤n-1∧((nn=false∧em=false∧JD n c (b.map ba.bytes)∧bw L b∧(JZ n c (b.map ba.bytes)∨∃a r,b=a++[r]∧bw L a))∨(nn=true∧(P1 n c∨(em=true∧P2 n c)∨(P0 n c (b.map ba.bytes) (∃a r,b=a++[r]∧bw L a)∧(bw L b∨(em=true∧b=[]))))))
def AL(w:World)(s:Nat)(q:DQ)(c:DS)(d:List ba):Prop:=q.x=none∨∃X,q.x=some ⟨X,0,none⟩∧q.nn=false∧1≤q.pause∧q.pause≤64∧0≤q.clock∧q.clock≤s∧((q.fd=false∧∃b,EG w s X q.A q.B q.n q.clock q.pause (ge q.fl q.Pp) b d c q.C q.F∧ci false b q.L)∨(q.fd=true∧∃b a e,ED w X q.n e q.pause (ge q.fl q.Pp) b a q.F∧bw q.L a))
def Bw(w:World)(s A:Nat):Prop:=∃b a calls writes told off lo hi,w.heap[A]?=some (.cells #[.slice b 0 a,.slice none 0 0,.int .i64 calls,.int .i64 writes,.int .i64 told,.int .i64 off,.int .i64 lo,.int .i64 hi] 96 (0,0))∧0≤calls∧calls≤1000*(s:Int)∧0≤told∧told≤1000*(s:Int)
structure cG(w:World)(j s:Nat)(q:DQ):Prop where
 l:aH w q.D q.A q.Pp q.n q.nn q.em (.pointer q.x) q.pause q.clock q.fd q.Lv
 g:(q.n=0∧q.x=none∧Bw w s q.A∧q.B=q.A∧∀b,¬q.C b)∨(q.n≠0∧∃ds rs,DG w s q.A q.B q.n ds q.C∧(dY q.n=true→Jn q.n q.nn q.em q.L ds rs∧AL w s q ds rs)∧(dY q.n=false→q.x=none))
 p:∃log,mX w s q.Pp q.G log
 a:LG w j q.Lv q.L
 ln:q.L.length≤s
 ml:∀r∈q.L,r.may≠[]∧r.may.length≤2*s+2
 ls:∀r∈q.L,aO r.id r.st=true
 lo:q.L.Pairwise (fun a b=>a.id<b.id)
 fu:FU w q.F
 ct:∀b,q.C b→∃c,w.heap[b]?=some (.cells c 101 (0,0))
 sl:∀b,q.S b→j≤b
 n:q.n<1000
section
variable{w w':World}{j s s':Nat}{q:DQ}{T:Nat→Prop}
theorem mX.ty{d:Nat}{G:Nat→Prop}{a:List (CL×Nat)}(h:mX w s d G a){b:Nat}(e:G b):∃c t,w.heap[b]?=some (.cells c t (0,0))∧PT t:=by obtain⟨f,st,g,_,⟨_,lg,i,l,h,hF⟩,_⟩:=h;exact h.ty ((hF b).1 e)
theorem mX.pp{c:Nat}{G:Nat→Prop}{a:List (CL×Nat)}(h:mX w s c G a):G c∧∃lo b d e f,w.heap[c]?=some (.cells #[.slice lo a.length b,d,e,f] 48 (0,0)):=by obtain⟨i,st,k,_,⟨_,lg,m,l,h,hF⟩,rfl,_⟩:=h;refine⟨(hF c).2 (.inl rfl),?_⟩;obtain⟨n,g,rfl,_⟩:=aN h.lo;exact⟨_,_,_,_,_,h.p⟩
theorem mX.fr{d:Nat}{G:Nat→Prop}{a:List (CL×Nat)}(h:mX w s d G a)(e:Fr T w w')(f:∀b,G b→¬T b):mX w' s d G a:=by obtain⟨g,st,i,k,⟨c,lg,m,l,h,hF⟩,n⟩:=h;exact⟨g,st,i,k,⟨Ct c e.size,lg,m,l,h.fr e (fun b c=>f b ((hF b).2 c)),hF⟩,n⟩
theorem mX.mono{b:Nat}{G:Nat→Prop}{a:List (CL×Nat)}(h:mX w s b G a)(i:s≤s'):mX w s' b G a:=by obtain⟨c,st,d,e,f,g,k,l,m⟩:=h;exact⟨c,st,d,e,f,g,by omega,by omega,by omega⟩
theorem FU.fr{a:Nat→Prop}(h:FU w a)(e:Fr T w w')(f:∀b,a b→¬T b):FU w' a:=fun b d=>by obtain⟨c,t,g,i⟩:=h b d;exact⟨c,t,e.keep g (f b d),i⟩
theorem DG.cell{k A B n:Nat}{f:DS}{C:Nat→Prop}(h:DG w k A B n f C):(∃c,w.heap[A]?=some (.cells c 96 (0,0)))∧∃c,w.heap[B]?=some (.cells c 97 (0,0)):=by obtain⟨_,b,a,e,_⟩:=h;exact⟨⟨_,e.d⟩,⟨_,e.r.1⟩⟩
def Aa(q:DQ)(b:Nat)(t:TypeId):Prop:=(t=111∧b=q.D)∨(t=96∧b=q.A)∨(t=97∧b=q.B)∨(t=101∧q.C b)∨(iJ t∧q.F b)∨(PT t∧q.G b)∨(t=223∧q.Lv.ownBlock=some b)∨(t=220∧∃r∈q.L,r.mb b)
theorem cG.ty(h:cG w j s q){b:Nat}(d:q.S b):∃c t,w.heap[b]?=some (.cells c t (0,0))∧Aa q b t:=by
 have k:(∃c,w.heap[q.A]?=some (.cells c 96 (0,0)))∧(q.B=q.A∨∃c,w.heap[q.B]?=some (.cells c 97 (0,0))):=by
  rcases h.g with⟨_,_,⟨z,v,calls,writes,told,off,lo,hi,i,_⟩,e,_⟩|⟨_,C,D,i,_⟩
  ·exact⟨⟨_,i⟩,.inl e⟩
  ·exact⟨i.cell.1,.inr i.cell.2⟩
 rcases d with rfl|rfl|rfl|d|d|d|d|⟨r,u,d⟩
 ·exact⟨_,_,h.l,.inl ⟨rfl,rfl⟩⟩
 ·obtain⟨c,f⟩:=k.1;exact⟨c,_,f,.inr (.inl ⟨rfl,rfl⟩)⟩
 ·rcases k.2 with e|⟨c,f⟩
  ·obtain⟨c,f⟩:=k.1;rw[e];exact⟨c,_,f,.inr (.inl ⟨rfl,rfl⟩)⟩
  ·exact⟨c,_,f,.inr (.inr (.inl ⟨rfl,rfl⟩))⟩
 ·obtain⟨c,f⟩:=h.ct b d;exact⟨c,_,f,.inr (.inr (.inr (.inl ⟨rfl,d⟩)))⟩
 ·obtain⟨c,t,f,n⟩:=h.fu b d;exact⟨c,t,f,.inr (.inr (.inr (.inr (.inl ⟨n,d⟩))))⟩
 ·obtain⟨x,y⟩:=h.p;obtain⟨c,t,f,n⟩:=y.ty d;exact⟨c,t,f,.inr (.inr (.inr (.inr (.inr (.inl ⟨n,d⟩)))))⟩
 ·obtain⟨c,f⟩:=cn h.a.o d;exact⟨c,_,f,.inr (.inr (.inr (.inr (.inr (.inr (.inl ⟨rfl,d⟩))))))⟩
 ·obtain⟨_,c,f⟩:=(h.a.m r u).blk d;exact⟨c,_,f,.inr (.inr (.inr (.inr (.inr (.inr (.inr ⟨rfl,r,u,d⟩))))))⟩
theorem cG.lt(h:cG w j s q){b:Nat}(a:q.S b):b<w.heap.size:=by obtain⟨c,t,d,_⟩:=h.ty a;exact lt_of_heap d
theorem cG.step(h:cG w j s q){b:Nat}{c:Array Value}(e:w.heap[b]?=some (.cells c 165 (0,0))):¬q.S b:=by intro f;obtain⟨g,t,a,d⟩:=h.ty f;have:=e.symm.trans a;simp at this;rw[←this.2]at d;unfold Aa iJ PT at d;revert d;simp
theorem AL.fr{g:DS}{i:List ba}(h:AL w s q g i)(k:Fr T w w')(t:¬T q.A)(u:¬T q.B)(v:∀b,q.C b→¬T b)(hF:∀b,q.F b→¬T b):AL w' s q g i:=by
 rcases h with h|⟨X,l,m,n,o,p,r,⟨a,c,d,e⟩|⟨a,c,f,x,d,e⟩⟩
 ·exact .inl h
 ·exact .inr ⟨X,l,m,n,o,p,r,.inl ⟨a,c,d.fr k t u v hF,e⟩⟩
 ·exact .inr ⟨X,l,m,n,o,p,r,.inr ⟨a,c,f,x,d.fr k hF,e⟩⟩
theorem cG.fr(h:cG w j s q)(f:Fr T w w')(i:∀b,q.S b→¬T b)(u:∀b c,w.heap[b]?=some (.cells c 165 (0,0))→¬T b):cG w' j s q:=by
 have K:=i q.D (.inl rfl);have v:=i q.A (.inr (.inl rfl));have J:=i q.B (.inr (.inr (.inl rfl)));have x:∀b,q.C b→¬T b:=fun b d=>i b (.inr (.inr (.inr (.inl d))));have hF:∀b,q.F b→¬T b:=fun b d=>i b (.inr (.inr (.inr (.inr (.inl d)))));have L:∀b,q.G b→¬T b:=fun b d=>i b (.inr (.inr (.inr (.inr (.inr (.inl d))))));obtain⟨y,M⟩:=h.p;refine⟨h.l.fr f K,?_,⟨y,M.fr f L⟩,⟨?_,fun r k=>(h.a.s r k).fr f u,fun r k=>(h.a.m r k).fr f (fun g N=>i g (.inr (.inr (.inr (.inr (.inr (.inr (.inr ⟨r,k,N⟩)))))))),h.a.ne,h.a.n⟩,h.ln,h.ml,h.ls,h.lo,h.fu.fr f hF,fun b d=>?_,h.sl,h.n⟩
 ·rcases h.g with⟨z,t,⟨O,E,calls,writes,told,off,lo,hi,H,d⟩,e,I⟩|⟨z,P,Q,H,t,R⟩
  ·exact .inl ⟨z,t,⟨O,E,calls,writes,told,off,lo,hi,f.keep H v,d⟩,e,I⟩
  ·exact .inr ⟨z,P,Q,H.fr f v J x,fun hi=>⟨(t hi).1,(t hi).2.fr f v J x hF⟩,R⟩
 ·exact aU h.a.o f (fun b c _ d=>i b (.inr (.inr (.inr (.inr (.inr (.inr (.inl d))))))))
 ·obtain⟨c,I⟩:=h.ct b d;exact⟨c,f.keep I (x b d)⟩
theorem EG.monoK{k a X A B n:Nat}{clock pause:Int}{b:Value}{L:List AS}{c:List ba}{d:DS}{C F:Nat→Prop}(h:EG w k X A B n clock pause b L c d C F)(e:k≤a):EG w a X A B n clock pause b L c d C F:=by obtain⟨f,g,i⟩:=h;exact⟨f,g.mono e,i⟩
theorem DG.monoK{k a A B n:Nat}{b:DS}{C:Nat→Prop}(h:DG w k A B n b C)(c:k≤a):DG w a A B n b C:=⟨h.1.mono c,h.2⟩
theorem cG.mono(h:cG w j s q)(f:s≤s'):cG w j s' q:=by
 obtain⟨i,x⟩:=h.p;refine⟨h.l,?_,⟨i,x.mono f⟩,h.a,by have:=h.ln;omega,fun r t=>⟨(h.ml r t).1,by have:=(h.ml r t).2;omega⟩,h.ls,h.lo,h.fu,h.ct,h.sl,h.n⟩;rcases h.g with⟨c,b,⟨y,k,calls,writes,told,off,lo,hi,m,F⟩,e,z⟩|⟨c,A,B,m,b,d⟩
 ·exact .inl ⟨c,b,⟨y,k,calls,writes,told,off,lo,hi,m,by omega,by omega,by omega,by omega⟩,e,z⟩
 ·refine .inr ⟨c,A,B,m.monoK f,fun hi=>⟨(b hi).1,?_⟩,d⟩;rcases(b hi).2 with h|⟨X,c,b,d,u,v,G,⟨o,C,D,E⟩|o⟩
  ·exact .inl h
  ·exact .inr ⟨X,c,b,d,u,v,by omega,.inl ⟨o,C,D.monoK f,E⟩⟩
  ·exact .inr ⟨X,c,b,d,u,v,by omega,.inr o⟩
end
structure dE(w:World)(j s:Nat)(q q':DQ)(w':World):Prop where
 d:q'.D=q.D
 o:∀b,q'.S b→q.S b∨w.heap.size≤b
 i:cG w' j s q'
 f:Fr q.S w w'
def cu(q:DQ)(b:Nat):Prop:=b=q.A∨b=q.B∨q.C b∨q.F b
theorem DQ.S_of{q a:DQ}{z:Nat}(c:a.D=q.D)(d:a.A=q.A∨z≤a.A)(g:a.B=q.B∨z≤a.B)(i:∀b,a.C b→q.S b∨z≤b)(hF:∀b,a.F b→q.S b∨z≤b)(j:∀b,a.G b→q.S b∨z≤b)(k:∀b,a.Lv.ownBlock=some b→q.S b∨z≤b)(l:∀b,(∃r∈a.L,r.mb b)→q.S b∨z≤b):∀b,a.S b→q.S b∨z≤b:=by
 rintro b (h|h|h|h|h|h|h|h)
 ·exact .inl (.inl (h.trans c))
 ·rcases d with e|e
  ·exact .inl (.inr (.inl (h.trans e)))
  ·rw[h];exact .inr e
 ·rcases g with e|e
  ·exact .inl (.inr (.inr (.inl (h.trans e))))
  ·rw[h];exact .inr e
 ·exact i b h
 ·exact hF b h
 ·exact j b h
 ·exact k b h
 ·exact l b h
theorem DQ.sG(q:DQ){z:Nat}:∀b,q.G b→q.S b∨z≤b:=fun _ h=> .inl (.inr (.inr (.inr (.inr (.inr (.inl h))))))
theorem DQ.sC(q:DQ){z:Nat}:∀b,q.C b→q.S b∨z≤b:=fun _ h=> .inl (.inr (.inr (.inr (.inl h))))
theorem DQ.sL(q:DQ){z:Nat}:∀b,q.Lv.ownBlock=some b→q.S b∨z≤b:=fun _ h=> .inl (.inr (.inr (.inr (.inr (.inr (.inr (.inl h)))))))
theorem DQ.sM(q:DQ){z:Nat}:∀b,(∃r∈q.L,r.mb b)→q.S b∨z≤b:=fun _ h=> .inl (.inr (.inr (.inr (.inr (.inr (.inr (.inr h)))))))
section
variable{w w':World}{f s s':Nat}{q:DQ}
theorem cu.own{b:Nat}(h:cu q b):q.S b:=by
 rcases h with h|h|h|h
 ·exact .inr (.inl h)
 ·exact .inr (.inr (.inl h))
 ·exact .inr (.inr (.inr (.inl h)))
 ·exact .inr (.inr (.inr (.inr (.inl h))))
theorem cG.engT(h:cG w f s q){b:Nat}(d:cu q b):∃c t,w.heap[b]?=some (.cells c t (0,0))∧(t=96∨t=97∨t=101∨iJ t):=by
 have j:(∃c,w.heap[q.A]?=some (.cells c 96 (0,0)))∧(q.B=q.A∨∃c,w.heap[q.B]?=some (.cells c 97 (0,0))):=by
  rcases h.g with⟨_,_,⟨m,k,calls,writes,told,off,lo,hi,i,_⟩,e,_⟩|⟨_,n,o,i,_⟩
  ·exact⟨⟨_,i⟩,.inl e⟩
  ·exact⟨i.cell.1,.inr i.cell.2⟩
 rcases d with rfl|rfl|d|d
 ·obtain⟨c,a⟩:=j.1;exact⟨c,_,a,.inl rfl⟩
 ·rcases j.2 with e|⟨c,a⟩
  ·obtain⟨c,a⟩:=j.1;rw[e];exact⟨c,_,a,.inl rfl⟩
  ·exact⟨c,_,a,.inr (.inl rfl)⟩
 ·obtain⟨c,a⟩:=h.ct b d;exact⟨c,_,a,.inr (.inr (.inl rfl))⟩
 ·obtain⟨c,t,a,l⟩:=h.fu b d;exact⟨c,t,a,.inr (.inr (.inr l))⟩
theorem cG.notE(h:cG w f s q){b:Nat}{c:Array Value}{t:TypeId}(g:w.heap[b]?=some (.cells c t (0,0)))(e:¬(t=96∨t=97∨t=101∨iJ t)):¬cu q b:=fun i=>by obtain⟨j,k,a,d⟩:=h.engT i;have:=g.symm.trans a;simp at this;rw[this.2]at e;exact e d
theorem lq{t:TypeId}(h:PT t∨t=223∨t=220∨t=165∨t=58∨t=119∨t=111):¬(t=96∨t=97∨t=101∨iJ t):=by unfold PT at h;unfold iJ;rcases h with(rfl|rfl|rfl|rfl)|rfl|rfl|rfl|rfl|rfl|rfl<;>decide
theorem cG.notD(h:cG w f s q):¬cu q q.D:=h.notE h.l (lq (.inr (.inr (.inr (.inr (.inr (.inr rfl)))))))
theorem cG.mine(h:cG w f s q):∀b c t,w.heap[b]?=some (.cells c t (0,0))→lQ t→¬cu q b:=fun b c t d a=>h.notE d (lq (by
 unfold lQ at a;rcases a with rfl|rfl|rfl|rfl|rfl|rfl|rfl
 ·exact .inr (.inr (.inr (.inr (.inr (.inr rfl)))))
 ·exact .inl (.inl rfl)
 ·exact .inr (.inl rfl)
 ·exact .inr (.inr (.inl rfl))
 ·exact .inr (.inr (.inr (.inl rfl)))
 ·exact .inr (.inr (.inr (.inr (.inl rfl))))
 ·exact .inr (.inr (.inr (.inr (.inr (.inl rfl)))))))
theorem cG.keepP(h:cG w f s q)(j:Fr (fun b=>b=q.D∨cu q b) w w'){a:List (CL×Nat)}(g:mX w s q.Pp q.G a):mX w' s q.Pp q.G a:=g.fr j (fun b k=>by
 obtain⟨c,t,i,d⟩:=g.ty k;rintro(e|e)
 ·subst e;have:=i.symm.trans h.l;simp at this;rw[this.2]at d;unfold PT at d;revert d;decide
 ·exact h.notE i (lq (.inl d)) e)
theorem cG.keepL(h:cG w f s q)(i:Fr (fun b=>b=q.D∨cu q b) w w'):LG w' f q.Lv q.L:=h.a.fr i (fun b c t g d=>by
 rintro(e|e)
 ·subst e;have:=g.symm.trans h.l;simp at this;rw[this.2]at d;revert d;decide
 ·refine h.notE g (lq ?_) e;rcases d with rfl|rfl|rfl
  ·exact .inr (.inl rfl)
  ·exact .inr (.inr (.inr (.inl rfl)))
  ·exact .inr (.inr (.inl rfl)))
theorem DG.tyC{k A B n:Nat}{g:DS}{C:Nat→Prop}(h:DG w k A B n g C):DG w k A B n g (fun b=>C b∧∃c,w.heap[b]?=some (.cells c 101 (0,0))):=by obtain⟨e,d,a,i,j,l⟩:=h;exact⟨e,d,a,i,fun b e=>⟨j b e,iR i.q.o e⟩,l⟩
theorem EG.tyC{k X A B n:Nat}{clock pause:Int}{l:Value}{L:List AS}{m:List ba}{p:DS}{C F:Nat→Prop}(h:EG w k X A B n clock pause l L m p C F):EG w k X A B n clock pause l L m p (fun b=>C b∧∃c,w.heap[b]?=some (.cells c 101 (0,0))) F:=by obtain⟨t,u,v,J,R,V,i,a,j,ev,e,x,y,z,g,D⟩:=h;exact⟨t,u,v,J,R,V,i,a,j,ev,e,x,y,z,g,fun b r=>⟨D b r,iR g.jn.d.q.o r⟩⟩
theorem ED.tyF{X n:Nat}{clock pause:Int}{e:Value}{L:List AS}{g:List ba}{F:Nat→Prop}(h:ED w X n clock pause e L g F):ED w X n clock pause e L g (fun b=>F b∧∃c t,w.heap[b]?=some (.cells c t (0,0))∧iJ t):=by
 obtain⟨l,J,R,a,d,ev,m,i,j,o,p,r⟩:=h;refine⟨l,J,R,a,d,ev,m,i,j,o,⟨p,_,_,i,.inl rfl⟩,fun b k=>⟨r b k,?_⟩⟩;obtain⟨c,t,u,v⟩:=lV j k;refine⟨c,t,u,?_⟩;rcases v with rfl|rfl|rfl
 ·exact .inr (.inr (.inr (.inl rfl)))
 ·exact .inr (.inr (.inr (.inr (.inl rfl))))
 ·exact .inr (.inr (.inr (.inr (.inr rfl))))
theorem bw.nil:bw [] []:=⟨(fun r b=>by cases b),(fun r b=>by cases b),(fun a c=>by cases c)⟩
theorem Jn.wf{n:Nat}{nn em:Bool}{L:List RS}{a:DS}{b:List ba}(h:Jn n nn em L a b)(c:0<n):Wf n a:=by
 rcases h.2.2 with⟨_,_,h,_⟩|⟨_,h|⟨_,h⟩|⟨h,_⟩⟩
 ·exact h.wf
 ·exact h.1
 ·exact h.1
 ·exact h.wf c
theorem Jn.lay{n:Nat}{nn em:Bool}{L:List RS}{g:DS}{i:List ba}(h:Jn n nn em L g i)(p:8≤n)(r:n≤400)(t:¬(bF g n).1=true):∃j,Jn n true true L (bF g n).2 j:=by
 obtain⟨k,l,o⟩:=h;rcases tS (Jn.wf ⟨k,l,o⟩ (by omega)) p r with⟨e,_⟩|⟨_,⟨b,c,a⟩|d|d⟩
 ·exact absurd e t
 ·rcases o with⟨_,_,u,m,v⟩|⟨_,d|⟨_,d⟩|⟨d,m⟩⟩
  ·refine⟨i,k,l,.inr ⟨rfl,.inr (.inr ⟨?_,.inl m⟩)⟩⟩;have d:=u.p0 v;rcases b with b|b
   ·exact d.keep b c a
   ·exact d.snoc b c a
  ·refine⟨[],cK,CH _,.inr ⟨rfl,.inl ?_⟩⟩;rcases b with b|b
   ·exact d.keep b c a
   ·exact d.snoc (by omega) b c a
  ·refine⟨[],cK,CH _,.inr ⟨rfl,.inr (.inl ⟨rfl,?_⟩)⟩⟩;rcases b with b|b
   ·exact d.keep b c a
   ·exact d.snoc (by omega) b c a
  ·refine⟨i,k,l,.inr ⟨rfl,.inr (.inr ⟨?_,m.imp_right (fun h=>⟨rfl,h.2⟩)⟩)⟩⟩;rcases b with b|b
   ·exact d.keep b c a
   ·exact d.snoc b c a
 ·exact⟨[],cK,CH _,.inr ⟨rfl,.inl d⟩⟩
 ·exact⟨[],cK,CH _,.inr ⟨rfl,.inr (.inl ⟨rfl,d⟩)⟩⟩
theorem Jn.laid{n:Nat}{a:DS}(h:eZ n a []):Jn n false false [] a []:=⟨cK,CH _,.inl ⟨rfl,rfl,h.jd,bw.nil,.inl h.jz⟩⟩
theorem LG.nil(w:World)(b:Nat):LG w b (.slice none 0 0) []:=⟨CT _ _ _ _,(fun r a=>by cases a),(fun r a=>by cases a),.nil,(fun r a=>by cases a)⟩
theorem oM(h:cG w f s q)(hs:s<50000)(Y:cN w)(a:1<f)(k:q.n≠0):Calls prog 52 #[.pointer (some ⟨q.D,0,none⟩)] w fun e w'=>e= .returned (.bool true)∧∃m,m.x=none∧dE w f (s+1) q m w':=by
 rcases h.g with⟨e,_⟩|⟨_,Z,rs,hd,V,hx⟩
 ·exact absurd e k
 have o:=h.notD;have P:NG (fun b=>b=q.D∨b=q.A∨b=q.B∨q.C b):=fun g hg hS=>by
  have:q.S g:=by
   rcases hS with h|h|h|h
   ·exact .inl h
   ·exact .inr (.inl h)
   ·exact .inr (.inr (.inl h))
   ·exact .inr (.inr (.inr (.inl h)))
  have:=h.sl g this;have:=hg.le;omega
 have a0:=lt_of_heap h.l;obtain⟨t,hp⟩:=h.p;refine(pR h.l hd (by omega) ⟨fun e=>o (.inl e),fun e=>o (.inr (.inl e)),fun e=>o (.inr (.inr (.inl e)))⟩ Y P).mono ?_;rintro e w' ⟨rfl,a1,u,Q,hC,hf,v⟩;have y:Fr (fun b=>b=q.D∨cu q b) w w':=hf.mono (fun b _ h=>by
  rcases h with h|h|h|h
  ·exact .inl h
  ·exact .inr (.inl h)
  ·exact .inr (.inr (.inl h))
  ·exact .inr (.inr (.inr (.inl h))))
 have z:=y.mono (fun b _ h=>h.elim (fun e=> .inl e) cu.own);have E:=(h.keepP y hp).mono (DC s);have J:=h.keepL y;have K:∀r∈q.L,r.may≠[]∧r.may.length≤2*(s+1)+2:=fun r I=>⟨(h.ml r I).1,by have:=(h.ml r I).2;omega⟩;have G:=Q.tyC;have H:∀b,(u b∧∃c,w'.heap[b]?=some (.cells c 101 (0,0)))→q.S b∨w.heap.size≤b:=fun b a=>(hC b a.1).imp_left (fun h=> .inr (.inr (.inr (.inl h))));have W:f≤w.heap.size:=by have:=h.sl q.D (.inl rfl);omega
 have d:∀m:DQ,m.D=q.D→(∀b,m.S b→q.S b∨w.heap.size≤b)→∀b,m.S b→f≤b:=fun m _ j b a=>by
  rcases j b a with X|X
  ·exact h.sl b X
  ·omega
 rcases v with⟨hi,rfl,M⟩|⟨hi,rfl,⟨R,M⟩|⟨N,M⟩⟩
 ·have j:∀b,DQ.S {q with x:=none,C:=fun b=>u b∧∃c,w'.heap[b]?=some (.cells c 101 (0,0)),F:=fun _=>False} b→q.S b∨w.heap.size≤b:=DQ.S_of rfl (.inl rfl) (.inl rfl) H (fun _ h=>h.elim) q.sG q.sL q.sM;exact⟨rfl,{q with x:=none,C:=fun b=>u b∧∃c,w'.heap[b]?=some (.cells c 101 (0,0)),F:=fun _=>False},rfl,rfl,j,⟨M,.inr ⟨k,_,rs,G,(fun e=>by rw[hi]at e;cases e),fun _=>rfl⟩,⟨t,E⟩,J,E7 h.ln,K,h.ls,h.lo,fun b a=>a.elim,fun b a=>a.2,d _ rfl j,h.n⟩,z⟩
 ·have i:8≤q.n∧q.n≤400:=by simpa[dY]using hi
  have O:eZ q.n (bF Z q.n).2 []:=by
   rcases tS (Jn.wf (V hi).1 (by omega)) i.1 i.2 with⟨_,h⟩|⟨h,_⟩
   ·exact h
   ·exact absurd R h
  have j:∀b,DQ.S {q with nn:=false,em:=false,x:=none,pause:=0,clock:=0,fd:=false,Lv:= .slice none 0 0,L:=[],C:=fun b=>u b∧∃c,w'.heap[b]?=some (.cells c 101 (0,0)),F:=fun _=>False} b→q.S b∨w.heap.size≤b:=DQ.S_of rfl (.inl rfl) (.inl rfl) H (fun _ h=>h.elim) q.sG (fun _ h=>by cases h) (fun _ ⟨_,h,_⟩=>by cases h);exact⟨rfl,{q with nn:=false,em:=false,x:=none,pause:=0,clock:=0,fd:=false,Lv:= .slice none 0 0,L:=[],C:=fun b=>u b∧∃c,w'.heap[b]?=some (.cells c 101 (0,0)),F:=fun _=>False},rfl,rfl,j,⟨M,.inr ⟨k,_,[],G,fun _=>⟨Jn.laid O,.inl rfl⟩,fun _=>rfl⟩,⟨t,E⟩,LG.nil _ _,CH _,(fun r I=>by cases I),(fun r I=>by cases I),.nil,fun b a=>a.elim,fun b a=>a.2,d _ rfl j,h.n⟩,z⟩
 ·have i:8≤q.n∧q.n≤400:=by simpa[dY]using hi
  obtain⟨T,U⟩:=(V hi).1.lay i.1 i.2 N;have j:∀b,DQ.S {q with nn:=true,em:=true,x:=none,C:=fun b=>u b∧∃c,w'.heap[b]?=some (.cells c 101 (0,0)),F:=fun _=>False} b→q.S b∨w.heap.size≤b:=DQ.S_of rfl (.inl rfl) (.inl rfl) H (fun _ h=>h.elim) q.sG q.sL q.sM;exact⟨rfl,{q with nn:=true,em:=true,x:=none,C:=fun b=>u b∧∃c,w'.heap[b]?=some (.cells c 101 (0,0)),F:=fun _=>False},rfl,rfl,j,⟨M,.inr ⟨k,_,T,G,fun _=>⟨U,.inl rfl⟩,fun _=>rfl⟩,⟨t,E⟩,J,E7 h.ln,K,h.ls,h.lo,fun b a=>a.elim,fun b a=>a.2,d _ rfl j,h.n⟩,z⟩
end
end Go.Proofs.YteebjgfalllbjaaGreatDoor
