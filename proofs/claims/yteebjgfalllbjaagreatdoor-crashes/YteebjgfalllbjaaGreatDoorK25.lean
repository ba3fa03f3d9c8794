import Derived.Test.YteebjgfalllbjaaGreatDoorK21
import Derived.Test.YteebjgfalllbjaaGreatDoorK24
namespace Go.Proofs.YteebjgfalllbjaaGreatDoor
open Go.RowKit Go.Proofs.Tryz
set_option maxRecDepth 100000
set_option maxHeartbeats 4000000
theorem jR{w:World}{g:Nat}{id reply:Int}{t:TypeId}(h:w.heap[g]?=some (.cells #[.int .i64 id,.int .i64 reply] t (0,0))):(Instr.loadAt 196 (.pointer (some ⟨g,0,none⟩))).run prog w= .ok (.agg #[.int .i64 id,.int .i64 reply]) w:=Dq w g 0 196 [.int .i64 id,.int .i64 reply] _ (fun j v b=>(Cn w g (0+j) _ _ _ h).trans (by simpa using b)) underlying196 rfl (by kernel_rfl)
section
variable{w:World}{X J R V A B n base e:Nat}{room clock pause calls writes:Int}{ev a:Value}{es:List (Nat×AS)}{s:Bool}{bs:List Value}
theorem sZ(he:aX w X J R clock pause a)(h:aG w R base room ev es)(d:cd es)(U:es.length≤100000){Y:Int}(x:∀p∈es,p.2.Ok Y)(G:Y≤1000000){p:Nat×AS}(H:p∈es)(reply:Int)(a0:¬(p.2.open∧p.2.moves reply=true))(I:1≤pause)(K:pause≤64)(L:0≤clock)(M:clock≤1000000)(nX:p.1≠X):Calls prog 105 #[.pointer (some ⟨X,0,none⟩),.agg #[.int .i64 p.2.id,.int .i64 reply]] w fun e' g=>e'= .returned .nilIface∧aG g R base room ev (eU es p.2.id (·.vain clock pause))∧Fr (fun b=>b=p.1) w g:=by
 have m:=fun(W:World) (hW:aG W R base room ev es)=>rq hW d U x G H clock pause I K L M;have N:Bi es p.2.id reply=false:=by rw[oO d H rfl];by_cases ho:p.2.open<;>cases hm:p.2.moves reply<;>simp_all
 obtain⟨id,y⟩:∃id,id=p.2.id:=⟨_,rfl⟩;rw[←y]at m N⊢;have HB:=af N;clear y N;have z:=aa w (.cells #[.int .i64 id,.int .i64 reply] 196);have k:Fr (fun _=>False) w (w.alloc (.cells #[.int .i64 id,.int .i64 reply] 196)):=(Fr.refl _ _).alloc _;have nM:p.1≠w.heap.size:=by have:=lt_of_heap (h.e p H).2;omega
 have F:∀g,Fr (fun _=>False) (w.alloc (.cells #[.int .i64 id,.int .i64 reply] 196)) g→aX g X J R clock pause a∧g.heap[w.heap.size]?=some (.cells #[.int .i64 id,.int .i64 reply] 196 (0,0)):=fun g Z=>⟨Z.keep (k.keep he jI) jI,Z.keep z jI⟩;go_enter func105,ntmps105;go_wp2_with fail;obtain⟨W,O⟩:=aw ((w.alloc (.cells #[.int .i64 id,.int .i64 reply] 196)).drew);have j:Fr (fun _=>False) (w.alloc (.cells #[.int .i64 id,.int .i64 reply] 196)) W:=by rw[O.out];exact(Fr.refl _ _).drew
 let S:World→Prop:=fun g=>aX g X J R clock pause a∧g.heap[w.heap.size]?=some (.cells #[.int .i64 id,.int .i64 reply] 196 (0,0))
 have u:S W:=F W j;refine dZ S O ?_;clear O;refine bM 0 6 0 (.pointer (some ⟨X,0,none⟩)) rfl u ?_;refine d4 1 7 6 (.pointer (some ⟨X,0,none⟩)) rfl u ?_;refine bT 2 8 91 7 1 (.pointer (some ⟨X,1,none⟩)) rfl u ?_;refine cU 3 9 88 8 (.pointer (some ⟨R,0,none⟩)) ⟨X,1,none⟩ rfl (fun _ d=>(Cn _ X 1 _ _ _ d.1).trans rfl) underlying88 u ?_;refine ig 4 10 196 3 (.agg #[.int .i64 id,.int .i64 reply]) ⟨w.heap.size,0,none⟩ rfl (fun _ d=>jR d.2) u ?_;simp only[Act.put,aC,aB,aE];refine dN 5 11 117 #[.tmp 9,.tmp 10] #[.pointer (some ⟨R,0,none⟩),.agg #[.int .i64 id,.int .i64 reply]] rfl ?_;refine(kF (h.frz (k.trans j fI)) d U x id reply).mono ?_;rintro e1 w2 ⟨rfl,o⟩;rw[HB.out];have q:=(k.trans j fI).trans o fI;have C:=j.trans o fI;have r:S w2:=F _ C;refine⟨_,rfl,r,?_⟩;simp only[Act.put,aC,aB,aE];refine qg (S:=S) (i:=6) (oi:=⟨some 12,.unOp .not 4 (.tmp 11),_,_,_,none⟩) (v:= .bool true) rfl r ?_;simp only[Act.put,aC,aB,aE];refine dn ?_;have h2:=h.frz q;clear u r k j o h;go_wp2_with fail;obtain⟨P,t⟩:=aw w2.drew;have f:=eG t;let Q:World→Prop:=fun g=>aX g X J R clock pause a∧g.heap[w.heap.size]?=some (.cells #[.int .i64 id,.int .i64 reply] 196 (0,0))
 have c:Q P:=F P (C.trans f fI);refine dZ Q t ?_;clear t;refine bM 0 13 0 (.pointer (some ⟨X,0,none⟩)) rfl c ?_;refine d4 1 14 13 (.pointer (some ⟨X,0,none⟩)) rfl c ?_;refine bT 2 15 91 14 1 (.pointer (some ⟨X,1,none⟩)) rfl c ?_;refine cU 3 16 88 15 (.pointer (some ⟨R,0,none⟩)) ⟨X,1,none⟩ rfl (fun _ d=>(Cn _ X 1 _ _ _ d.1).trans rfl) underlying88 c ?_;refine bT 4 17 196 3 0 (.pointer (some ⟨w.heap.size,0,none⟩)) rfl c ?_;refine cU 5 18 3 17 (.int .i64 id) ⟨w.heap.size,0,none⟩ rfl (fun _ d=>(Cn _ w.heap.size 0 _ _ _ d.2).trans rfl) underlying3 c ?_;refine bM 6 19 0 (.pointer (some ⟨X,0,none⟩)) rfl c ?_;refine d4 7 20 19 (.pointer (some ⟨X,0,none⟩)) rfl c ?_;refine bT 8 21 91 20 3 (.pointer (some ⟨X,3,none⟩)) rfl c ?_;refine cU 9 22 3 21 (.int .i64 clock) ⟨X,3,none⟩ rfl (fun _ d=>(Cn _ X 3 _ _ _ d.1).trans rfl) underlying3 c ?_;refine bM 10 23 0 (.pointer (some ⟨X,0,none⟩)) rfl c ?_;refine d4 11 24 23 (.pointer (some ⟨X,0,none⟩)) rfl c ?_;refine bT 12 25 91 24 4 (.pointer (some ⟨X,4,none⟩)) rfl c ?_;refine cU 13 26 3 25 (.int .i64 pause) ⟨X,4,none⟩ rfl (fun _ d=>(Cn _ X 4 _ _ _ d.1).trans rfl) underlying3 c ?_;simp only[Act.put,aC,aB,aE];refine dN 14 27 150 #[.tmp 16,.tmp 18,.tmp 22,.tmp 26] #[.pointer (some ⟨R,0,none⟩),.int .i64 id,.int .i64 clock,.int .i64 pause] rfl ?_;refine(m P (h2.frz f)).mono ?_;rintro e1 T ⟨rfl,D,l⟩;have E:Q T:=⟨l.keep c.1 (fun e=>nX e.symm),l.keep c.2 (fun e=>nM e.symm)⟩;refine⟨_,rfl,E,?_⟩;simp only[Act.put,aC,aB,aE];refine dn ?_;have HE:Hid (aG T R base room ev (eU es id (·.vain clock pause))∧Fr (fun b=>b=p.1) w T):=⟨D,((q.trans f fI).mono (fun _ _ h=>h.elim)).trans l fI⟩
 clear c E D l h2 q f F m;go_wp2;go_ret;exact⟨rfl,HE.out.1,HE.out.2⟩
end
theorem ue{w:World}{g:Nat}{c:CL}{t:TypeId}(h:w.heap[g]?=some (.cells c.cs.toArray t (0,0))):(Instr.loadAt 50 (.pointer (some ⟨g,0,none⟩))).run prog w= .ok (.agg c.cs.toArray) w:=Dq w g 0 50 c.cs _ (fun j v a=>(Cn w g (0+j) _ _ _ h).trans (by simpa using a)) underlying50 rfl bG
theorem cW{P:Program}{b:Array Oper}{Q:Exit→Act→World→Prop}{a:Act}{w:World}{i:Nat}{o:Oper}{K:Act→World→Prop}{f:FuncId}{args:Array Value}(hi:b[i]?=some o)(d:o.guard=none)(j:(execOp a.eval o).run P w= .ok (.enter f args) w)(h:Calls P f args w fun e g=>∃c,e= .panicked c∧Q (.panic c) a g):wpOp P b Q i K a w:=by
 unfold wpOp;have k:Region.wanted o (yielded b a.tmps)=true:=by simp[Region.wanted,d]
 simp only[hi,k,FH,Oper.wp,j,Oper.upon];refine .inl (h.mono fun e g m=>?_);obtain⟨c,rfl,n⟩:=m;exact n
theorem qI(p:Addr)(w:World):CallsD prog 149 #[.pointer (some p)] .returning w fun e a b=>e= .returned (.tuple #[])∧a= .returning∧b=w:=by
 refine Fs func149 rfl fun c₀ cs c=>?_;apply FZ;apply F7;simp[wpOpsS,go_sem,recoverD,c,ntmps149,Exit.thenS];refine wpS_cond (t:=false) (by simp[Act.eval,Array.replicate]) ?_;simp only[Ev,FY];refine wpS_of_wp (wp_skip ?_);cases c₀
 simp_all [bodyPostS,results,Tryz.results149]
theorem nj(p:Addr)(x:Int)(u:TypeId)(b:Value)(a:List PanicEntry)(w:World)(c:w.cell? p=some (.int .i64 x))(d:w.frozen? p=false):CallsD prog 149 #[.pointer (some p)] (.panicking ({v:= .iface u b,recovered:=false}::a)) w fun e f g=>
 e= .returned (.tuple #[])∧f= .panicking ({v:= .iface u b,recovered:=true}::a)∧g=w.setCell p (.int .i64 1):=by
 refine Fs func149 rfl fun c₀ cs h=>?_;apply FZ;apply F7;simp[wpOpsS,go_sem,recoverD,h,ntmps149,Exit.thenS];refine wpS_cond (t:=true) (by simp[Act.eval,Array.replicate]) ?_;simp only[FH];apply F7;simp[wpOpsS,go_sem,c,d,bodyPostS,results,Tryz.results149]
theorem qG{P:Program}{b:Func}{c e:Array Value}{R:Ending→World→Prop}(h:results b c=results b e):∀(a:List Deferred) (u:FrameMode) (w:World),Leaves P b c R a u w=Leaves P b e R a u w:=by
 intro a;induction a with
 |nil=>intro u w;cases u<;>simp only[Leaves,h]
 |cons d a f=>intro u w;simp only[Leaves,f]
theorem dg{R:Ending→World→Prop}{K:Act→World→Prop}{c:List PanicEntry}{a:Act}{w:World}{v:Value}(i:Nat)(hi:i≠4)(h:Exit.then K (bodyPostD prog Tryz.f104 R) (.panic c) (a.put (some i) v) w):Exit.then K (bodyPostD prog Tryz.f104 R) (.panic c) a w:=by
 have e:results Tryz.f104 (a.tmps.setIfInBounds i v)=results Tryz.f104 a.tmps:=by
  have:(a.tmps.setIfInBounds i v)[4]?=a.tmps[4]?:=by rw[Array.getElem?_setIfInBounds,Cz hi]
  simp only[results,Tryz.results104];simp[this]
 have b:Leaves prog Tryz.f104 (a.tmps.setIfInBounds i v) R a.defers (.panicking c) w:=h;rw[qG e]at b;exact b
theorem ry(c:CL)(w:World):Calls prog 120 #[.agg c.cs.toArray] w fun e a=>∃b,e= .panicked [{v:= .iface 9 b,recovered:=false}]∧Fr (fun _=>False) w a:=by obtain⟨c1,c2,c3,c4⟩:=c;unfold CL.cs;go_enter func120,ntmps120;go_wp2;exact⟨rfl,_,rfl,(Fr.refl _ _).alloc _⟩
section
variable{w:World}{X J R Pp:Nat}{clock pause:Int}{l:Value}
theorem uo(c:CL)(K:aX w X J R clock pause (.func (.func 47) #[.pointer (some ⟨Pp,0,none⟩)] #[])){F:Nat→Prop}{Q:Int→World→Prop}(L:∀W,Fr (fun _=>False) w W→w.heap.size+2≤W.heap.size→Calls prog 47 #[.pointer (some ⟨Pp,0,none⟩),.agg c.cs.toArray] W fun e d=>∃k,e= .returned (.int .i64 k)∧Fr F W d∧Q k d)(A:¬F X)(u:∀b,F b→b<w.heap.size)(U:∀k W M,Q k W→Fr (fun b=>b=w.heap.size+1) W M→Q k M):Calls prog 104 #[.pointer (some ⟨X,0,none⟩),.agg c.cs.toArray] w fun e d=>∃k,e= .returned (.int .i64 k)∧Fr F w d∧Q k d:=by
 have V:=re;obtain⟨c1,c2,c3,c4⟩:=c;simp only[CL.cs]at L;have s:Fr (fun _=>False) w ((w.alloc (.cells ([.int .i64 c1,.int .i64 c2,.bool c3,.string c4]:List Value).toArray 50)).alloc (.cells #[.int .i64 0] 3)):=((Fr.refl _ _).alloc _).alloc _;have B:(((w.alloc (.cells ([.int .i64 c1,.int .i64 c2,.bool c3,.string c4]:List Value).toArray 50)).alloc (.cells #[.int .i64 0] 3))).heap[w.heap.size]?=some (.cells ([.int .i64 c1,.int .i64 c2,.bool c3,.string c4]:List Value).toArray 50 (0,0)):=by rw[ai _ _ _ (by simp)];exact aa _ _
 have C:(((w.alloc (.cells ([.int .i64 c1,.int .i64 c2,.bool c3,.string c4]:List Value).toArray 50)).alloc (.cells #[.int .i64 0] 3))).heap[w.heap.size+1]?=some (.cells #[.int .i64 0] 3 (0,0)):=Di w _ _;have N:∀d,Fr (fun _=>False) ((w.alloc (.cells ([.int .i64 c1,.int .i64 c2,.bool c3,.string c4]:List Value).toArray 50)).alloc (.cells #[.int .i64 0] 3)) d→aX d X J R clock pause (.func (.func 47) #[.pointer (some ⟨Pp,0,none⟩)] #[])∧d.heap[w.heap.size]?=some (.cells ([.int .i64 c1,.int .i64 c2,.bool c3,.string c4]:List Value).toArray 50 (0,0)):=fun d O=>⟨O.keep (s.keep K jI) jI,O.keep B jI⟩;unfold CL.cs;go_enter_defers func104,ntmps104;go_wp2_with fail;obtain⟨W,D⟩:=aw (((w.alloc (.cells ([.int .i64 c1,.int .i64 c2,.bool c3,.string c4]:List Value).toArray 50)).alloc (.cells #[.int .i64 0] 3)).drew);have g:Fr (fun _=>False) ((w.alloc (.cells ([.int .i64 c1,.int .i64 c2,.bool c3,.string c4]:List Value).toArray 50)).alloc (.cells #[.int .i64 0] 3)) W:=by rw[D.out];exact(Fr.refl _ _).drew
 let S:World→Prop:=fun d=>aX d X J R clock pause (.func (.func 47) #[.pointer (some ⟨Pp,0,none⟩)] #[])∧d.heap[w.heap.size]?=some (.cells ([.int .i64 c1,.int .i64 c2,.bool c3,.string c4]:List Value).toArray 50 (0,0))
 have r:S W:=N W g;refine dZ S D ?_;clear D;refine DY (S:=S) (i:=0) (oi:=⟨some 6,.move (.tmp 0),_,_,_,none⟩) (v:= .pointer (some ⟨X,0,none⟩)) rfl (by kernel_rfl) (by kernel_rfl) (by kernel_rfl) (fun _ _ _ h=>dg 6 (by decide) h) (Or.inl ⟨rfl,fun _ _=>rfl⟩) r ?_;simp only[Act.put,aC,aB,aE];refine DY (S:=S) (i:=1) (oi:=⟨some 7,.nilCheck (.tmp 6),_,_,_,none⟩) (v:= .pointer (some ⟨X,0,none⟩)) rfl (by kernel_rfl) (by kernel_rfl) (by kernel_rfl) (fun _ _ _ h=>dg 7 (by decide) h) (Or.inl ⟨rfl,fun _ _=>by kernel_rfl⟩) r ?_;simp only[Act.put,aC,aB,aE];refine DY (S:=S) (i:=2) (oi:=⟨some 8,.fieldAddr 91 (.tmp 7) 5,_,_,_,none⟩) (v:= .pointer (some ⟨X,5,none⟩)) rfl (by kernel_rfl) (by kernel_rfl) (by kernel_rfl) (fun _ _ _ h=>dg 8 (by decide) h) (Or.inl ⟨rfl,fun _ _=>by kernel_rfl⟩) r ?_;simp only[Act.put,aC,aB,aE];refine DY (S:=S) (i:=3) (oi:=⟨some 9,.load 89 (.tmp 8),_,_,_,none⟩) (v:=(.func (.func 47) #[.pointer (some ⟨Pp,0,none⟩)] #[])) rfl (by kernel_rfl) (by kernel_rfl) (by kernel_rfl) (fun _ _ _ h=>dg 9 (by decide) h) (Or.inl ⟨rfl,fun d E=>aL 89 (.tmp 8) rfl ⟨X,5,none⟩ rfl (aJ ((Cn _ X 5 _ _ _ E.1).trans rfl) underlying89 rfl)⟩) r ?_;simp only[Act.put,aC,aB,aE];refine DY (S:=S) (i:=4) (oi:=⟨some 10,.load 50 (.tmp 3),_,_,_,none⟩) (v:= .agg ([.int .i64 c1,.int .i64 c2,.bool c3,.string c4]:List Value).toArray) rfl (by kernel_rfl) (by kernel_rfl) (by kernel_rfl) (fun _ _ _ h=>dg 10 (by decide) h) (Or.inl ⟨rfl,fun d E=>aL 50 (.tmp 3) rfl ⟨w.heap.size,0,none⟩ rfl (ue (c:=⟨c1,c2,c3,c4⟩) E.2)⟩) r ?_;simp only[Act.put,aC,aB,aE];refine cj 5 ?_
 refine bl (o:=⟨some 11,.call {callee:= .value (.tmp 9),args:=#[.tmp 10],argTypes:=_},_,_,_,none⟩) (f:=47) (args:=#[.pointer (some ⟨Pp,0,none⟩),.agg ([.int .i64 c1,.int .i64 c2,.bool c3,.string c4]:List Value).toArray]) rfl rfl (by kernel_rfl) ?_;refine(L W (s.trans g fI) (by have:=g.size;simp at this;omega)).mono ?_;rintro Y m ⟨k,rfl,j,T⟩;have G:¬F w.heap.size:=fun h=>by have:=u _ h;omega
 have H:¬F (w.heap.size+1):=fun h=>by have:=u _ h;omega
 have n:S m:=⟨j.keep r.1 A,j.keep r.2 G⟩;refine⟨_,rfl,n,?_⟩;simp only[Act.put,aC,aB,aE];refine cj 6 ?_;have p:=j.keep (g.keep C jI) H;have x:=ah (P:=prog) (w:=m) (a:=⟨w.heap.size+1,0,none⟩) (t:=3) (v:= .int .i64 k) ((Cn _ _ 0 _ _ _ p).trans rfl) (CN _ _ 0 _ _ p) (by kernel_rfl) rfl;have y:=ag m (w.heap.size+1) 0 _ _ (.int .i64 k) p;have q:Fr (fun b=>b=w.heap.size+1) m (m.setCell ⟨w.heap.size+1,0,none⟩ (.int .i64 k)):=Fr.set1 _ _ _ _;have I:X≠w.heap.size+1:=by have:=lt_of_heap K;omega
 have z:S (m.setCell ⟨w.heap.size+1,0,none⟩ (.int .i64 k)):=⟨q.keep n.1 I,q.keep n.2 (by omega)⟩;refine aA (o:=⟨none,.store 3 (.tmp 4) (.tmp 11),_,_,_,none⟩) (w':=m.setCell ⟨w.heap.size+1,0,none⟩ (.int .i64 k)) rfl rfl (ar 3 _ _ rfl ⟨w.heap.size+1,0,none⟩ _ rfl rfl x) ⟨z,?_⟩;simp only[Act.put];refine dn ?_;have Z:(m.setCell ⟨w.heap.size+1,0,none⟩ (.int .i64 k)).cell? ⟨w.heap.size+1,0,none⟩=some (.int .i64 k):=(Cn _ _ 0 _ _ _ y).trans rfl;have HE:Hid (Fr F w (m.setCell ⟨w.heap.size+1,0,none⟩ (.int .i64 k))∧Q k (m.setCell ⟨w.heap.size+1,0,none⟩ (.int .i64 k))):=⟨((((s.trans g fI).mono (fun _ _ h=>h.elim)).trans j fI)).setCell _ (fun h=>by simp at h;omega) _,U k _ _ T q⟩;clear z q y x p n T j r g N;go_wp2;refine Fv (f:=149) (args:=#[.pointer (some ⟨w.heap.size+1,0,none⟩)]) (by simp) (by simp[go_sem]) ?_;refine(qI ⟨w.heap.size+1,0,none⟩ _).mono ?_;rintro Y u' a0 ⟨rfl,rfl,rfl⟩;simp[Leaves,settle,results,Tryz.results104,go_sem,Z];exact HE.out
theorem pZ(c:CL)(u:aX w X J R clock pause (.func (.func 120) #[] #[])):Calls prog 104 #[.pointer (some ⟨X,0,none⟩),.agg c.cs.toArray] w fun e a=>e= .returned (.int .i64 1)∧Fr (fun _=>False) w a:=by
 have x:=re;obtain⟨c1,c2,c3,c4⟩:=c;have k:Fr (fun _=>False) w ((w.alloc (.cells ([.int .i64 c1,.int .i64 c2,.bool c3,.string c4]:List Value).toArray 50)).alloc (.cells #[.int .i64 0] 3)):=((Fr.refl _ _).alloc _).alloc _;have m:(((w.alloc (.cells ([.int .i64 c1,.int .i64 c2,.bool c3,.string c4]:List Value).toArray 50)).alloc (.cells #[.int .i64 0] 3))).heap[w.heap.size]?=some (.cells ([.int .i64 c1,.int .i64 c2,.bool c3,.string c4]:List Value).toArray 50 (0,0)):=by rw[ai _ _ _ (by simp)];exact aa _ _
 have n:(((w.alloc (.cells ([.int .i64 c1,.int .i64 c2,.bool c3,.string c4]:List Value).toArray 50)).alloc (.cells #[.int .i64 0] 3))).heap[w.heap.size+1]?=some (.cells #[.int .i64 0] 3 (0,0)):=Di w _ _;have s:∀a,Fr (fun _=>False) ((w.alloc (.cells ([.int .i64 c1,.int .i64 c2,.bool c3,.string c4]:List Value).toArray 50)).alloc (.cells #[.int .i64 0] 3)) a→aX a X J R clock pause (.func (.func 120) #[] #[])∧a.heap[w.heap.size]?=some (.cells ([.int .i64 c1,.int .i64 c2,.bool c3,.string c4]:List Value).toArray 50 (0,0)):=fun a t=>⟨t.keep (k.keep u jI) jI,t.keep m jI⟩;unfold CL.cs;go_enter_defers func104,ntmps104;go_wp2_with fail;obtain⟨W,p⟩:=aw (((w.alloc (.cells ([.int .i64 c1,.int .i64 c2,.bool c3,.string c4]:List Value).toArray 50)).alloc (.cells #[.int .i64 0] 3)).drew);have b:Fr (fun _=>False) ((w.alloc (.cells ([.int .i64 c1,.int .i64 c2,.bool c3,.string c4]:List Value).toArray 50)).alloc (.cells #[.int .i64 0] 3)) W:=by rw[p.out];exact(Fr.refl _ _).drew
 let S:World→Prop:=fun a=>aX a X J R clock pause (.func (.func 120) #[] #[])∧a.heap[w.heap.size]?=some (.cells ([.int .i64 c1,.int .i64 c2,.bool c3,.string c4]:List Value).toArray 50 (0,0))
 have j:S W:=s W b;refine dZ S p ?_;clear p;refine DY (S:=S) (i:=0) (oi:=⟨some 6,.move (.tmp 0),_,_,_,none⟩) (v:= .pointer (some ⟨X,0,none⟩)) rfl (by kernel_rfl) (by kernel_rfl) (by kernel_rfl) (fun _ _ _ h=>dg 6 (by decide) h) (Or.inl ⟨rfl,fun _ _=>rfl⟩) j ?_;simp only[Act.put,aC,aB,aE];refine DY (S:=S) (i:=1) (oi:=⟨some 7,.nilCheck (.tmp 6),_,_,_,none⟩) (v:= .pointer (some ⟨X,0,none⟩)) rfl (by kernel_rfl) (by kernel_rfl) (by kernel_rfl) (fun _ _ _ h=>dg 7 (by decide) h) (Or.inl ⟨rfl,fun _ _=>by kernel_rfl⟩) j ?_;simp only[Act.put,aC,aB,aE];refine DY (S:=S) (i:=2) (oi:=⟨some 8,.fieldAddr 91 (.tmp 7) 5,_,_,_,none⟩) (v:= .pointer (some ⟨X,5,none⟩)) rfl (by kernel_rfl) (by kernel_rfl) (by kernel_rfl) (fun _ _ _ h=>dg 8 (by decide) h) (Or.inl ⟨rfl,fun _ _=>by kernel_rfl⟩) j ?_;simp only[Act.put,aC,aB,aE];refine DY (S:=S) (i:=3) (oi:=⟨some 9,.load 89 (.tmp 8),_,_,_,none⟩) (v:=(.func (.func 120) #[] #[])) rfl (by kernel_rfl) (by kernel_rfl) (by kernel_rfl) (fun _ _ _ h=>dg 9 (by decide) h) (Or.inl ⟨rfl,fun a q=>aL 89 (.tmp 8) rfl ⟨X,5,none⟩ rfl (aJ ((Cn _ X 5 _ _ _ q.1).trans rfl) underlying89 rfl)⟩) j ?_;simp only[Act.put,aC,aB,aE];refine DY (S:=S) (i:=4) (oi:=⟨some 10,.load 50 (.tmp 3),_,_,_,none⟩) (v:= .agg ([.int .i64 c1,.int .i64 c2,.bool c3,.string c4]:List Value).toArray) rfl (by kernel_rfl) (by kernel_rfl) (by kernel_rfl) (fun _ _ _ h=>dg 10 (by decide) h) (Or.inl ⟨rfl,fun a q=>aL 50 (.tmp 3) rfl ⟨w.heap.size,0,none⟩ rfl (ue (c:=⟨c1,c2,c3,c4⟩) q.2)⟩) j ?_;simp only[Act.put,aC,aB,aE];refine cj 5 ?_
 refine cW (o:=⟨some 11,.call {callee:= .value (.tmp 9),args:=#[.tmp 10],argTypes:=_},_,_,_,none⟩) (f:=120) (args:=#[.agg ([.int .i64 c1,.int .i64 c2,.bool c3,.string c4]:List Value).toArray]) rfl rfl (by kernel_rfl) ?_;refine(ry ⟨c1,c2,c3,c4⟩ W).mono ?_;rintro y r ⟨z,rfl,d⟩;refine⟨_,rfl,?_⟩;have g:=d.keep (b.keep n jI) jI;have A:=af ((k.trans b fI).trans d fI);clear j b s d;refine Fv (f:=149) (args:=#[.pointer (some ⟨w.heap.size+1,0,none⟩)]) (by simp) (by simp[go_sem]) ?_;refine(nj ⟨w.heap.size+1,0,none⟩ 0 9 z [] r ((Cn _ _ 0 _ _ _ g).trans rfl) (CN _ _ 0 _ _ g)).mono ?_;rintro y D B ⟨rfl,rfl,rfl⟩;have C:(r.setCell ⟨w.heap.size+1,0,none⟩ (.int .i64 1)).cell? ⟨w.heap.size+1,0,none⟩=some (.int .i64 1):=(Cn _ _ 0 _ _ _ (ag r (w.heap.size+1) 0 _ _ (.int .i64 1) g)).trans rfl;simp[Leaves,settle,results,Tryz.results104,go_sem,C];exact A.out.setCell _ (fun h=>by simp at h;omega) _
end
theorem xQ(c:CL)(w:World):(binOp .neq 50 (.agg c.cs.toArray) (.agg c.cs.toArray)).run prog w= .ok (.bool false) w:=by obtain⟨c1,c2,c3,c4⟩:=c;unfold CL.cs;go_simp
def AS.after(a:AS)(r:Nat)(clock pause:Int):AS:=if a.moves r=true then a.go r else a.vain clock pause
def mJ(k r:Nat):List Value:=di 3 (be k r [] 0) 4
section
variable{w w':World}{X J R V A B n base e:Nat}{room clock pause calls writes:Int}{ev b:Value}{es:List (Nat×AS)}{s:Bool}{bs:List Value}
theorem lI(a:cd es){p:Nat×AS}(c:p∈es){f g:AS→AS}(h:f p.2=g p.2):eU es p.2.id f=eU es p.2.id g:=by
 refine DU fun q d=>?_;show(if q.2.id=p.2.id then(q.1,f q.2)else q)=(if q.2.id=p.2.id then(q.1,g q.2)else q);by_cases e:q.2.id=p.2.id
 ·rw[CE e,CE e,cF a d c e,h]
 ·rw[Cz e,Cz e]
end
theorem yZ(zs:List ST)(i:Nat)(z:ST)(h:zs[i]?=some z)(j:Nat)(v:Value)(c:z.cs[j]?=some v):(zs.map ST.cs).flatten[i*6+j]?=some v:=by
 induction zs generalizing i with
 |nil=>simp at h
 |cons a l d=>
  have e:j<6:=(Co.1 c).1;rw[CY,Ei];cases i with
  |zero=>
   obtain rfl:a=z:=by simpa using h
   rw[CI (by rw[ST.len];omega),F5,D5];exact c
  |succ i=>
   rw[CG (by rw[ST.len];omega),ST.len,show(i+1)*6+j-6=i*6+j by omega];exact d i (by simpa using h)
def PT(t:TypeId):Prop:=t=48∨t=52∨t=50∨t=3
structure rT(e:Value) where
 σ:Type
 PA:σ→(Nat→Prop)→World→Prop
 sz:σ→Nat
 ask:σ→CL→Nat×σ
 fr:∀{S F:Nat→Prop} {w w':World} {s:σ},PA s F w→Fr S w w'→(∀b,F b→¬S b)→PA s F w'
 ty:∀{F:Nat→Prop} {w:World} {s:σ} {b:Nat},PA s F w→F b→∃c t,w.heap[b]?=some (.cells c t (0,0))∧PT t
 le:∀s c,(ask s c).1≤2
 szs:∀s c,sz (ask s c).2≤sz s+1
 rep:∀{F:Nat→Prop} {w:World} {s:σ} {X J R:Nat} {clock pause:Int} (c:CL),PA s F w→sz s<20000000→aX w X J R clock pause e→Calls prog 104 #[.pointer (some ⟨X,0,none⟩),.agg c.cs.toArray] w fun e' w'=>e'= .returned (.int .i64 ((ask s c).1:Nat))∧Fr F w w'∧∃F',PA (ask s c).2 F' w'∧(∀b,F' b→F b∨w.heap.size≤b)
section
variable{e:Value}(P:rT e)(ck pause:Int)
def aT(a:AS)(s:P.σ):AS×P.σ×List (Nat×Nat):=if a.open∧a.due≤ck then(a.after (P.ask s a.asks).1 ck pause,(P.ask s a.asks).2,if a.moves (P.ask s a.asks).1=true then[(a.id.toNat,(P.ask s a.asks).1)]else[])else(a,s,[])
def aq:List AS→P.σ→List AS×P.σ×List (Nat×Nat)
 |[],s=>([],s,[])
 |a::l,s=>((aT P ck pause a s).1::(aq l (aT P ck pause a s).2.1).1,(aq l (aT P ck pause a s).2.1).2.1,(aT P ck pause a s).2.2++(aq l (aT P ck pause a s).2.1).2.2)
theorem mp(l:List AS)(a:AS)(s:P.σ):aq P ck pause (l++[a]) s=((aq P ck pause l s).1++[(aT P ck pause a (aq P ck pause l s).2.1).1],(aT P ck pause a (aq P ck pause l s).2.1).2.1,(aq P ck pause l s).2.2++(aT P ck pause a (aq P ck pause l s).2.1).2.2):=by
 induction l generalizing s with
 |nil=>simp[aq]
 |cons b l c=>simp[aq,c]
theorem AS.after_id(a:AS)(r:Nat):(a.after r ck pause).id=a.id∧(a.after r ck pause).st=a.st:=by unfold AS.after;split<;>exact⟨rfl,rfl⟩
theorem jq(a:AS)(s:P.σ):(aT P ck pause a s).1.id=a.id∧(aT P ck pause a s).1.st=a.st:=by
 unfold aT;split
 ·exact AS.after_id ck pause a _
 ·exact⟨rfl,rfl⟩
theorem uC(l:List AS)(s:P.σ):(aq P ck pause l s).1.map (·.id)=l.map (·.id):=by
 induction l generalizing s with
 |nil=>rfl
 |cons a l b=>simp only[aq,CY,b,(jq P ck pause a s).1]
theorem qD(l:List AS)(s:P.σ):P.sz (aq P ck pause l s).2.1≤P.sz s+l.length:=by
 induction l generalizing s with
 |nil=>simp[aq]
 |cons a l b=>
  have c:=b (aT P ck pause a s).2.1;have d:P.sz (aT P ck pause a s).2.1≤P.sz s+1:=by
   unfold aT;split
   ·exact P.szs _ _
   ·simp
  simp only[aq,DA];omega
theorem AS.Ok.mono{a:AS}{c b:Int}(h:a.Ok c)(d:c≤b):a.Ok b:=⟨h.s,h.p,h.l1,h.l6,h.t0,by have:=h.t1;omega⟩
theorem sK{a:AS}(s:P.σ)(h:a.Ok (ck-1))(d:0≤ck):(aT P ck pause a s).1.Ok ck∧(aT P ck pause a s).1.left+(aT P ck pause a s).2.2.length≤a.left:=by
 unfold aT;by_cases b:a.open∧a.due≤ck
 ·rw[CE b];by_cases c:a.moves (P.ask s a.asks).1=true
  ·have:=h.go (reply:=((P.ask s a.asks).1:Nat)) (clock:=ck) d b.1 c;simp only[AS.after,c,FH,CM];exact this
  ·simp only[AS.after,c];exact⟨h.vain,Cs _⟩
 ·rw[Cz b];exact⟨h.mono (by omega),by simp⟩
theorem mh(l:List AS)(s:P.σ)(h:∀a∈l,a.Ok (ck-1))(g:0≤ck):(∀a∈(aq P ck pause l s).1,a.Ok ck)∧((aq P ck pause l s).1.map AS.left).sum+(aq P ck pause l s).2.2.length≤(l.map AS.left).sum:=by
 induction l generalizing s with
 |nil=>simp[aq]
 |cons a l i=>
  have d:=sK P ck pause s (h a (by simp)) g;have f:=i (aT P ck pause a s).2.1 (fun b c=>h b (by simp[c]));simp only[aq,CY,EK,Cr];refine⟨fun b c=>?_,by have:=d.2;have:=f.2;omega⟩;rcases CF.1 c with rfl|c
  ·exact d.1
  ·exact f.1 b c
end
section
variable{es:List (Nat×AS)}
theorem jT(d r:List AS)(a:AS)(f:AS→AS)(c:(d++a::r).Pairwise (fun a b=>a.id<b.id)):(d++a::r).map (fun b=>if b.id=a.id then f b else b)=d++f a::r:=by
 rw[Dt,Ds]at c;have h:d.map (fun b=>if b.id=a.id then f b else b)=d:=by refine(DU fun b g=>?_).trans (List.map_id _);have:=c.2.2 b g a (by simp);rw[Cz (by omega)];rfl
 have i:r.map (fun b=>if b.id=a.id then f b else b)=r:=by refine(DU fun b g=>?_).trans (List.map_id _);have:=c.2.1.1 b g;rw[Cz (by omega)];rfl
 rw[CV,CY,h,i,CE rfl]
theorem pH(id:Int)(f:AS→AS):(eU es id f).map (·.2)=(es.map (·.2)).map (fun b=>if b.id=id then f b else b):=by
 rw[eU,Dv,Dv];refine DU fun p _=>?_;show(if p.2.id=id then(p.1,f p.2)else p).2=if p.2.id=id then f p.2 else p.2
 split<;>rfl
theorem qT(id:Int)(f:AS→AS):(eU es id f).map (·.1)=es.map (·.1):=by rw[eU,Dv];refine DU fun p _=>?_;show(if p.2.id=id then(p.1,f p.2)else p).1=p.1;split<;>rfl
theorem ki{a:List (Nat×AS)}(h:a.map (·.1)=es.map (·.1))(R:Nat)(ev:Value)(b:Nat):dc R ev a b↔dc R ev es b:=by
 have c:∀l:List (Nat×AS),(∃p∈l,b=p.1)↔b∈l.map (·.1):=fun l=>by
  constructor
  ·rintro⟨p,d,rfl⟩;exact Cx.2 ⟨p,d,rfl⟩
  ·intro f;obtain⟨p,d,rfl⟩:=Cx.1 f;exact⟨p,d,rfl⟩
 unfold dc;rw[c,c,h]
end
def n7(m:Nat×Nat):List Value:=mJ m.1 m.2
theorem tU(m:Nat×Nat):(n7 m).length=128:=bX 3 _ (dM _ _) 4 (by omega)
inductive ba where
 |take (id:Nat) (st:List SS)
 |move (id r:Nat)
def ba.bytes:ba→List Value
 | .take id st=>Bf (id,st)
 | .move id r=>n7 (id,r)
def ba.need:ba→Nat
 | .take _ st=>2*st.length
 | .move _ _=>0
def bA(a:List ba):Nat:=(a.map ba.need).sum
def uc(L:List AS)(id r:Int):List AS:=L.map fun a=>if a.id=id then a.go r else a
def ba.on(L:List AS):ba→List AS
 | .take id st=>dS (bS id st) L
 | .move id r=>uc L id r
def bh(a:List ba):List AS:=a.foldl ba.on []
def ba.Ok(L:List AS):ba→Prop
 | .take id st=>aO id st=true∧∀a∈L,a.id≠id
 | .move id r=>r≤2∧id≤1000∧∃a∈L,a.id=id∧a.open∧a.moves r=true
def bE(a:List ba):Prop:=∀(i:Nat) (r:ba),a[i]?=some r→r.Ok (bh (a.take i))
theorem dw(a:List ba)(r:ba):bh (a++[r])=ba.on (bh a) r:=by simp[bh]
theorem dr(a:List ba)(r:ba):bA (a++[r])=bA a+r.need:=by simp[bA]
theorem cK:bE []:=fun i r h=>by simp at h
theorem dl{b:List ba}{r:ba}:bE (b++[r])↔bE b∧r.Ok (bh b):=by
 constructor
 ·intro h;refine⟨fun i q a=>?_,?_⟩
  ·have hi:=(Co.1 a).1;have:=h i q (by rw[CI hi];exact a);rwa[DH (by omega)]at this
  ·have:=h b.length r (by simp);rwa[DH (Cs _),Dj]at this
 ·rintro⟨c,e⟩ i q a;by_cases hi:i<b.length
  ·rw[CI hi]at a;rw[DH (by omega)];exact c i q a
  ·have d:=(Co.1 a).1;rw[Cr,CM]at d;obtain rfl:i=b.length:=by omega
   rw[CG (Cs _)]at a;obtain rfl:r=q:=by simpa using a
   rwa[DH (Cs _),Dj]
theorem qZ(L:List AS)(id r:Int):(uc L id r).map AS.zero=uc (L.map AS.zero) id r:=by
 rw[uc,uc,Dv,Dv];refine DU fun a _=>?_;show AS.zero (if a.id=id then a.go r else a)=if a.id=id then a.zero.go r else a.zero
 by_cases h:a.id=id
 ·rw[CE h,CE h];rfl
 ·rw[Cz h,Cz h]
theorem uE(b:AS)(L:List AS):(dS b L).map AS.zero=dS b.zero (L.map AS.zero):=by simp only[dS,CV,CY,List.takeWhile_map,List.dropWhile_map,Function.comp_def];rfl
theorem yI(L:List AS)(id r:Int):(uc L id r).map (·.id)=L.map (·.id):=by rw[uc,Dv];refine DU fun a _=>?_;show(if a.id=id then a.go r else a).id=a.id;split<;>rfl
theorem cT{L:List AS}:L.Pairwise (fun a b=>a.id<b.id)↔(L.map (·.id)).Pairwise (· < ·):=by rw[Dw]
theorem lA{L:List AS}(h:L.Pairwise (fun a b=>a.id<b.id)){a b:AS}(f:a∈L)(g:b∈L)(e:a.id=b.id):a=b:=by
 obtain⟨i,hi,rfl⟩:=DZ.1 f;obtain⟨j,d,rfl⟩:=DZ.1 g;rcases EJ i j with c|rfl|c
 ·have:=D7.1 h i j hi d c;omega
 ·rfl
 ·have:=D7.1 h j i d hi c;omega
theorem yR{L:List AS}(h:L.Pairwise (fun a b=>a.id<b.id)){a:AS}(c:a∈L)(r:Int)(f:(a.go r).left+1≤a.left):((uc L a.id r).map AS.left).sum+1≤(L.map AS.left).sum:=by obtain⟨d,t,rfl⟩:=List.append_of_mem c;have e:uc (d++a::t) a.id r=d++a.go r::t:=jT d t a (fun b=>b.go r) h;rw[e];simp only[CV,CY,Er,EK];omega
structure AO(rs:List ba):Prop where
 so:(bh rs).Pairwise (fun a b=>a.id<b.id)
 ok:∀a∈bh rs,a.Ok 0∧aO a.id a.st=true∧AS.zero a=a
 lf:rs.length+((bh rs).map AS.left).sum≤bA rs
 nd:((bh rs).map fun a=>2*a.st.length).sum=bA rs
 ln:2*(bh rs).length≤bA rs
theorem ze{id:Nat}{st:List SS}(h:aO id st=true):(bS id st).Ok 0∧(bS id st).left=2*st.length-1:=by obtain⟨_,_,a,b,_⟩:=cZ id st h;exact⟨⟨.inl rfl,fun _=>⟨DL _,by show(1:Int)≤st.length;omega⟩,a,b,DL _,DL _⟩,by simp[AS.left,bS]⟩
theorem gH{d:List ba}(h:bE d):AO d:=by
 revert h;refine xM (P:=fun d=>bE d→AO d) (fun _=>⟨.nil,by simp[bh],by simp[bh,bA],by simp[bh,bA],by simp[bh,bA]⟩) (fun d r v h=>?_) d;obtain⟨w,q⟩:=dl.1 h;have g:=v w;cases r with
 |take id st=>
  obtain⟨m,s⟩:=q;have t:=ze m;obtain⟨_,_,x,y,_⟩:=cZ id st m;have e:bh (d++[.take id st])=dS (bS id st) (bh d):=dw _ _;have f:bA (d++[.take id st])=bA d+2*st.length:=dr _ _;have j:(dS (bS id st) (bh d)).length=(bh d).length+1:=by have h:=Ej List.length (EL (p:=fun c=>decide (c.id<(bS id st).id)) (l:=bh d));rw[Cr]at h;unfold dS;rw[Cr,DA];omega
  refine⟨by rw[e];exact qV g.so s,?_,?_,?_,?_⟩
  ·rw[e];intro a i;rcases cP.1 i with rfl|i
   ·exact⟨t.1,m,rfl⟩
   ·exact g.ok a i
  ·rw[e,f,qR,t.2,Cr,CM];have:=g.lf;omega
  ·rw[e,f,qR,g.nd,xP];omega
  ·rw[e,f,j];have:=g.ln;omega
 |move id r=>
  obtain⟨m,s,a,i,n,z,A⟩:=q;have e:bh (d++[.move id r])=uc (bh d) id r:=dw _ _;have f:bA (d++[.move id r])=bA d:=dr _ _;have u:=(g.ok a i).1.go (clock:=0) (DL _) z A;refine⟨by rw[e,cT,yI,←cT];exact g.so,?_,?_,?_,?_⟩
  ·rw[e];intro b B;obtain⟨c,o,rfl⟩:=Cx.1 B;by_cases k:c.id=id
   ·obtain rfl:=lA g.so o i (by omega);rw[CE k];exact⟨u.1,(g.ok c o).2.1,rfl⟩
   ·rw[Cz k];exact g.ok c o
  ·have:=yR g.so i r u.2;have C:=g.lf;rw[e,f,Cr,CM,←n];omega
  ·rw[e,f,←g.nd,uc,Dv];congr 1;refine DU fun c _=>?_;show 2*(if c.id=id then c.go r else c).st.length=2*c.st.length;split<;>rfl
  ·rw[e,f,uc,CR];exact g.ln
theorem AS.zero_ok{a:AS}{c:Int}(h:a.zero.Ok c)(b:0≤a.tries)(d:a.tries≤c):a.Ok c:=⟨h.s,h.p,h.l1,h.l6,b,d⟩
theorem ba.bytes_ok{L:List AS}{r:ba}(h:r.Ok L):jN r.bytes:=by
 cases r with
 |take id st=>exact tg (p:=(id,st)) h.1
 |move id r=>
  have a:∀v∈be id r [] 0,v.oneCell'=true:=dA _ _ _ _;exact⟨tU (id,r),eF 3 _ a 4,fun _=>3,fun i hi=>iP 3 _ (dM _ _) i hi,by decide⟩
theorem rZ{a:List ba}(h:bE a):∀b∈a.map ba.bytes,jN b:=by intro b c;obtain⟨r,d,rfl⟩:=Cx.1 c;obtain⟨i,hi⟩:=E6.1 d;exact ba.bytes_ok (h i r hi)
def gV(m:Nat×Nat):ba:= .move m.1 m.2
theorem wh(l:List (Nat×Nat)):(l.map gV).map ba.bytes=l.map n7:=by rw[Dv];rfl
theorem sH{w:Value}(P:rT w)(g pause:Int)(l:List AS):∀(s:P.σ) (d:List AS) (c:List ba),(d++l).Pairwise (fun a b=>a.id<b.id)→(∀a∈l,1≤a.id∧a.id≤1000)→bE c→(d++l).map AS.zero=bh c→bE (c++(aq P g pause l s).2.2.map gV)∧(d++(aq P g pause l s).1).map AS.zero=bh (c++(aq P g pause l s).2.2.map gV):=by
 induction l with
 |nil=>intro s d c _ _ x y;simpa[aq]using⟨x,by simpa using y⟩
 |cons a l z=>
  intro s d c o i h n;obtain⟨T,e⟩:∃T,T=aT P g pause a s:=⟨_,rfl⟩;have j:T.1.id=a.id:=by rw[e];exact(jq P g pause a s).1
  have k:bE (c++T.2.2.map gV)∧(d++T.1::l).map AS.zero=bh (c++T.2.2.map gV):=by
   unfold aT at e;by_cases p:a.open∧a.due≤g
   ·rw[CE p]at e;obtain⟨r,v⟩:∃r,r=(P.ask s a.asks).1:=⟨_,rfl⟩;have q:r≤2:=by rw[v];exact P.le _ _
    rw[←v]at e;by_cases m:a.moves r=true
    ·rw[CE m,AS.after,CE m]at e;subst e;have A:=i a (by simp);have t:a.zero∈bh c:=by rw[←n];simp
     have f:((a.id.toNat:Nat):Int)=a.id:=by omega
     refine⟨?_,?_⟩
     ·show bE (c++[.move a.id.toNat r]);exact dl.2 ⟨h,q,by omega,a.zero,t,f.symm,p.1,m⟩
     ·show(d++a.go r::l).map AS.zero=bh (c++[.move a.id.toNat r]);rw[dw];show _=uc (bh c) ((a.id.toNat:Nat):Int) r;rw[←n,f,←qZ];congr 1;exact(jT d l a (fun b=>b.go r) o).symm
    ·rw[Cz m,AS.after,Cz m]at e;subst e;refine⟨by simpa using h,?_⟩;show(d++a.vain g pause::l).map AS.zero=bh (c++[]);rw[D4,←n];simp only[CV,CY];rfl
   ·rw[Cz p]at e;subst e;exact⟨by simpa using h,by simpa using n⟩
  have u:((d++[T.1])++l).Pairwise (fun a b=>a.id<b.id):=by rw[cT]at o⊢;simpa[j]using o
  have:=z T.2.1 (d++[T.1]) (c++T.2.2.map gV) u (fun b B=>i b (by simp[B])) k.1 (by simpa using k.2);simp only[aq,←e,CV];simpa[List.append_assoc]using this
end Go.Proofs.YteebjgfalllbjaaGreatDoor
