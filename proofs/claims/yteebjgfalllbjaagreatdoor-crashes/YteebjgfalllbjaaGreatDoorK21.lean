import Derived.Test.YteebjgfalllbjaaGreatDoorK13
import Derived.Test.YteebjgfalllbjaaGreatDoorK20
namespace Go.Proofs.YteebjgfalllbjaaGreatDoor
open Go.RowKit Go.Proofs.Tryz
set_option maxRecDepth 100000
set_option maxHeartbeats 4000000
section
open Go.Extern.Stop Go.Stop Go.Extern
theorem Ag(g t f b:Nat)(a:Addr)(k:Int)(c:Value)(w:World)(s:w.cell? a=some (.pointer (some ⟨b,0,none⟩)))(j:a.block<w.heap.size)(o:w.cell? ⟨g,1,none⟩=some (.iface 258 (.pointer (some ⟨t,0,none⟩))))(d:w.cell? ⟨t,0,none⟩=some (.pointer (some ⟨f,0,none⟩)))(e:w.cell? ⟨f,1,none⟩=some (.iface 59 (.int .i64 k)))(l:w.cell? ⟨b,0,none⟩=some c)(u:w.frozen? ⟨b,0,none⟩=false):Calls prog 71 #[.iface 117 (.pointer (some ⟨g,0,none⟩)),.iface 99 (.pointer (some ⟨b,0,none⟩)),.agg #[.pointer (some ⟨4,99,none⟩),.pointer (some a),.int .u64 150],.iface 198 (.agg #[.pointer (some ⟨4,59,none⟩)])] w fun ev p=>ev= .returned (.bool true)∧p.cell? ⟨b,0,none⟩=some (.int .i64 k)∧Fr (· =b) w p:=by
 have v:=@run_callFunc_extern prog 68 _ (fun args=>ReflectliteValue.unpack (args.getD 0 (.tuple #[]))) func68 (by kernel_rfl) (by kernel_rfl) (by kernel_rfl) (by kernel_rfl);have x:=@run_callFunc_extern prog 106 _ ReflectliteType.typeOf func106 (by kernel_rfl) (by kernel_rfl) (by kernel_rfl) (by kernel_rfl);have q:=@run_callFunc_extern prog 217 _ (ReflectliteType.relation "AssignableTo" ReflectliteType.assignableTo) func217 (by kernel_rfl) (by kernel_rfl) (by kernel_rfl) (by kernel_rfl);have y:=@run_callFunc_extern prog 107 _ (ReflectliteValue.method (ReflectliteValue.valueError "reflectlite.Value.Elem" 0) ReflectliteValue.elem) func107 (by kernel_rfl) (by kernel_rfl) (by kernel_rfl) (by kernel_rfl);have z:=@run_callFunc_extern prog 108 _ ReflectliteValue.set func108 (by kernel_rfl) (by kernel_rfl) (by kernel_rfl) (by kernel_rfl);have B:=mg;have C:=lY;have D:=dF;have E:=lP;have F:=mO;have G:=kK;have H:=hU;have I:=gZ;have J:=kP;have K:=rg;have L:=ru;have M:=pV;have N:=ll;have h:t<w.heap.size:=Cw w _ d;have m:f<w.heap.size:=Cw w _ e;have O:=lp t f (w.alloc (.cells #[.pointer (some ⟨4,99,none⟩),.pointer (some a),.int .u64 150] 144)) (by rw[CD _ _ ⟨t,0,none⟩ h];exact d);have r:(w.alloc (.cells #[.pointer (some ⟨4,99,none⟩),.pointer (some a),.int .u64 150] 144)).cell? ⟨f,1,none⟩=some (.iface 59 (.int .i64 k)):=by rw[CD _ _ ⟨f,1,none⟩ m];exact e
 have n:g<w.heap.size:=Cw w _ o;have i:b<w.heap.size:=Cw w _ l;have A:(w.alloc (.cells #[.pointer (some ⟨4,99,none⟩),.pointer (some a),.int .u64 150] 144)).cell? ⟨g,1,none⟩=some (.iface 258 (.pointer (some ⟨t,0,none⟩))):=by rw[CD _ _ ⟨g,1,none⟩ n];exact o
 have P:=nU a ⟨b,0,none⟩ (w.alloc (.cells #[.pointer (some ⟨4,99,none⟩),.pointer (some a),.int .u64 150] 144)) (by rw[CD _ _ a j];exact s);have st:=ua ⟨b,0,none⟩ ⟨w.heap.size+1,0,none⟩ k c ((w.alloc (.cells #[.pointer (some ⟨4,99,none⟩),.pointer (some a),.int .u64 150] 144)).alloc (.cells #[.int .i64 k] 59)) (by rw[Ft _ _ _ _ (by simp)];rfl) (by rw[CD _ _ ⟨b,0,none⟩ (by simp;omega),CD _ _ ⟨b,0,none⟩ i];exact l) (by rw[Dp _ _ ⟨b,0,none⟩ (by simp;omega),Dp _ _ ⟨b,0,none⟩ (Ff i)];exact u);go_enter func71,ntmps71;go_wp2;refine wp_loop_rounds 3 ?_;rw[Fu];go_wp2;rw[Fu];go_wp2;rw[Fu];go_wp2;go_ret;refine⟨rfl,?_,?_⟩
 ·rw[CD _ _ _ (by simp;omega),CD _ _ _ (by simp;omega)];exact Ex _ _ _ l
 ·exact((Fr.set1 w b 0 _).alloc _).alloc _
theorem A1(g t f a:Nat)(k:Int)(b:Value)(w:World)(o:w.cell? ⟨0,0,none⟩=some (.iface 198 (.agg #[.pointer (some ⟨4,36,none⟩)])))(p:w.cell? ⟨g,1,none⟩=some (.iface 258 (.pointer (some ⟨t,0,none⟩))))(d:w.cell? ⟨t,0,none⟩=some (.pointer (some ⟨f,0,none⟩)))(h:w.cell? ⟨f,1,none⟩=some (.iface 59 (.int .i64 k)))(r:w.cell? ⟨a,0,none⟩=some b)(B:w.frozen? ⟨a,0,none⟩=false):Calls prog 45 #[.iface 117 (.pointer (some ⟨g,0,none⟩)),.iface 99 (.pointer (some ⟨a,0,none⟩))] w fun ev s=>ev= .returned (.bool true)∧s.cell? ⟨a,0,none⟩=some (.int .i64 k)∧Fr (· =a) w s:=by
 have C:=@run_callFunc_extern prog 68 _ (fun args=>ReflectliteValue.unpack (args.getD 0 (.tuple #[]))) func68 (by kernel_rfl) (by kernel_rfl) (by kernel_rfl) (by kernel_rfl);have D:=@run_callFunc_extern prog 69 _ (ReflectliteValue.methodAny (ReflectliteValue.valueError "reflectlite.Value.Type" 0) (fun t _ _ _=>ReflectliteType.toType t)) func69 (by kernel_rfl) (by kernel_rfl) (by kernel_rfl) (by kernel_rfl);have E:=@run_callFunc_extern prog 70 _ (ReflectliteValue.method (ReflectliteValue.valueError "reflectlite.Value.IsNil" 0) ReflectliteValue.isNil) func70 (by kernel_rfl) (by kernel_rfl) (by kernel_rfl) (by kernel_rfl);have u:=@run_callFunc_extern prog 201 _ (ReflectliteType.abiMethod fun t=>do pure (.int .u8 (←Rtype.kind t))) func201 (by kernel_rfl) (by kernel_rfl) (by kernel_rfl) (by kernel_rfl);have x:=@run_callFunc_extern prog 219 _ (ReflectliteType.method ReflectliteType.elem) func219 (by kernel_rfl) (by kernel_rfl) (by kernel_rfl) (by kernel_rfl);have y:=@run_callFunc_extern prog 220 _ (ReflectliteType.relation "Implements" ReflectliteType.implements_) func220 (by kernel_rfl) (by kernel_rfl) (by kernel_rfl) (by kernel_rfl);have H:=kV;have I:=pN;have J:=gh;have K:=po;have L:=qm;have M:=gj;have N:=dG;have O:=py;have P:=iL;have F:g<w.heap.size:=Cw w _ p;have i:a<w.heap.size:=Cw w _ r;have j:0<w.heap.size:=Cw w _ o;have Q:=nY ⟨w.heap.size,0,none⟩ ⟨a,0,none⟩ ((w.alloc (.cells #[.pointer (some ⟨a,0,none⟩)] 99)).alloc (.cells #[.pointer (some ⟨4,99,none⟩),.pointer (some ⟨w.heap.size,0,none⟩),.int .u64 150] 144)) (by simp)
 have G:((w.alloc (.cells #[.pointer (some ⟨a,0,none⟩)] 99)).alloc (.cells #[.pointer (some ⟨4,99,none⟩),.pointer (some ⟨w.heap.size,0,none⟩),.int .u64 150] 144)).cell? ⟨0,0,none⟩=some (.iface 198 (.agg #[.pointer (some ⟨4,36,none⟩)])):=by rw[CD _ _ ⟨0,0,none⟩ (by simp),CD _ _ ⟨0,0,none⟩ j];exact o
 have z:∀(q:Addr) (v:Value),w.cell? q=some v→((w.alloc (.cells #[.pointer (some ⟨a,0,none⟩)] 99)).alloc (.cells #[.pointer (some ⟨4,99,none⟩),.pointer (some ⟨w.heap.size,0,none⟩),.int .u64 150] 144)).cell? q=some v:=fun q v A=>by have l:=Cw w _ A;rw[CD _ _ q (by simp;omega),CD _ _ q l];exact A
 have c:=af z;clear z;go_enter func45,ntmps45;go_wp2_with fail;refine(Ag g t f a ⟨w.heap.size,0,none⟩ k b _ ?_ ?_ ?_ ?_ ?_ ?_ ?_).mono ?_
 ·simp
 ·simp;omega
 ·exact c.out _ _ p
 ·exact c.out _ _ d
 ·exact c.out _ _ h
 ·exact c.out _ _ r
 ·rw[Dp _ _ ⟨a,0,none⟩ (by simp;omega),Dp _ _ ⟨a,0,none⟩ (Ff i)];exact B
 rintro e R ⟨rfl,m,n⟩;go_wp2;go_ret;exact⟨rfl,m,((Fr.refl _ _).alloc _|>.alloc _).trans n fI⟩
theorem oT(g t f:Nat)(k:Int)(w:World)(j:w.cell? ⟨0,0,none⟩=some (.iface 198 (.agg #[.pointer (some ⟨4,36,none⟩)])))(l:w.cell? ⟨g,1,none⟩=some (.iface 258 (.pointer (some ⟨t,0,none⟩))))(a:w.cell? ⟨t,0,none⟩=some (.pointer (some ⟨f,0,none⟩)))(b:w.cell? ⟨f,1,none⟩=some (.iface 59 (.int .i64 k))):Calls prog 29 #[.iface 117 (.pointer (some ⟨g,0,none⟩))] w fun e m=>e= .returned (.int .i64 k)∧Fr (fun _=>False) w m:=by
 have c:g<w.heap.size:=Cw w _ l;have d:0<w.heap.size:=Cw w _ j;go_enter func29,ntmps29;go_wp2_with fail;refine(A1 g t f w.heap.size k (.int .i64 0) _ ?_ ?_ ?_ ?_ ?_ ?_).mono ?_
 ·rw[CD _ _ ⟨0,0,none⟩ d];exact j
 ·rw[CD _ _ ⟨g,1,none⟩ c];exact l
 ·rw[CD _ _ ⟨t,0,none⟩ (Cw w _ a)];exact a
 ·rw[CD _ _ ⟨f,1,none⟩ (Cw w _ b)];exact b
 ·simp
 ·simp
 rintro e o ⟨rfl,n,i⟩;go_wp2;go_ret;exact⟨rfl,((Fr.refl _ _).alloc _).trans i (fun k p h=>by omega)⟩
end
theorem iR{w:World}{base e size n:Nat}{v:Value}{f:List Value}(h:w.ownsRow base e size v n f){b:Nat}(c:v.ownBlock=some b):∃cs,w.heap[b]?=some (.cells cs e (0,0)):=by
 rcases h.2 with⟨rfl,_⟩|⟨g,i,d,rfl,_,j,_⟩
 ·cases c
 ·simp only[Value.ownBlock,Cu]at c;subst c;exact⟨d,j⟩
def DP.good(d:DP):Prop:=d.off<0∧d.hi≤d.lo
theorem DP.good.bad{d:DP}(h:d.good):d.bad=false:=by
 cases b:d.bad with
 |false=>rfl
 |true=>
  rw[DP.bad_iff]at b;have:=h.1;have:=h.2;omega
structure DS where
 d:DP
 ents:List (Nat×List Value)
 bs:List Value
def DS.fail(s:DS):DS:=⟨s.d.next,s.ents,s.bs⟩
def DS.store(s:DS)(i:Nat)(b:List Value):Bool×DS:=if s.d.bad=true then(false,s.fail)else(true,⟨s.d.next.wrote,s.ents++[(i,b)],s.bs⟩)
def DS.secure(s:DS):Bool×DS:=if s.d.bad=true then(false,s.fail)else(true,⟨s.d.next,[],bv s.bs s.ents⟩)
def DS.put(s:DS)(i:Nat)(b:List Value):Bool×DS:=if(s.store i b).1=true then(s.store i b).2.secure else(false,(s.store i b).2)
structure bi(w:World)(A B n base:Nat)(a:Value)(s:DS):Prop where
 d:aP w A B n a s.d
 r:cD w B s.d.cap s.bs
 q:fy w base s.ents.length n a s.ents
 b:base≤w.heap.size
 c:n≤s.d.cap
def li(i:Nat):Prop:=∀W,cN W→Calls prog 143 #[.int .i64 i] W fun e w'=>(∃s,e= .returned (.string s)∧s.size≤100)∧Fr (fun _=>False) W w'
theorem uT{i:Nat}(h:i<100):li i:=fun W _=>(t9 i h W).mono fun _ _ ⟨b,c⟩=>⟨b,by rw[c];exact Fr.refl _ _⟩
def im(g:Nat):Ending:= .panicked [{v:= .iface 258 (.pointer (some ⟨g,0,none⟩)),recovered:=false}]
def fK(A B:Nat)(a:Value)(b:Nat):Prop:=b=A∨b=B∨a.ownBlock=some b
section
variable{w w':World}{V A B n base:Nat}{a:Value}{s:DS}
theorem bi.ne(h:bi w A B n base a s):A≠B∧a.ownBlock≠some A∧a.ownBlock≠some B:=by
 refine⟨?_,?_,?_⟩
 ·intro e;have f:=h.d;rw[e]at f;have:=f.symm.trans h.r.1;simp at this
 ·intro e;obtain⟨c,b⟩:=iR h.q.o e;have:=h.d.symm.trans b;simp at this
 ·intro e;obtain⟨c,b⟩:=iR h.q.o e;have:=h.r.1.symm.trans b;simp at this
theorem bi.fr{S:Nat→Prop}(h:bi w A B n base a s)(e:Fr S w w')(f:∀b,fK A B a b→¬S b):bi w' A B n base a s:=⟨h.d.fr e (f _ (.inl rfl)),⟨e.keep h.r.1 (f _ (.inr (.inl rfl))),h.r.2⟩,h.q.fr e (fun b _ _ g=>f b (.inr (.inr g))),Ct h.b e.size,h.c⟩
theorem bi.frz(h:bi w A B n base a s)(b:Fr (fun _=>False) w w'):bi w' A B n base a s:=h.fr b fI
theorem bi.failed(h:bi w A B n base a s)(i:aP w' A B n a s.d.next)(f:Fr (· =A) w w'):bi w' A B n base a s.fail:=⟨i,⟨f.keep h.r.1 (fun e=>h.ne.1 e.symm),h.r.2⟩,h.q.fr f (fun b c g _ e=>by rw[e,h.d]at g;simp at g),Ct h.b f.size,h.c⟩
theorem uD(c:List (Nat×List Value))(i:Nat)(b:List Value):gc (c++[(i,b)])=gc c++(.int .i64 i::b):=by simp[gc]
theorem iw(F:aZ w V A n)(h:bi w A B n base a s)(G:s.d.Ok)(K:s.ents.length<900000)(i:Nat)(hi:i<n)(j:List Value)(x:j.length=128)(m:∀v∈j,v.oneCell'=true)(H:li i)(I:cN w)(z:NG (fun b=>b=A)):Calls prog 94 #[.pointer (some ⟨V,0,none⟩),.int .i64 i,.agg j.toArray] w fun e w'=>∃f,bi w' A B n base f (s.store i j).2∧CB w a f∧Fr (fK A B a) w w'∧(if(s.store i j).1=true then e= .returned (.tuple #[])else ∃g,e=im g∧dH w' g):=by
 by_cases u:s.d.bad=true
 ·refine(vn F h.d G u i j (fun W t=>H W (I.fr t z))).mono ?_;rintro e w' ⟨g,rfl,J,C,t⟩;unfold DS.store;rw[CE u];exact⟨a,h.failed C t,fun b u=> .inl u,t.mono (fun _ _ h=> .inl h),g,rfl,J⟩
 ·have D:s.d.bad=false:=by simpa using u
  refine(rF F h.d G D h.q.o (by omega) h.b i hi j x m).mono ?_;rintro e w' ⟨rfl,f,C,y,E,t⟩;unfold DS.store;rw[Cz u];refine⟨f,⟨C,⟨t.keep h.r.1 ?_,h.r.2⟩,⟨?_,?_,?_,?_,?_⟩,Ct h.b t.size,h.c⟩,E,t.mono (fun b _ h=>by rcases h with h|h;exact .inl h;exact .inr (.inr h)),rfl⟩
  ·rintro(e|e)
   ·exact h.ne.1 e.symm
   ·exact h.ne.2.2 e
  ·rw[Cr,CM,uD];exact y
  ·rw[Cr,CM];omega
  ·intro p k;rcases Cv.1 k with k|k
   ·exact h.q.l p k
   ·rw[Db.1 k];exact x
  ·intro p k;rcases Cv.1 k with k|k
   ·exact h.q.one p k
   ·rw[Db.1 k];exact m
  ·intro p k;rcases Cv.1 k with k|k
   ·exact h.q.n p k
   ·rw[Db.1 k];exact hi
theorem gx(x:aZ w V A n)(h:bi w A B n base a s)(y:s.d.Ok)(t:0<s.ents.length):Calls prog 95 #[.pointer (some ⟨V,0,none⟩)] w fun e w'=>∃f,bi w' A B n base f s.secure.2∧CB w a f∧Fr (fK A B a) w w'∧(if s.secure.1=true then e= .returned (.tuple #[])else ∃g,e=im g∧dH w' g):=by
 by_cases i:s.d.bad=true
 ·refine(tf x h.d y i).mono ?_;rintro e w' ⟨g,rfl,z,u,j⟩;unfold DS.secure;rw[CE i];exact⟨a,h.failed u j,fun b i=> .inl i,j.mono (fun _ _ h=> .inl h),g,rfl,z⟩
 ·have v:s.d.bad=false:=by simpa using i
  refine(qA x h.d h.c h.r y v h.q.o h.q.k t h.q.l h.q.one h.q.n).mono ?_;rintro e w' ⟨rfl,u,C,j⟩;unfold DS.secure;rw[Cz i];exact⟨.slice none 0 0,⟨u,C,⟨CT _ _ _ _,by show(0:Nat)<_;omega,(fun p m=>absurd m (by simp)),(fun p m=>absurd m (by simp)),(fun p m=>absurd m (by simp))⟩,Ct h.b j.size,h.c⟩,fun b i=>by simp[Value.ownBlock]at i,j.mono (fun b _ h=>by rcases h with h|h;exact .inl h;exact .inr (.inl h)),rfl⟩
theorem k6(o:aZ w V A n)(h:bi w A B n base a s)(p:s.d.Ok)(i:Nat)(hi:i<n)(t:¬s.d.good→li i)(u:cN w)(k:NG (fun b=>b=A)):Calls prog 112 #[.pointer (some ⟨V,0,none⟩),.int .i64 i] w fun e w'=>bi w' A B n base a s.fail∧Fr (· =A) w w'∧(if s.d.bad=true then ∃g,e=im g∧dH w' g else e= .returned (.agg (aI (bv s.bs s.ents) i).toArray)):=by
 by_cases j:s.d.bad=true
 ·refine(yq o h.d p j i (fun W f=>t (fun v=>by rw[v.bad]at j;cases j) W (u.fr f k))).mono ?_;rintro e w' ⟨g,rfl,x,l,f⟩;rw[CE j];exact⟨h.failed l f,f,g,rfl,x⟩
 ·have m:s.d.bad=false:=by simpa using j
  refine(vk o h.d p m h.c h.r h.q i hi).mono ?_;rintro e w' ⟨rfl,l,f⟩;rw[Cz j];exact⟨h.failed l f,f,rfl⟩
end
theorem dM(id n:Nat):(be id n [] 0).length=124:=by rw[iU];simp
theorem nO(w:World)(id n:Nat)(z:id≤1000)(R:n≤2):Calls prog 151 #[.agg #[.int .i64 id,.int .i64 n]] w fun e M=>e= .returned (.agg (di 3 (be id n [] 0) 4).toArray)∧Fr (fun _=>False) w M:=by
 obtain⟨W,g⟩:=aw (((w.alloc (.cells #[.int .i64 id,.int .i64 n] 196)).alloc (.cells Tryz.zeroCells130 130)).alloc (.cells Tryz.zeroCells182 182));have hF:Fr (fun _=>False) w W:=by rw[g.out];exact(((Fr.refl _ _).alloc _).alloc _).alloc _
 have A:W.heap[w.heap.size]?=some (.cells #[.int .i64 id,.int .i64 n] 196 (0,0)):=by rw[g.out,ai _ _ _ (by simp;omega),ai _ _ _ (by simp)];exact aa _ _
 have G:W.heap[w.heap.size+1]?=some (.cells zB.toArray 130 (0,0)):=by rw[g.out,ai _ _ _ (by simp)];exact Di w _ _
 have H:W.heap[w.heap.size+2]?=some (.cells (zv::zv::List.replicate 122 zv).toArray 182 (0,0)):=by rw[g.out];have:=aa ((w.alloc (.cells #[.int .i64 id,.int .i64 n] 196)).alloc (.cells Tryz.zeroCells130 130)) (.cells Tryz.zeroCells182 182);simp only[World.size_alloc]at this;rw[gB]at this⊢;exact this
 have c0:(((w.alloc (.cells #[.int .i64 id,.int .i64 n] 196)).alloc (.cells Tryz.zeroCells130 130)).alloc (.cells Tryz.zeroCells182 182)).cell? ⟨w.heap.size,0,none⟩=some (.int .i64 id):=by rw[←g.out];exact(Cn _ _ 0 _ _ _ A).trans rfl
 go_enter func151,ntmps151;go_wp2_with fail;rw[←g.out];refine(qz H id z).mono ?_;rintro e m ⟨rfl,y,c⟩;have I:=c.keep A (by omega);have J:=c.keep G (by omega);have B:=hF.trans c (fun _ _ h=>by omega);have c1:m.cell? ⟨w.heap.size,1,none⟩=some (.int .i64 n):=(Cn _ _ 1 _ _ _ I).trans rfl;have p:=ah (P:=prog) (w:=m) (a:=⟨w.heap.size+2,2,none⟩) (t:=5) (v:= .int .u8 n) ((Cn _ _ 2 _ _ _ y).trans rfl) (CN _ _ 2 _ _ y) (by kernel_rfl) rfl;have C:(m.setCell ⟨w.heap.size+2,2,none⟩ (.int .u8 n)).heap[w.heap.size+2]?=some (.cells (be id n [] 0).toArray 182 (0,0)):=by rw[ag _ _ _ _ _ _ y,iU];rfl
 have d:Fr (fun b=>b=w.heap.size+2) m (m.setCell ⟨w.heap.size+2,2,none⟩ (.int .u8 n)):=Fr.set1 _ _ _ _;obtain⟨o,q⟩:=aw (m.setCell ⟨w.heap.size+2,2,none⟩ (.int .u8 n));rw[←q.out]at p C d;have D:Hid (Fr (fun _=>False) w o∧o.heap[w.heap.size+1]?=some (.cells zB.toArray 130 (0,0))):=⟨B.trans d (fun _ _ h=>by omega),d.keep J (by omega)⟩;have N:IntKind.u8.wrap (n:Int)=n:=by rw[Fz];omega
 have O:(n:Int)%256=n:=by omega
 have i:=dM id n;have r:∀v∈be id n [] 0,v.oneCell'=true:=dA _ _ _ _;have s:o.rangeAt (w.heap.size+1+1) 0 (be id n [] 0):=fun j v Q=>(Cn o _ (0+j) _ _ _ C).trans (by simpa using Q);clear g q hF A G H c0 c I J y d C;go_wp2_with (first|(refine ae 5 (w':=o) _ _ rfl rfl ?_ ?_;exact p)|(refine CC rfl 182 _ rfl (w.heap.size+1+1) 0 ?_ _ _ s underlying182 rfl ?_ ?_;rfl;(rw[dQ,i])));refine(tR o 3 _ i r).mono ?_;rintro e K ⟨rfl,k⟩;have E:=k.keep D.out.2 jI;have u:=bX 3 _ i 4 (by omega);have f:=fY E ce u (eF 3 _ r 4);have x:=CA K (w.heap.size+1) _ (di 3 (be id n [] 0) 4).toArray 130 (0,0) E;obtain⟨L,l⟩:=aw (K.setRow (w.heap.size+1) (di 3 (be id n [] 0) 4).toArray);have F:Fr (fun _=>False) w L:=by rw[l.out];exact(D.out.1.trans k fI).setRow _ (fun h=>by omega) _
 rw[←l.out]at f x;clear l s D k E;go_wp2_with (first|(refine ae 130 (w':=L) _ _ rfl rfl ?_ ?_;exact f));refine CJ (v:= .agg (di 3 (be id n [] 0) 4).toArray) (Dd Tryz.results151 _ _ (w.heap.size+1) 130 _ (0,0) _ rfl x underlying130 rfl (by rw[aV,Df,u])) rfl ⟨rfl,F⟩
def Bh(a id i:Nat):ByteArray:=⟨#[UInt8.ofNat a,UInt8.ofNat (97+id),UInt8.ofNat (49+i)]⟩
def za(id n:Nat):List SS:=(List.range n).map fun i=>(Bh 100 id i,Bh 117 id i)
def eQ(a:List Value):Prop:=∀v∈a,∃k:Nat,k<256∧v= .int .u8 k
theorem eQ.append{a b:List Value}(c:eQ a)(d:eQ b):eQ (a++b):=fun v e=>by
 rcases Cv.1 e with h|h
 ·exact c v h
 ·exact d v h
theorem eQ.rep(n:Nat):eQ (List.replicate n (Value.int .u8 0)):=fun v a=>⟨0,by decide,(D6.1 a).2⟩
def tq(r a:RS):Prop:=a.id=r.id∧a.sa=r.sa∧a.sc=r.sc∧a.st=r.st∧a.S=r.S∧a.tries=r.tries∧a.due=r.due∧a.may=[r.S]∧a.mc=1
theorem jm{w:World}{b:Nat}{v:Value}{L:List RS}(P:w.ownsRow b 223 7 v L.length (az L))(hn:L.length≤1000000){k:Nat}(hk:k<L.length):Calls prog 126 #[v,.int .i64 k] w fun e w'=>∃v',e= .returned v'∧w'.ownsRow w.heap.size 223 7 v' (L.length-1) (az (L.take k++L.drop (k+1)))∧Fr (fun _=>False) w w':=by
 obtain⟨n,c,rfl,f,r⟩:=aN P;obtain⟨A,B,C,D,E⟩:=Dn dO;have a2:L.length≤c:=by
  rcases P.2 with⟨h,_⟩|⟨g,a4,a5,h,_,_,R,_⟩
  ·simp at h;omega
  ·simp at h;omega
 have HV:=af P;clear P;obtain⟨S,-⟩:=fk L k (by omega);obtain⟨-,F⟩:=fk L (k+1) (by omega);have T:(L.take k).length=k:=by rw[Cy];omega
 have G:Hid (∀W:World,Fr (fun _=>False) w W→∀g,n=some ⟨g,0,none⟩→∀j u,(az L)[j]?=some u→W.cell? ⟨g,j,none⟩=some u):=fun W hF g hg j u i=>by subst hg;have:=HV.out.cells (g:=g) rfl j u i;rw[DF,D5]at this;exact hF.cell this jI
 have t:∀l,n=some l→∃g,l=⟨g,0,none⟩:=fun l h=>by obtain⟨h1,R⟩:=r l h;obtain⟨g,o,sp⟩:=l;simp only at h1 R;exact⟨g,by rw[h1,R]⟩
 have U:=af t;have H:=af f;obtain⟨z,p⟩:∃z,(if c=k+1 then n else n.map (fun x=>x.add ((k+1)*7)))=z:=⟨_,rfl⟩;have V:Hid (∀W:World,(Instr.sliceAt 107 (.slice n L.length c) (some (.int .i64 (k+1))) none none).run prog W= .ok (.slice z (L.length-(k+1)) (c-(k+1))) W):=fun W=>by rw[←p];have:=yA n L.length c (k+1) (by omega) W;push_cast at this;exact this
 have X:Hid (z=none→L.length-(k+1)=0∧c-(k+1)=0):=fun h=>by
  have:n=none:=by
   rw[←p]at h;split at h
   ·exact h
   ·simpa using h
  have:=f this;omega
 have Y:Hid (∀W:World,Fr (fun _=>False) w W→∀l,z=some l→∀j u,(az (L.drop (k+1)))[j]?=some u→W.cell? (l.add j)=some u):=fun W hF l a j u i=>by
  rw[←p]at a;split at a
  ·exfalso;have:L.drop (k+1)=[]:=CP (by omega);rw[this]at i;simp[az]at i
  ·cases d:n with
   |none=>rw[d]at a;simp at a
   |some a0=>
    obtain⟨g,rfl⟩:=t a0 d;rw[d]at a;simp only[Option.map_some,Cu,DF,D5]at a;subst a;rw[DF];refine G.out W hF g d ((k+1)*7+j) u ?_;rw[←F,E3]at i;exact i
 have I:Hid (az (L.take k)++az (L.drop (k+1))=az (L.take k++L.drop (k+1))):=(de _ _).symm;have Z:(az (L.drop (k+1))).length=(L.length-(k+1))*7:=by rw[er,Dx]
 clear r t f p F;go_enter func126,ntmps126;go_wp2_with (first
  |(refine aR 107 _ _ _ _ rfl rfl (by exact xC n L.length c k (by omega) _) ?_)
  |(at_builtin;refine cB rfl _ _ 107 rfl w.heap.size 223 A _ 7 88 underlying107 B C D E rfl (by decide) (.slice none 0 0) 0 [] rfl (CT _ _ _ _) n k c (az (L.take k)) rfl ?_ ?_ ?_ (gR _) ?_ ?_ ?_ ?_;(intro h;have:=H.out h;omega);(rw[er,T]);(intro l a j u i;obtain⟨g,rfl⟩:=U.out l a;rw[DF,D5];refine G.out _ (Fr.refl _ _) g a j u ?_;rw[←S,DE]at i;split at i;exact i;cases i);(unfold maxLen;omega);omega;exact Cs _;intro v1 Q q J;have K:Fr (fun _=>False) w Q:=(Fr.refl _ _).grown J (fun _ _ h=>by cases h);clear J;obtain⟨a1,c1,rfl,-,-⟩:=aN q;simp only[D5,Dr]at q;have m:Hid (Q.ownsRow w.heap.size 223 7 (.slice a1 k c1) k (az (L.take k))∧Fr (fun _=>False) w Q):=⟨q,K⟩;clear q K)
  |(refine aR 107 _ _ _ _ rfl rfl (by exact V.out _) ?_)
  |(at_builtin;refine cB rfl _ _ 107 rfl w.heap.size 223 A _ 7 88 underlying107 B C D E rfl (by decide) (.slice a1 k c1) k _ rfl m.out.1 z (L.length-(k+1)) (c-(k+1)) (az (L.drop (k+1))) rfl X.out Z ?_ (gR _) ?_ ?_ ?_ ?_;(exact Y.out Q m.out.2);(unfold maxLen;omega);omega;exact m.out.2.size;intro v3 w5 y M;have N:=m.out.2.grown M (fun j hj h=>by(have:=(m.out.1.lt j h).1;exact absurd hj (by omega)));clear M;obtain⟨a3,c3,rfl,-,-⟩:=aN y;have O:Hid (w5.ownsRow w.heap.size 223 7 (.slice a3 (k+(L.length-(k+1))) c3) (k+(L.length-(k+1))) (az (L.take k)++az (L.drop (k+1)))∧Fr (fun _=>False) w w5):=⟨y,N⟩;clear y N))
 go_ret;have s:k+(L.length-(k+1))=L.length-1:=by omega
 have ho:=O.out.1;rw[I.out,s]at ho;refine⟨_,rfl,?_,O.out.2⟩;rw[s];exact ho
end Go.Proofs.YteebjgfalllbjaaGreatDoor
