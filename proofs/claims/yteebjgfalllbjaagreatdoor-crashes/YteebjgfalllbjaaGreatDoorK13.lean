import Derived.Test.YteebjgfalllbjaaGreatDoorK12
namespace Go.Proofs.YteebjgfalllbjaaGreatDoor
open Go.RowKit Go.Proofs.Tryz
set_option maxRecDepth 100000
set_option maxHeartbeats 4000000
section
open Go.Extern.Stop Go.Stop Go.Extern
theorem qQ(t:Addr)(w:World):(ReflectliteValue.unpack (.iface 259 (.pointer (some t)))).run prog w= .ok (.agg #[.pointer (some ⟨4,259,none⟩),.pointer (some ⟨w.heap.size,0,none⟩),.int .u64 150]) (w.alloc (.cells #[.pointer (some t)] 259)):=by kernel_rfl
theorem xG(a:Addr)(w:World):(ReflectliteValue.methodAny (ReflectliteValue.valueError "reflectlite.Value.Type" 0) (fun t _ _ _=>ReflectliteType.toType t) #[.agg #[.pointer (some ⟨4,259,none⟩),.pointer (some a),.int .u64 150]]).run prog w= .ok (.iface 198 (.agg #[.pointer (some ⟨4,259,none⟩)])) w:=by kernel_rfl
theorem wK(w:World):((ReflectliteType.abiMethod fun t=>(fun a:Nat=>Value.int IntKind.u8 (a:Int))<$>Rtype.kind t) #[.pointer (some ⟨4,259,none⟩)]).run prog w= .ok (.int .u8 22) w:=by kernel_rfl
theorem yv(w:World):((ReflectliteType.abiMethod fun t=>(fun a:Nat=>Value.int IntKind.u8 (a:Int))<$>Rtype.kind t) #[.pointer (some ⟨4,258,none⟩)]).run prog w= .ok (.int .u8 22) w:=by kernel_rfl
theorem nD(a:Addr)(w:World):(ReflectliteValue.parts (.agg #[.pointer (some ⟨4,259,none⟩),.pointer (some a),.int .u64 150])).run prog w= .ok (some (259,a,150)) w:=by kernel_rfl
theorem vN(a p:Addr)(W:World)(b:W.cell? a=some (.pointer (some p))):(ReflectliteValue.method (ReflectliteValue.valueError "reflectlite.Value.IsNil" 0) ReflectliteValue.isNil #[.agg #[.pointer (some ⟨4,259,none⟩),.pointer (some a),.int .u64 150]]).run prog W= .ok (.bool false) W:=by delta ReflectliteValue.method;rw[Bo];simp only[D9,nD,Result.andThen];simp[ReflectliteValue.isNil,loadVar,isAgg,underlying,underlying259,b,Result.andThen]
theorem wM(w:World):(ReflectliteType.method ReflectliteType.elem #[.agg #[.pointer (some ⟨4,259,none⟩)]]).run prog w= .ok (.iface 198 (.agg #[.pointer (some ⟨4,258,none⟩)])) w:=by kernel_rfl
theorem mA(w:World):(ReflectliteType.relation "Implements" ReflectliteType.implements_ #[.agg #[.pointer (some ⟨4,258,none⟩)],.iface 198 (.agg #[.pointer (some ⟨4,36,none⟩)])]).run prog w= .ok (.bool true) w:=by kernel_rfl
theorem sJ(v:Value)(w:World):(ReflectliteType.typeOf #[.iface 258 v]).run prog w= .ok (.iface 198 (.agg #[.pointer (some ⟨4,258,none⟩)])) w:=by kernel_rfl
theorem rN(w:World):(ReflectliteType.relation "AssignableTo" ReflectliteType.assignableTo #[.agg #[.pointer (some ⟨4,258,none⟩)],.iface 198 (.agg #[.pointer (some ⟨4,258,none⟩)])]).run prog w= .ok (.bool true) w:=by kernel_rfl
theorem pE(pp:Addr)(w:World):(ReflectliteValue.unpack (.iface 258 (.pointer (some pp)))).run prog w= .ok (.agg #[.pointer (some ⟨4,258,none⟩),.pointer (some ⟨w.heap.size,0,none⟩),.int .u64 150]) (w.alloc (.cells #[.pointer (some pp)] 258)):=by kernel_rfl
theorem sX(w:World):(Rtype.elem? 259).run prog w= .ok (some 258) w:=by kernel_rfl
theorem Aq(p:Addr)(w:World):(ReflectliteValue.mk 258 p ReflectliteValue.flagAddr).run prog w= .ok (.agg #[.pointer (some ⟨4,258,none⟩),.pointer (some p),.int .u64 406]) w:=by kernel_rfl
theorem vW(a p:Addr)(W:World)(b:W.cell? a=some (.pointer (some p))):(ReflectliteValue.method (ReflectliteValue.valueError "reflectlite.Value.Elem" 0) ReflectliteValue.elem #[.agg #[.pointer (some ⟨4,259,none⟩),.pointer (some a),.int .u64 150]]).run prog W= .ok (.agg #[.pointer (some ⟨4,258,none⟩),.pointer (some p),.int .u64 406]) W:=by delta ReflectliteValue.method;rw[Bo];simp only[D9,nD,Result.andThen];simp[ReflectliteValue.elem,loadVar,isAgg,underlying,underlying259,b,Result.andThen,sX,Aq]
theorem rO(a:Addr)(w:World):(ReflectliteValue.parts (.agg #[.pointer (some ⟨4,258,none⟩),.pointer (some a),.int .u64 406])).run prog w= .ok (some (258,a,406)) w:=by kernel_rfl
theorem uZ(a:Addr)(w:World):(ReflectliteValue.parts (.agg #[.pointer (some ⟨4,258,none⟩),.pointer (some a),.int .u64 150])).run prog w= .ok (some (258,a,150)) w:=by kernel_rfl
theorem ws(w:World):(Rtype.directlyAssignable 258 258).run prog w= .ok true w:=by kernel_rfl
theorem yP(a b:Addr)(pp:Addr)(c:Value)(W:World)(d:W.cell? b=some (.pointer (some pp)))(e:W.cell? a=some c)(f:W.frozen? a=false):(ReflectliteValue.set #[.agg #[.pointer (some ⟨4,258,none⟩),.pointer (some a),.int .u64 406],.agg #[.pointer (some ⟨4,258,none⟩),.pointer (some b),.int .u64 150]]).run prog W= .ok (.tuple #[]) (W.setCell a (.pointer (some pp))):=by delta ReflectliteValue.set;rw[C2];simp only[D9,rO,uZ,Result.andThen];simp[ReflectliteValue.flagAddr,loadVar,isAgg,underlying,underlying258,d,Result.andThen,ws,storeVar,Value.cells,storeCells,Addr.add];rw[run_store prog W a _ _ (by rfl)];simp[e,f]
theorem Ax(g b:Nat)(a:Addr)(c:Value)(w:World)(j:w.cell? a=some (.pointer (some ⟨b,0,none⟩)))(e:a.block<w.heap.size)(f:w.cell? ⟨b,0,none⟩=some c)(k:w.frozen? ⟨b,0,none⟩=false):Calls prog 71 #[.iface 258 (.pointer (some ⟨g,0,none⟩)),.iface 259 (.pointer (some ⟨b,0,none⟩)),.agg #[.pointer (some ⟨4,259,none⟩),.pointer (some a),.int .u64 150],.iface 198 (.agg #[.pointer (some ⟨4,258,none⟩)])] w fun ev h=>ev= .returned (.bool true)∧h.cell? ⟨b,0,none⟩=some (.pointer (some ⟨g,0,none⟩))∧Fr (· =b) w h:=by
 have l:=@run_callFunc_extern prog 68 _ (fun args=>ReflectliteValue.unpack (args.getD 0 (.tuple #[]))) func68 (by kernel_rfl) (by kernel_rfl) (by kernel_rfl) (by kernel_rfl);have m:=@run_callFunc_extern prog 106 _ ReflectliteType.typeOf func106 (by kernel_rfl) (by kernel_rfl) (by kernel_rfl) (by kernel_rfl);have i:=@run_callFunc_extern prog 217 _ (ReflectliteType.relation "AssignableTo" ReflectliteType.assignableTo) func217 (by kernel_rfl) (by kernel_rfl) (by kernel_rfl) (by kernel_rfl);have n:=@run_callFunc_extern prog 107 _ (ReflectliteValue.method (ReflectliteValue.valueError "reflectlite.Value.Elem" 0) ReflectliteValue.elem) func107 (by kernel_rfl) (by kernel_rfl) (by kernel_rfl) (by kernel_rfl);have o:=@run_callFunc_extern prog 108 _ ReflectliteValue.set func108 (by kernel_rfl) (by kernel_rfl) (by kernel_rfl) (by kernel_rfl);have p:=sJ;have q:=dF;have r:=rN;have s:=pE;have d:b<w.heap.size:=Cw w _ f;have t:=vW a ⟨b,0,none⟩ (w.alloc (.cells #[.pointer (some ⟨4,259,none⟩),.pointer (some a),.int .u64 150] 144)) (by rw[CD _ _ a e];exact j);have st:=yP ⟨b,0,none⟩ ⟨w.heap.size+1,0,none⟩ ⟨g,0,none⟩ c ((w.alloc (.cells #[.pointer (some ⟨4,259,none⟩),.pointer (some a),.int .u64 150] 144)).alloc (.cells #[.pointer (some ⟨g,0,none⟩)] 258)) (by rw[Ft _ _ _ _ (by simp)];rfl) (by rw[CD _ _ ⟨b,0,none⟩ (by simp;omega),CD _ _ ⟨b,0,none⟩ d];exact f) (by rw[Dp _ _ ⟨b,0,none⟩ (by simp;omega),Dp _ _ ⟨b,0,none⟩ (Ff d)];exact k);go_enter func71,ntmps71;go_wp2;refine wp_loop_rounds 1 ?_
 rw[Fu];go_wp2;go_ret;refine⟨rfl,?_,?_⟩
 ·rw[CD _ _ _ (by simp;omega),CD _ _ _ (by simp;omega)];exact Ex _ _ _ f
 ·exact((Fr.set1 w b 0 _).alloc _).alloc _
theorem A0(g a:Nat)(b:Value)(w:World)(j:w.cell? ⟨0,0,none⟩=some (.iface 198 (.agg #[.pointer (some ⟨4,36,none⟩)])))(k:w.cell? ⟨a,0,none⟩=some b)(s:w.frozen? ⟨a,0,none⟩=false):Calls prog 45 #[.iface 258 (.pointer (some ⟨g,0,none⟩)),.iface 259 (.pointer (some ⟨a,0,none⟩))] w fun ev l=>ev= .returned (.bool true)∧l.cell? ⟨a,0,none⟩=some (.pointer (some ⟨g,0,none⟩))∧Fr (· =a) w l:=by
 have u:=@run_callFunc_extern prog 68 _ (fun args=>ReflectliteValue.unpack (args.getD 0 (.tuple #[]))) func68 (by kernel_rfl) (by kernel_rfl) (by kernel_rfl) (by kernel_rfl);have x:=@run_callFunc_extern prog 69 _ (ReflectliteValue.methodAny (ReflectliteValue.valueError "reflectlite.Value.Type" 0) (fun t _ _ _=>ReflectliteType.toType t)) func69 (by kernel_rfl) (by kernel_rfl) (by kernel_rfl) (by kernel_rfl);have y:=@run_callFunc_extern prog 70 _ (ReflectliteValue.method (ReflectliteValue.valueError "reflectlite.Value.IsNil" 0) ReflectliteValue.isNil) func70 (by kernel_rfl) (by kernel_rfl) (by kernel_rfl) (by kernel_rfl);have m:=@run_callFunc_extern prog 201 _ (ReflectliteType.abiMethod fun t=>do pure (.int .u8 (←Rtype.kind t))) func201 (by kernel_rfl) (by kernel_rfl) (by kernel_rfl) (by kernel_rfl);have n:=@run_callFunc_extern prog 219 _ (ReflectliteType.method ReflectliteType.elem) func219 (by kernel_rfl) (by kernel_rfl) (by kernel_rfl) (by kernel_rfl);have o:=@run_callFunc_extern prog 220 _ (ReflectliteType.relation "Implements" ReflectliteType.implements_) func220 (by kernel_rfl) (by kernel_rfl) (by kernel_rfl) (by kernel_rfl);have B:=qQ;have C:=xG;have D:=gh;have E:=wK;have F:=yv;have G:=gj;have H:=dG;have I:=wM;have J:=mA;have c:a<w.heap.size:=Cw w _ k;have d:0<w.heap.size:=Cw w _ j;have K:=vN ⟨w.heap.size,0,none⟩ ⟨a,0,none⟩ ((w.alloc (.cells #[.pointer (some ⟨a,0,none⟩)] 259)).alloc (.cells #[.pointer (some ⟨4,259,none⟩),.pointer (some ⟨w.heap.size,0,none⟩),.int .u64 150] 144)) (by simp)
 have z:((w.alloc (.cells #[.pointer (some ⟨a,0,none⟩)] 259)).alloc (.cells #[.pointer (some ⟨4,259,none⟩),.pointer (some ⟨w.heap.size,0,none⟩),.int .u64 150] 144)).cell? ⟨0,0,none⟩=some (.iface 198 (.agg #[.pointer (some ⟨4,36,none⟩)])):=by rw[CD _ _ ⟨0,0,none⟩ (by simp),CD _ _ ⟨0,0,none⟩ d];exact j
 have p:∀(q:Addr) (v:Value),w.cell? q=some v→((w.alloc (.cells #[.pointer (some ⟨a,0,none⟩)] 259)).alloc (.cells #[.pointer (some ⟨4,259,none⟩),.pointer (some ⟨w.heap.size,0,none⟩),.int .u64 150] 144)).cell? q=some v:=fun q v r=>by have f:=Cw w _ r;rw[CD _ _ q (by simp;omega),CD _ _ q f];exact r
 have A:=af p;clear p;go_enter func45,ntmps45;go_wp2_with fail;refine(Ax g a ⟨w.heap.size,0,none⟩ b _ ?_ ?_ ?_ ?_).mono ?_
 ·simp
 ·simp;omega
 ·exact A.out _ _ k
 ·rw[Dp _ _ ⟨a,0,none⟩ (by simp;omega),Dp _ _ ⟨a,0,none⟩ (Ff c)];exact s
 rintro e L ⟨rfl,h,i⟩;go_wp2;go_ret;exact⟨rfl,h,((Fr.refl _ _).alloc _|>.alloc _).trans i fI⟩
end
def aI(a:List Value)(i:Nat):List Value:=(a.drop (i*128)).take 128
theorem iQ{a:List Value}{n i:Nat}(h:a.length=n*128)(hi:i<n):(aI a i).length=128:=by unfold aI;rw[Cy,Dx];omega
theorem dK{b c:List Value}{o:Nat}(h:o+c.length≤b.length):(splice b o c).length=b.length:=by simp only[splice,Cr,Cy,Dx];omega
theorem fB{b c:List Value}{n a i:Nat}(e:b.length=n*128)(d:c.length=128)(f:a<n)(hi:i<n):aI (splice b (a*128) c) i=if a=i then c else aI b i:=by
 unfold aI splice;by_cases h:a=i
 ·subst h;rw[CE rfl,DN,CP (by rw[Cy];omega),Cy,show a*128-min (a*128) b.length=0 by omega,D2,Dr,Fp,CO (by omega),d,Em,Dc,D4]
 ·rw[Cz h];rcases FJ h with h|h
  ·rw[DN,CP (l:=b.take _) (by rw[Cy];omega),Dr,DN,CP (l:=c) (by rw[Cy];omega),Dr,List.drop_drop,Cy,d];exact Ej (fun x=>(b.drop x).take 128) (by omega)
  ·rw[List.drop_append_of_le_length (by rw[Cy];omega),DH (by rw[Dx,Cy];omega),List.drop_take,EU];congr 1;omega
theorem r8{b:List Value}{n:Nat}(d:b.length=n*128):∀(a:List (Nat×List Value)),(∀p∈a,p.2.length=128)→(∀p∈a,p.1<n)→(bv b a).length=n*128:=by
 intro a;induction a generalizing b with
 |nil=>intro _ _;exact d
 |cons p l h=>
  intro f g;have e:bv b (p::l)=bv (splice b (p.1*128) p.2) l:=rfl;rw[e];refine h ?_ (fun q c=>f q (by simp[c])) (fun q c=>g q (by simp[c]));have:=f p (by simp);have:=g p (by simp);rw[dK (by omega),d]
def wG:Value:= .iface 59 (.int .i64 5)
structure fy(w:World)(base k n:Nat)(cache:Value)(ents:List (Nat×List Value)):Prop where
 o:w.ownsRow base 101 129 cache k (gc ents)
 k:k<1000000
 l:∀p∈ents,p.2.length=128
 one:∀p∈ents,∀v∈p.2,v.oneCell'=true
 n:∀p∈ents,p.1<n
theorem fy.len{w:World}{c k n:Nat}{b:Value}{a:List (Nat×List Value)}(h:fy w c k n b a):a.length=k:=by have d:=mE a h.l;have e:=h.o.1;omega
theorem fy.fr{S:Nat→Prop}{w j:World}{d k n:Nat}{a:Value}{e:List (Nat×List Value)}(h:fy w d k n a e)(p:Fr S w j)(q:∀b c,w.heap[b]?=some (.cells c 101 (0,0))→a.ownBlock=some b→¬S b):fy j d k n a e:=by
 refine⟨⟨h.o.1,?_⟩,h.k,h.l,h.one,h.n⟩;rcases h.o.2 with r|⟨g,i,f,rfl,s,m,rest⟩
 ·exact .inl r
 ·exact .inr ⟨g,i,f,rfl,s,p.keep m (q g f m rfl),rest⟩
theorem xh{w:World}{A B n:Nat}{a:Value}{d:DP}(h:aP w A B n a d)(k:d.Ok)(l:d.bad=true)(i:Int):Calls prog 206 #[.pointer (some ⟨A,0,none⟩),.int .i64 i] w fun e g=>e= .returned (.tuple #[.slice none 0 0,wG])∧aP g A B n a d.next∧Fr (· =A) w g:=by go_enter func206,ntmps206;go_wp2_with fail;refine(fi h k).mono ?_;rintro e j ⟨rfl,b,c,f⟩;rw[l];have m:Hid (aP j A B n a d.next∧Fr (· =A) w j):=⟨b,c⟩;clear b c f;go_wp2;go_ret2;exact⟨rfl,m.out⟩
theorem uu{w:World}{A B n:Nat}{q:Value}{d:DP}{s:List Value}(h:aP w A B n q d)(ho:d.Ok)(a9:d.bad=false)(hm:n≤d.cap)(hr:cD w B d.cap s){t k:Nat}{f:List (Nat×List Value)}(X:fy w t k n q f)(i:Nat)(hi:i<n):Calls prog 206 #[.pointer (some ⟨A,0,none⟩),.int .i64 i] w fun e P=>e= .returned (.tuple #[.slice (some ⟨w.heap.size,0,none⟩) 128 128,.nilIface])∧P.heap[w.heap.size]?=some (.cells (aI (bv s f) i).toArray 5 (0,0))∧aP P A B n q d.next∧Fr (· =A) w P:=by
 have hA:=h.lt;have Y:=X.len;obtain⟨Q,hl,Z⟩:=hr;have ax:A≠B:=by intro e;subst e;have:=h.symm.trans Q;simp at this
 have K:=iQ hl (Ea hi hm);have y:∀v∈aI s i,v.oneCell'=true:=fun v hv=>Z v (D8 (CU hv));have L:bJ.toList.take 0++(aI s i++bJ.toList.drop (0+(aI s i).length))=aI s i:=by rw[K,CP (l:=bJ.toList) (by rw[DM,bV];decide)];simp
 have z:∀w1:World,w1.heap[B]?=some (.cells s.toArray 97 (0,0))→∀j v,(aI s i)[j]?=some v→w1.cell? ((⟨B,i*128,none⟩:Addr).add j)=some v:=fun w1 ay=>fJ ay (i*128) 128;obtain⟨cs,ab⟩:=aw (aI s i);rw[←ab.out]at K y L z;obtain⟨ao,m,az⟩:∃ao m,q= .slice ao k m:=by
  rcases X.o.2 with⟨rfl,rfl⟩|⟨g,m,R,rfl,_⟩
  ·exact⟨_,_,rfl⟩
  ·exact⟨_,_,rfl⟩
 subst az;have HB:=af hl;go_enter func206,ntmps206;go_wp2_with fail;refine(fi h ho).mono ?_;rintro e w1 ⟨rfl,H,T,ad⟩;rw[a9];have a2:=af ad;clear ad;have a3:=T.keep Q ax.symm;have ag:=af (X.fr T (fun b c Q _ e=>by subst e;rw[h]at Q;simp at Q));go_wp2_with fail;refine(qK H _ (by omega) (by omega)).mono ?_;rintro e P ⟨rfl,rfl⟩;have aA:(P.alloc (.cells bJ 5)).cell? ⟨A,0,none⟩=some (.slice (some ⟨B,0,none⟩) n d.cap):=(H.alloc (.cells bJ 5)).c rfl;have ah:(P.alloc (.cells bJ 5)).cell? ⟨A,1,none⟩=some (.slice ao k m):=(H.alloc (.cells bJ 5)).c rfl;have a0:=z (P.alloc (.cells bJ 5)) (by rw[ai _ _ _ (lt_of_heap a3)];exact a3);have aK:(i:Int)<n:=by omega
 go_wp2_with (first
  |(refine eA 85 (.const (.int .i64 128)) (.const (.int .i64 128)) rfl rfl (by exact oD _) ?_)
  |(refine bC rfl (.tmp 18) (.tmp 25) 85 85 rfl 5 underlying85 ir P.heap.size 0 128 128 ⟨B,i*128,none⟩ 128 128 rfl rfl bJ 5 (aa _ _) cs (by rw[K];rfl) a0 (by rw[K,bV];decide) y cs L ?_;intro D u;have aB:D.cell? ⟨A,1,none⟩=some (.slice ao k m):=by(rw[u.out,Fg _ _ _ _ (by have:=H.lt;simp;omega)];exact ah)))
 obtain⟨G,HG⟩:=aw P.heap.size;have a4:D.heap[G]?=some (.cells cs.toArray 5 (0,0)):=by rw[u.out,HG.out];exact CA _ _ _ _ _ _ (aa _ _)
 have E:Fr (fun _=>False) P D:=by rw[u.out];exact((Fr.refl _ _).alloc _).setRow _ (fun hh=>by omega) _
 have aj:=H.fr E jI;have HI:Hid (D.heap[G]?=some (.cells (aI (bv s (f.take 0)) i).toArray 5 (0,0))∧aP D A B n (.slice ao k m) d.next∧fy D t k n (.slice ao k m) f∧Fr (· =A) w D):=⟨by rw[ab.out]at a4;simpa[bv]using a4,aj,ag.out.fr E (fun _ _ _ _ h=>h),T.trans (E.mono (fun _ _ h=>h.elim)) fI⟩;have aL:w.heap.size≤G:=by rw[HG.out,a2.out];exact Cs _
 have ak:Hid (G=w.heap.size):=by rw[HG.out];exact a2.out
 rw[←HG.out];have a1:=af Y;have aM:=X.k;have I:Hid ((∀p∈f,p.2.length=128)∧(∀p∈f,∀v∈p.2,v.oneCell'=true)∧(∀p∈f,p.1<n)):=⟨X.l,X.one,X.n⟩;clear a4 E aj aB u a0 aA ah ag H a3 z L y K T Y a2 X h Q Z HG;go_loopw [32] (fun c wr=>∃j:Nat,j≤k∧c= .int .i64 j∧Hid (wr.heap[G]?=some (.cells (aI (bv s (f.take j)) i).toArray 5 (0,0))∧aP wr A B n (.slice ao k m) d.next∧fy wr t k n (.slice ao k m) f∧Fr (· =A) w wr)) (fun c _=>k-(intOf c).toNat);case atStart=>exact⟨0,CH _,rfl,HI⟩
 case round=>
  obtain⟨j,aN,rfl,F⟩:=hrel;by_cases aO:j<k
  ·obtain⟨p,hp⟩:∃p,f[j]?=some p:=by have:=a1.out;exact⟨_,Cp (by omega)⟩
   obtain⟨a,r⟩:=p;have a5:=Cq hp;have M:r.length=128:=I.out.1 _ a5;have al:∀v∈r,v.oneCell'=true:=I.out.2.1 _ a5;have aC:a<n:=I.out.2.2 _ a5;obtain⟨g,aH,N,_,_⟩:=F.out.2.2.1.o.form (by omega);simp only[DW,FK]at N;obtain⟨rfl,rfl⟩:=N;have a6:=kl F.out.2.2.1.o I.out.1 hp;have a7:(Value.int .i64 a::r).length=129:=by simp[M]
   have aD:∀v∈(Value.int .i64 a::r),v.oneCell'=true:=fun v hv=>by
    rcases CF.1 hv with rfl|hv
    ·rfl
    ·exact al v hv
   have aQ:(j:Int)<k:=by omega
   have aR:=lt_of_heap F.out.1;obtain⟨W,HW⟩:=aw (wr.alloc (.cells (Value.int .i64 a::r).toArray 101));have x:=j9 HW;have U:W.heap[wr.heap.size]?=some (.cells (Value.int .i64 a::r).toArray 101 (0,0)):=by rw[HW.out];exact aa _ _
   have x0:W.cell? ⟨wr.heap.size,0,none⟩=some (.int .i64 a):=(Cn _ _ 0 _ _ _ U).trans rfl;have J:=x.keep F.out.1 jI;have an:bv s (f.take (j+1))=splice (bv s (f.take j)) (a*128) r:=og s f j (a,r) hp;have ap:(bv s (f.take j)).length=d.cap*128:=r8 HB.out _ (fun p hp=>I.out.1 p (CU hp)) (fun p hp=>Ea (I.out.2.2 p (CU hp)) hm);have O:=iQ ap (Ea hi hm);have C:=fB (c:=r) ap M (Ea aC hm) (Ea hi hm);rw[←an]at C;obtain⟨R,aq⟩:=aw (aI (bv s (f.take j)) i);rw[←aq.out]at O C J;have aE:∀j v,r[j]?=some v→W.cell? ((⟨wr.heap.size,1,none⟩:Addr).add j)=some v:=fun j v hv=>by rw[DF,Cn W _ (1+j) _ _ _ U,Nat.add_comm];simpa using hv
   have ar:(Instr.storeAt 101 (.pointer (some ⟨wr.heap.size,0,none⟩)) (.agg (Value.int .i64 a::r).toArray)).run prog (wr.alloc (.cells (wz (.int .i64 0)) 101))= .ok () W:=by rw[HW.out];exact gU _ a7 aD wr
   by_cases a8:a=i
   ·have au:((a:Int)==(i:Int))=true:=by simp[a8]
    have aF:R.toArray.toList.take 0++(r++R.toArray.toList.drop (0+r.length))=r:=by rw[M,CP (Nat.le_of_eq (by rw[List.toList_toArray,O])),Dc,D4,Dr]
    rw[CE a8]at C;go_wp2_with (first
     |(refine CC rfl 101 (.tmp 34) rfl g (j*129) ?_ (Value.int .i64 a::r) _ a6 underlying101 rfl ?_ ?_;rfl;(rw[dq,a7]))
     |(refine bR 101 (v:= .pointer (some ⟨wr.heap.size,0,none⟩)) (w':=wr.alloc (.cells (wz (.int .i64 0)) 101)) rfl rfl ?_ ?_;exact dP wr)
     |(refine ae 101 (w':=W) (.tmp 8) (.tmp 35) rfl rfl ?_ ?_;exact ar)
     |(refine bC rfl (.tmp 40) (.tmp 42) 85 85 rfl 5 underlying85 ir G 0 128 128 ⟨wr.heap.size,1,none⟩ 128 128 rfl rfl R.toArray 5 J r (by rw[M];rfl) aE (by rw[M];exact Nat.le_of_eq (by rw[Df,O])) al r aF ?_;intro D u))
    have V:Fr (fun b=>b=G) W D:=by rw[u.out];exact Fr.setRow (S:=fun b=>b=G) (Fr.refl _ _) _ (fun _=>rfl) _
    have av:D.heap[G]?=some (.cells r.toArray 5 (0,0)):=by rw[u.out];exact CA _ _ _ _ _ _ J
    have aG:¬A=G:=fun e=>by have:=F.out.2.1.symm.trans (e▸F.out.1);simp at this
    have HN:Hid (D.heap[G]?=some (.cells (aI (bv s (f.take (j+1))) i).toArray 5 (0,0))∧aP D A B n (.slice (some ⟨g,0,none⟩) k m) d.next∧fy D t k n (.slice (some ⟨g,0,none⟩) k m) f∧Fr (· =A) w D):=by refine⟨by rw[C];exact av,(F.out.2.1.fr x jI).fr V aG,(F.out.2.2.1.fr x (fun _ _ _ _ h=>h)).fr V (fun b c Q _ e=>by subst e;rw[J]at Q;simp at Q),(F.out.2.2.2.trans (x.mono (fun _ _ h=>h.elim)) fI).trans V (fun b Q e=>by have:=ak.out;omega)⟩
    clear V av u a6 J U;go_wp2;go_roundw;case rel=>exact⟨j+1,by omega,by go_num,HN⟩
    case measure=>simp[intOf];omega
   ·have au:((a:Int)==(i:Int))=false:=by simp;omega
    rw[Cz a8,aq.out]at C;have HN:Hid (W.heap[G]?=some (.cells (aI (bv s (f.take (j+1))) i).toArray 5 (0,0))∧aP W A B n (.slice (some ⟨g,0,none⟩) k m) d.next∧fy W t k n (.slice (some ⟨g,0,none⟩) k m) f∧Fr (· =A) w W):=⟨by rw[C];exact x.keep F.out.1 jI,F.out.2.1.fr x jI,F.out.2.2.1.fr x (fun _ _ _ _ h=>h),F.out.2.2.2.trans (x.mono (fun _ _ h=>h.elim)) fI⟩;clear J U C;go_wp2_with (first
     |(refine CC rfl 101 (.tmp 34) rfl g (j*129) ?_ (Value.int .i64 a::r) _ a6 underlying101 rfl ?_ ?_;rfl;(rw[dq,a7]))
     |(refine bR 101 (v:= .pointer (some ⟨wr.heap.size,0,none⟩)) (w':=wr.alloc (.cells (wz (.int .i64 0)) 101)) rfl rfl ?_ ?_;exact dP wr)
     |(refine ae 101 (w':=W) (.tmp 8) (.tmp 35) rfl rfl ?_ ?_;exact ar))
    go_roundw;case rel=>exact⟨j+1,by omega,by go_num,HN⟩
    case measure=>simp[intOf];omega
  ·have aJ:¬(j:Int)<k:=by omega
   obtain rfl:j=k:=by omega
   go_wp2;go_ret2;obtain⟨r1,r2,r3,r4⟩:=F.out;rw[←a1.out,Dj]at r1;rw[ak.out]at r1⊢;exact⟨rfl,r1,r2,r4⟩
def CB(w:World)(c a:Value):Prop:=∀b,a.ownBlock=some b→c.ownBlock=some b∨w.heap.size≤b
theorem wj{w:World}{A B n:Nat}{a:Value}{d:DP}(h:aP w A B n a d)(k:d.Ok)(l:d.bad=true)(i:Int)(v:Value):Calls prog 207 #[.pointer (some ⟨A,0,none⟩),.int .i64 i,v] w fun e g=>e= .returned wG∧aP g A B n a d.next∧Fr (· =A) w g:=by go_enter func207,ntmps207;go_wp2_with fail;refine(fi h k).mono ?_;rintro e j ⟨rfl,b,c,f⟩;rw[l];have m:Hid (aP j A B n a d.next∧Fr (· =A) w j):=⟨b,c⟩;clear b c f;go_wp2;go_ret;exact⟨rfl,m.out⟩
theorem sF{w:World}{A B n:Nat}{a:Value}{d:DP}(h:aP w A B n a d)(a4:d.Ok)(aj:d.bad=false){m k:Nat}{O:List Value}(a2:w.ownsRow m 101 129 a k O)(hk:k<1000000)(a5:m≤w.heap.size)(i:Nat)(hi:i<n)(C:Nat)(tC:TypeId)(c:List Value)(hC:w.heap[C]?=some (.cells c.toArray tC (0,0)))(hl:c.length=128)(L:∀v∈c,v.oneCell'=true)(aO:C≠A):Calls prog 207 #[.pointer (some ⟨A,0,none⟩),.int .i64 i,.slice (some ⟨C,0,none⟩) 128 128] w fun e x=>e= .returned .nilIface∧∃f,aP x A B n f d.next.wrote∧x.ownsRow m 101 129 f (k+1) (O++(.int .i64 i::c))∧CB w a f∧Fr (fun b=>b=A∨a.ownBlock=some b) w x:=by
 have hA:=h.lt;have b3:0≤d.next.writes:=a4.w0;have b4:d.next.writes<1000000000:=a4.w1;have b5:=lt_of_heap hC;have al:(wz (.int .i64 i)).toList.take 1++(c++(wz (.int .i64 i)).toList.drop (1+c.length))= .int .i64 i::c:=by rw[tN,hl,CP (l:=Value.int .i64 i::bJ.toList) (by simp[bV])];simp
 go_enter func207,ntmps207;go_wp2_with fail;refine(fi h a4).mono ?_;rintro e w1 ⟨rfl,V,H,an⟩;rw[aj];have ao:=af an;clear an;have ap:=H.keep hC aO;have a3:=CZ (w:=w1.alloc (.cells (wz (.int .i64 i)) 101)) (B:=C) (cs:=c.toArray) (t:=tC) (fr:=(0,0)) (by rw[ai _ _ _ (lt_of_heap ap)];exact ap);go_wp2_with fail;refine(qK V _ (by omega) (by omega)).mono ?_;rintro e x ⟨rfl,rfl⟩;go_wp2_with (first
  |(refine fw 101 #[(0,.tmp 16)] (v:= .agg (wz (.int .i64 i))) (w':=x) rfl rfl #[(0,.int .i64 i)] ?_ ?_ ?_;(simp[Act.eval]);exact qx i x)
  |(refine bR 101 (v:= .pointer (some ⟨x.heap.size,0,none⟩)) (w':=x.alloc (.cells (wz (.int .i64 0)) 101)) rfl rfl ?_ ?_;exact dP x)
  |(refine ae 101 (w':=x.alloc (.cells (wz (.int .i64 i)) 101)) (.tmp 7) (.tmp 17) rfl rfl ?_ ?_;exact qC i x)
  |(refine bC rfl (.tmp 19) (.tmp 20) 85 85 rfl 5 underlying85 ir x.heap.size 1 128 128 ⟨C,0,none⟩ 128 128 rfl rfl (wz (.int .i64 i)) 101 ?_ c ?_ ?_ ?_ L (.int .i64 i::c) al ?_;exact aa _ _;(rw[hl];rfl);(simpa using a3);(rw[hl,fU];decide);intro r z))
 have a6:r.heap[x.heap.size]?=some (.cells (Value.int .i64 i::c).toArray 101 (0,0)):=by rw[z.out];exact CA _ _ _ _ _ _ (aa _ _)
 have a7:r.heap.size=x.heap.size+1:=by rw[z.out];simp
 have P:∀b,b<x.heap.size→r.heap[b]?=x.heap[b]?:=fun b D=>by rw[z.out,DB _ _ _ _ (by omega),ai _ _ _ D]
 have aq:aP r A B n a d.next:=by unfold aP;rw[P A V.lt];exact V
 have au:Fr (fun b=>b=A∨a.ownBlock=some b) w r:=by rw[z.out];exact((H.mono (fun b _ D=>Or.inl D)).alloc _).setRow _ (fun hh=>by rw[ao.out]at hh;omega) _
 have I:x.ownsRow m 101 129 a k O:=by
  refine a2.kept (row:=some A) ⟨H.os,H.tape,H.output,H.size,fun b D hn=>H.block b D (fun e=>hn (by rw[e]))⟩ ?_;rcases a2.2 with⟨rfl,_⟩|⟨g,q,av,rfl,D,hg,_⟩
  ·exact .inl rfl
  ·right;intro e;simp only[Value.ownBlock,Cu]at e;subst e;have:=h.symm.trans hg;simp at this
 have Q:r.ownsRow m 101 129 a k O:=I.kept (row:=none) ⟨by rw[z.out];rfl,by rw[z.out];rfl,by rw[z.out];rfl,by omega,fun b D _=>P b D⟩ (by cases hv:a.ownBlock<;>simp);have aQ:=V.lt;have aR:=fun b D=>(I.lt b D).2;have aT:m≤x.heap.size:=by rw[ao.out];exact a5
 obtain⟨g,HG⟩:=aw x.heap.size;rw[←HG.out]at a6 a7 aQ aR aT;have aU:=af a7;have ax:=af Q;have W:=af aq;have aV:=af au;have aW:=af a6;clear a7 Q aq au a6 P a3 I z;try go_simp
 rw[←HG.out];go_cut [] (fun wx=>∃f,aP wx A B n f d.next∧wx.ownsRow m 101 129 f (k+1) (O++(.int .i64 i::c))∧CB w a f∧Fr (fun b=>b=A∨a.ownBlock=some b) w wx);case rest=>
  obtain⟨f,X,ay,az,aD⟩:=hcut;have aX:=af az;clear az;have c3:=X.c3;have f3:=X.fz 3;have aF:=af X;have aY:=af ay;have aZ:=af aD;clear X ay aD;go_wp2;go_ret;exact⟨rfl,f,aF.out.set3 _,bU aF.out (by decide) aY.out,aX.out,aZ.out.setCell _ (fun _=>Or.inl rfl) _⟩
 case first=>
  have b0:prog.follows .mixedOrders=true:=by kernel_rfl
  refine wp_region_any b0 ?_;refine EO (i:=0) (oi:=⟨some 22,.move (.tmp 0),_,_,_,none⟩) (v:= .pointer (some ⟨A,0,none⟩)) rfl (by kernel_rfl) (by kernel_rfl) (by kernel_rfl) (fun _ _ _ h=>h) (Or.inl ⟨rfl,fun _=>rfl⟩) ?_;simp only[Act.put,aC,aB,aE];refine EO (i:=1) (oi:=⟨some 23,.move (.tmp 0),_,_,_,none⟩) (v:= .pointer (some ⟨A,0,none⟩)) rfl (by kernel_rfl) (by kernel_rfl) (by kernel_rfl) (fun _ _ _ h=>h) (Or.inl ⟨rfl,fun _=>rfl⟩) ?_;simp only[Act.put,aC,aB,aE];refine EO (i:=2) (oi:=⟨some 24,.nilCheck (.tmp 23),_,_,_,none⟩) (v:= .pointer (some ⟨A,0,none⟩)) rfl (by kernel_rfl) (by kernel_rfl) (by kernel_rfl) (fun _ _ _ h=>h) (Or.inl ⟨rfl,fun _=>rfl⟩) ?_;simp only[Act.put,aC,aB,aE];refine EO (i:=3) (oi:=⟨some 25,.fieldAddr 96 (.tmp 24) 1,_,_,_,none⟩) (v:= .pointer (some ⟨A,1,none⟩)) rfl (by kernel_rfl) (by kernel_rfl) (by kernel_rfl) (fun _ _ _ h=>h) (Or.inl ⟨rfl,fun _=>by kernel_rfl⟩) ?_;simp only[Act.put,aC,aB,aE];refine EM (rs:=[4,5]) (by kernel_rfl) (by simp) ?_;obtain⟨Y,Z,a0,M,a8⟩:=Dn rM;have aG:(Instr.loadAt 94 (.pointer (some ⟨A,1,none⟩))).run prog r.drew= .ok a r.drew:=aJ (w:=r.drew) (W.out.drew.c1) underlying94 rfl;have aH:(Instr.loadAt 101 (.pointer (some ⟨g,0,none⟩))).run prog r.drew= .ok (.agg (Value.int .i64 i::c).toArray) r.drew:=Dq r.drew g 0 101 (Value.int .i64 i::c) _ (fun j v hv=>by rw[D5,Cn r.drew g j _ _ _ aW.out];simpa using hv) underlying101 rfl (by rw[dq];simp[hl])
  have a9:(Instr.buildSlice 94 1 #[(0,.agg (Value.int .i64 i::c).toArray)]).run prog r.drew= .ok (.slice (some ⟨r.drew.heap.size,0,none⟩) 1 1) (r.drew.alloc (.cells (Value.int .i64 i::c).toArray 101)):=cw r.drew 94 101 Y _ _ underlying94 Z a0 (by rw[M];simp[Value.cells,hl]) (by rw[M];decide) (by rw[M];decide);have b1:(Instr.loadAt 94 (.pointer (some ⟨A,1,none⟩))).run prog (r.drew.alloc (.cells (Value.int .i64 i::c).toArray 101))= .ok a (r.drew.alloc (.cells (Value.int .i64 i::c).toArray 101)):=aJ ((W.out.drew.alloc _).c1) underlying94 rfl;have J:(r.drew.alloc (.cells (Value.int .i64 i::c).toArray 101)).ownsRow m 101 129 a k O:=(show r.drew.ownsRow m 101 129 a k O from ax.out).alloc _;have y:=CZ (w:=r.drew.alloc (.cells (Value.int .i64 i::c).toArray 101)) (B:=r.drew.heap.size) (aa _ _);have N:aP (r.drew.alloc (.cells (Value.int .i64 i::c).toArray 101)) A B n a d.next:=W.out.drew.alloc _;have aI:Fr (fun b=>b=A∨a.ownBlock=some b) w (r.drew.alloc (.cells (Value.int .i64 i::c).toArray 101)):=aV.out.drew.alloc _;have ab:m≤(r.drew.alloc (.cells (Value.int .i64 i::c).toArray 101)).heap.size:=by have:=aU.out;simp;omega
  have ad:a.ownBlock≠some A:=by
   intro e;rcases ax.out.2 with⟨rfl,_⟩|⟨g',q,av,rfl,D,hg,_⟩
   ·simp[Value.ownBlock]at e
   ·simp only[Value.ownBlock,Cu]at e;subst e;have:=W.out.symm.trans hg;simp at this
  have ag:∀(F q:Nat) (G:World),aP G A B n a d.next→G.ownsRow m 101 129 (.slice (some ⟨F,0,none⟩) (k+1) q) (k+1) (O++(.int .i64 i::c))→(r.drew.alloc (.cells (Value.int .i64 i::c).toArray 101)).grownBy G a.ownBlock→(a.ownBlock=some F∨F=(r.drew.alloc (.cells (Value.int .i64 i::c).toArray 101)).heap.size)→∃f,aP (G.setCell ⟨A,1,none⟩ (.slice (some ⟨F,0,none⟩) (k+1) q)) A B n f d.next∧(G.setCell ⟨A,1,none⟩ (.slice (some ⟨F,0,none⟩) (k+1) q)).ownsRow m 101 129 f (k+1) (O++(.int .i64 i::c))∧CB w a f∧Fr (fun b=>b=A∨a.ownBlock=some b) w (G.setCell ⟨A,1,none⟩ (.slice (some ⟨F,0,none⟩) (k+1) q)):=by
   intro F q G s E p K;refine⟨_,s.set1 _,?_,?_,(aI.grown p (fun b _ D=>Or.inr D)).setCell _ (fun _=>Or.inl rfl) _⟩;rotate_left
   ·intro b D;simp only[Value.ownBlock,Cu]at D;subst D;rcases K with e|e
    ·exact .inl e
    ·right;rw[e];exact aI.size
   refine E.kept (row:=some A) ⟨rfl,rfl,rfl,by simp[World.setCell],fun b _ hn=>aK _ _ _ _ (fun e=>hn (by rw[e]))⟩ ?_;right;intro e;rcases E.2 with⟨hv,_⟩|⟨g',b2,av,hv,D,hg,_⟩
   ·cases hv
   ·simp only[Value.ownBlock,Cu]at e;simp only[DW,Cu,Ec,ER]at hv;rw[←hv.1,e]at hg;have:=s.symm.trans hg;simp at this
  intro i1 aM;simp only[CF,Dy,EF]at aM;rcases aM with rfl|rfl
  ·skip;refine ak (o:=⟨some 26,.load 94 (.tmp 25),_,_,_,none⟩) rfl rfl (aL 94 (.tmp 25) rfl ⟨A,1,none⟩ (by rfl) aG) ?_;simp only[Act.put,aC,aB,aE];refine EM (rs:=[5]) (by kernel_rfl) (by simp) ?_;intro i2 a1;obtain rfl:i2=5:=by simpa using a1
   refine ak (o:=⟨some 27,.load 101 (.tmp 7),_,_,_,none⟩) rfl rfl (aL 101 (.tmp 7) rfl ⟨g,0,none⟩ (by rfl) aH) ?_;simp only[Act.put,aC,aB,aE];refine EM (rs:=[6]) (by kernel_rfl) (by simp) ?_;intro i3 R;obtain rfl:i3=6:=by simpa using R
   refine ak (o:=⟨some 28,.buildSlice 94 1 #[(0,.tmp 27)],_,_,_,none⟩) rfl rfl (aS 94 1 #[(0,.tmp 27)] rfl #[(0,.agg (Value.int .i64 i::c).toArray)] (by simp[Act.eval]) a9) ?_;simp only[Act.put,aC,aB,aE];refine EM (rs:=[7]) (by kernel_rfl) (by simp) ?_;intro i4 S;obtain rfl:i4=7:=by simpa using S
   refine cA (o:=⟨some 29,.call {callee:= .builtin .append,args:=#[.tmp 26,.tmp 28],argTypes:=#[94,94]},_,_,_,none⟩) rfl rfl ?_;refine Ek _ (.tmp 26) (.tmp 28) 94 rfl m 101 Y (.agg (wz (.int .i64 0))) 129 136 underlying94 Z a0 M a8 (fU _) (by decide) a k O (by simp[Act.eval]) J ⟨r.drew.heap.size,0,none⟩ 1 1 (Value.int .i64 i::c) (by simp[Act.eval]) (by simp[hl]) y (fun u T=>by rcases CF.1 T with rfl|T;rfl;exact L u T) (by decide) (by unfold maxLen;omega) (by omega) ab _ rfl ?_;intro F q G E p K aN;simp only[Act.put,aC,aB,aE];refine EO (i:=8) (oi:=⟨some 30,.nilCheck (.tmp 22),_,_,_,none⟩) (v:= .pointer (some ⟨A,0,none⟩)) rfl (by kernel_rfl) (by kernel_rfl) (by kernel_rfl) (fun _ _ _ h=>h) (Or.inl ⟨rfl,fun _=>rfl⟩) ?_;simp only[Act.put,aC,aB,aE];refine EO (i:=9) (oi:=⟨some 31,.fieldAddr 96 (.tmp 30) 1,_,_,_,none⟩) (v:= .pointer (some ⟨A,1,none⟩)) rfl (by kernel_rfl) (by kernel_rfl) (by kernel_rfl) (fun _ _ _ h=>h) (Or.inl ⟨rfl,fun _=>by kernel_rfl⟩) ?_;simp only[Act.put,aC,aB,aE];refine EM (rs:=[10]) (by kernel_rfl) (by simp) ?_;intro i5 U;obtain rfl:i5=10:=by simpa using U
   have s:aP G A B n a d.next:=by unfold aP;rw[p.block A N.lt (fun e=>ad e.symm)];exact N
   refine aA (o:=⟨none,.store 94 (.tmp 31) (.tmp 29),_,_,_,none⟩) rfl rfl (ar 94 (.tmp 31) (.tmp 29) rfl ⟨A,1,none⟩ (.slice (some ⟨F,0,none⟩) (k+1) q) (by rfl) (by rfl) (ah s.c1 (s.fz 1) (by kernel_rfl) rfl)) ?_;simp only[Act.put];refine wpAny_done (by kernel_rfl) ?_ _;go_wp2;go_meet;case rel=>exact ag F q G s E p K
  ·skip;refine ak (o:=⟨some 27,.load 101 (.tmp 7),_,_,_,none⟩) rfl rfl (aL 101 (.tmp 7) rfl ⟨g,0,none⟩ (by rfl) aH) ?_;simp only[Act.put,aC,aB,aE];refine EM (rs:=[4,6]) (by kernel_rfl) (by simp) ?_;intro i2 a1;simp only[CF,Dy,EF]at a1;rcases a1 with rfl|rfl
   ·skip;refine ak (o:=⟨some 26,.load 94 (.tmp 25),_,_,_,none⟩) rfl rfl (aL 94 (.tmp 25) rfl ⟨A,1,none⟩ (by rfl) aG) ?_;simp only[Act.put,aC,aB,aE];refine EM (rs:=[6]) (by kernel_rfl) (by simp) ?_;intro i3 R;obtain rfl:i3=6:=by simpa using R
    refine ak (o:=⟨some 28,.buildSlice 94 1 #[(0,.tmp 27)],_,_,_,none⟩) rfl rfl (aS 94 1 #[(0,.tmp 27)] rfl #[(0,.agg (Value.int .i64 i::c).toArray)] (by simp[Act.eval]) a9) ?_;simp only[Act.put,aC,aB,aE];refine EM (rs:=[7]) (by kernel_rfl) (by simp) ?_;intro i4 S;obtain rfl:i4=7:=by simpa using S
    refine cA (o:=⟨some 29,.call {callee:= .builtin .append,args:=#[.tmp 26,.tmp 28],argTypes:=#[94,94]},_,_,_,none⟩) rfl rfl ?_;refine Ek _ (.tmp 26) (.tmp 28) 94 rfl m 101 Y (.agg (wz (.int .i64 0))) 129 136 underlying94 Z a0 M a8 (fU _) (by decide) a k O (by simp[Act.eval]) J ⟨r.drew.heap.size,0,none⟩ 1 1 (Value.int .i64 i::c) (by simp[Act.eval]) (by simp[hl]) y (fun u T=>by rcases CF.1 T with rfl|T;rfl;exact L u T) (by decide) (by unfold maxLen;omega) (by omega) ab _ rfl ?_;intro F q G E p K aN;simp only[Act.put,aC,aB,aE];refine EO (i:=8) (oi:=⟨some 30,.nilCheck (.tmp 22),_,_,_,none⟩) (v:= .pointer (some ⟨A,0,none⟩)) rfl (by kernel_rfl) (by kernel_rfl) (by kernel_rfl) (fun _ _ _ h=>h) (Or.inl ⟨rfl,fun _=>rfl⟩) ?_;simp only[Act.put,aC,aB,aE];refine EO (i:=9) (oi:=⟨some 31,.fieldAddr 96 (.tmp 30) 1,_,_,_,none⟩) (v:= .pointer (some ⟨A,1,none⟩)) rfl (by kernel_rfl) (by kernel_rfl) (by kernel_rfl) (fun _ _ _ h=>h) (Or.inl ⟨rfl,fun _=>by kernel_rfl⟩) ?_;simp only[Act.put,aC,aB,aE];refine EM (rs:=[10]) (by kernel_rfl) (by simp) ?_;intro i5 U;obtain rfl:i5=10:=by simpa using U
    have s:aP G A B n a d.next:=by unfold aP;rw[p.block A N.lt (fun e=>ad e.symm)];exact N
    refine aA (o:=⟨none,.store 94 (.tmp 31) (.tmp 29),_,_,_,none⟩) rfl rfl (ar 94 (.tmp 31) (.tmp 29) rfl ⟨A,1,none⟩ (.slice (some ⟨F,0,none⟩) (k+1) q) (by rfl) (by rfl) (ah s.c1 (s.fz 1) (by kernel_rfl) rfl)) ?_;simp only[Act.put];refine wpAny_done (by kernel_rfl) ?_ _;go_wp2;go_meet;case rel=>exact ag F q G s E p K
   ·skip;refine ak (o:=⟨some 28,.buildSlice 94 1 #[(0,.tmp 27)],_,_,_,none⟩) rfl rfl (aS 94 1 #[(0,.tmp 27)] rfl #[(0,.agg (Value.int .i64 i::c).toArray)] (by simp[Act.eval]) a9) ?_;simp only[Act.put,aC,aB,aE];refine EM (rs:=[4]) (by kernel_rfl) (by simp) ?_;intro i3 R;obtain rfl:i3=4:=by simpa using R
    refine ak (o:=⟨some 26,.load 94 (.tmp 25),_,_,_,none⟩) rfl rfl (aL 94 (.tmp 25) rfl ⟨A,1,none⟩ (by rfl) b1) ?_;simp only[Act.put,aC,aB,aE];refine EM (rs:=[7]) (by kernel_rfl) (by simp) ?_;intro i4 S;obtain rfl:i4=7:=by simpa using S
    refine cA (o:=⟨some 29,.call {callee:= .builtin .append,args:=#[.tmp 26,.tmp 28],argTypes:=#[94,94]},_,_,_,none⟩) rfl rfl ?_;refine Ek _ (.tmp 26) (.tmp 28) 94 rfl m 101 Y (.agg (wz (.int .i64 0))) 129 136 underlying94 Z a0 M a8 (fU _) (by decide) a k O (by simp[Act.eval]) J ⟨r.drew.heap.size,0,none⟩ 1 1 (Value.int .i64 i::c) (by simp[Act.eval]) (by simp[hl]) y (fun u T=>by rcases CF.1 T with rfl|T;rfl;exact L u T) (by decide) (by unfold maxLen;omega) (by omega) ab _ rfl ?_;intro F q G E p K aN;simp only[Act.put,aC,aB,aE];refine EO (i:=8) (oi:=⟨some 30,.nilCheck (.tmp 22),_,_,_,none⟩) (v:= .pointer (some ⟨A,0,none⟩)) rfl (by kernel_rfl) (by kernel_rfl) (by kernel_rfl) (fun _ _ _ h=>h) (Or.inl ⟨rfl,fun _=>rfl⟩) ?_;simp only[Act.put,aC,aB,aE];refine EO (i:=9) (oi:=⟨some 31,.fieldAddr 96 (.tmp 30) 1,_,_,_,none⟩) (v:= .pointer (some ⟨A,1,none⟩)) rfl (by kernel_rfl) (by kernel_rfl) (by kernel_rfl) (fun _ _ _ h=>h) (Or.inl ⟨rfl,fun _=>by kernel_rfl⟩) ?_;simp only[Act.put,aC,aB,aE];refine EM (rs:=[10]) (by kernel_rfl) (by simp) ?_;intro i5 U;obtain rfl:i5=10:=by simpa using U
    have s:aP G A B n a d.next:=by unfold aP;rw[p.block A N.lt (fun e=>ad e.symm)];exact N
    refine aA (o:=⟨none,.store 94 (.tmp 31) (.tmp 29),_,_,_,none⟩) rfl rfl (ar 94 (.tmp 31) (.tmp 29) rfl ⟨A,1,none⟩ (.slice (some ⟨F,0,none⟩) (k+1) q) (by rfl) (by rfl) (ah s.c1 (s.fz 1) (by kernel_rfl) rfl)) ?_;simp only[Act.put];refine wpAny_done (by kernel_rfl) ?_ _;go_wp2;go_meet;case rel=>exact ag F q G s E p K
theorem qF(B n c a:Nat)(h:a<n)(w:World):(Instr.indexAt 93 (.slice (some ⟨B,0,none⟩) n c) (.int .i64 a)).run prog w= .ok (.pointer (some ⟨B,a*128,none⟩)) w:=by
 have b:(a:Int)<n:=by omega
 go_simp
theorem wd{w:World}{A B n:Nat}{a:Value}{d:DP}(h:aP w A B n a d)(j:d.Ok)(k:d.bad=true):Calls prog 205 #[.pointer (some ⟨A,0,none⟩)] w fun e g=>e= .returned wG∧aP g A B n a d.next∧Fr (· =A) w g:=by go_enter func205,ntmps205;go_wp2_with fail;refine(fi h j).mono ?_;rintro e i ⟨rfl,b,c,f⟩;rw[k];have l:Hid (aP i A B n a d.next∧Fr (· =A) w i):=⟨b,c⟩;clear b c f;go_wp2;go_ret;exact⟨rfl,l.out⟩
theorem rU{w:World}{A B n:Nat}{E:Value}{d:DP}{y:List Value}(h:aP w A B n E d)(hm:n≤d.cap)(hr:cD w B d.cap y)(a9:d.Ok)(U:d.bad=false){m k:Nat}{f:List (Nat×List Value)}(s:w.ownsRow m 101 129 E k (gc f))(hk:k<1000000)(ab:0<k)(hl:∀p∈f,p.2.length=128)(ho:∀p∈f,∀v∈p.2,v.oneCell'=true)(hn:∀p∈f,p.1<n):Calls prog 205 #[.pointer (some ⟨A,0,none⟩)] w fun e F=>e= .returned .nilIface∧aP F A B n (.slice none 0 0) d.next∧cD F B d.cap (bv y f)∧Fr (fun b=>b=A∨b=B) w F:=by
 obtain⟨g,r,rfl,an,al⟩:=s.form ab;have V:f.length=k:=by have:=mE f hl;rw[s.1]at this;omega
 have X:=af V;clear V;go_enter func205,ntmps205;go_wp2_with fail;refine(fi h a9).mono ?_;rintro e R ⟨rfl,L,t,ad⟩;rw[U];have J:A≠B:=by intro e;subst e;have:=h.symm.trans hr.1;simp at this
 have ag:A≠g:=by
  intro e;subst e;rcases s.2 with⟨u,_⟩|⟨g',Y,ah,u,Z,hg,_⟩
  ·cases u
  ·simp only[DW,Cu,Ec,ER]at u;rw[←u.1]at hg;have:=h.symm.trans hg;simp at this
 have aj:B≠g:=by
  intro e;subst e;rcases s.2 with⟨u,_⟩|⟨g',Y,ah,u,Z,hg,_⟩
  ·cases u
  ·simp only[DW,Cu,Ec,ER]at u;rw[←u.1]at hg;have:=hr.1.symm.trans hg;simp at this
 have a0:cD R B d.cap y:=⟨t.keep hr.1 J.symm,hr.2⟩;have a1:R.ownsRow m 101 129 (.slice (some ⟨g,0,none⟩) k r) k (gc f):=s.kept (row:=some A) ⟨t.os,t.tape,t.output,t.size,fun b Z hn=>t.block b Z (fun e=>hn (by rw[e]))⟩ (by right;simp only[Value.ownBlock];intro e;exact ag (by simpa using e.symm));have c1:=L.c1;have HI:Hid (aP R A B n (.slice (some ⟨g,0,none⟩) k r) d.next∧cD R B d.cap (bv y (f.take 0))∧R.ownsRow m 101 129 (.slice (some ⟨g,0,none⟩) k r) k (gc f)∧Fr (fun b=>b=A∨b=B) w R):=⟨L,by simpa[bv]using a0,a1,t.mono (fun _ _=>Or.inl)⟩;clear L a0 a1 t ad;go_wp2;go_loopw [13] (fun c wr=>∃i:Nat,i≤k∧c= .int .i64 i∧Hid (aP wr A B n (.slice (some ⟨g,0,none⟩) k r) d.next∧cD wr B d.cap (bv y (f.take i))∧wr.ownsRow m 101 129 (.slice (some ⟨g,0,none⟩) k r) k (gc f)∧Fr (fun b=>b=A∨b=B) w wr)) (fun c _=>k-(intOf c).toNat);case atStart=>exact⟨0,CH _,rfl,HI⟩
 case round=>
  obtain⟨i,ao,rfl,HR⟩:=hrel;by_cases ap:i<k
  ·obtain⟨p,hp⟩:∃p,f[i]?=some p:=by have:=X.out;exact⟨_,Cp (by omega)⟩
   obtain⟨a,q⟩:=p;have M:=Cq hp;have H:q.length=128:=hl _ M;have N:∀v∈q,v.oneCell'=true:=ho _ M;have a2:a<n:=hn _ M;have a3:=kl HR.out.2.2.1 hl hp;have a4:(Value.int .i64 a::q).length=129:=by simp[H]
   have ak:∀v∈(Value.int .i64 a::q),v.oneCell'=true:=fun v u=>by
    rcases CF.1 u with rfl|u
    ·rfl
    ·exact N v u
   have aq:(i:Int)<k:=by omega
   go_wp2_with (first
    |(refine CC rfl 101 (.tmp 15) rfl g (i*129) ?_ (Value.int .i64 a::q) _ a3 underlying101 rfl ?_ ?_;rfl;(rw[dq,a4]))
    |(refine bR 101 (v:= .pointer (some ⟨wr.heap.size,0,none⟩)) (w':=wr.alloc (.cells (wz (.int .i64 0)) 101)) rfl rfl ?_ ?_;exact dP wr)
    |(refine ae 101 (w':=wr.alloc (.cells (Value.int .i64 a::q).toArray 101)) (.tmp 4) (.tmp 16) rfl rfl ?_ ?_;exact gU _ a4 ak wr))
   try go_simp
   obtain⟨x,l,I,C⟩:=HR.out;obtain⟨W,T⟩:=aw ((wr.alloc (.cells (Value.int .i64 a::q).toArray 101)).drew);obtain⟨G,HG⟩:=aw wr.heap.size;have O:W.heap[G]?=some (.cells (Value.int .i64 a::q).toArray 101 (0,0)):=by rw[T.out,HG.out];exact aa _ _
   have Q:aP W A B n (.slice (some ⟨g,0,none⟩) k r) d.next:=by rw[T.out];exact(x.alloc _).drew
   have K:cD W B d.cap (bv y (f.take i)):=by rw[T.out];refine⟨?_,l.2⟩;rw[gP,ai _ _ _ (lt_of_heap l.1)];exact l.1
   have a5:G≠B:=by have:=lt_of_heap l.1;have:=HG.out;omega
   have a6:Fr (fun b=>b=A∨b=B) w W:=by rw[T.out];exact(C.alloc _).drew
   have a7:W.ownsRow m 101 129 (.slice (some ⟨g,0,none⟩) k r) k (gc f):=by rw[T.out];exact I.alloc _
   clear x l I C;rw[←HG.out];let S:World→Prop:=fun F=>F.cell? ⟨A,0,none⟩=some (.slice (some ⟨B,0,none⟩) n d.cap)∧F.cell? ⟨G,0,none⟩=some (.int .i64 a)∧F.rangeAt G 1 q
   have D:S W:=⟨Q.c0,by rw[Cn W G 0 _ _ _ O];rfl,fun j v u=>by rw[Cn W G (1+j) _ _ _ O,Nat.add_comm];simpa using u⟩;have a8:S (W.setRow B (splice (bv y (f.take i)) (a*128) q).toArray):=by refine⟨by rw[Fg _ _ _ _ J];exact D.1,by rw[Fg _ _ _ _ a5];exact D.2.1,fun j v u=>by rw[Fg _ _ _ _ a5];exact D.2.2 j v u⟩
   have z:=au (P:=prog) (o:=a*128) (ty:=97) (vs:=q) K.1 (by rw[H,K.2.1];omega) N (by rw[qL,H]);refine dZ S T ?_;refine bM 0 17 0 (.pointer (some ⟨A,0,none⟩)) rfl D ?_;refine d4 1 18 17 (.pointer (some ⟨A,0,none⟩)) rfl D ?_;refine bT 2 19 96 18 0 (.pointer (some ⟨A,0,none⟩)) rfl D ?_;refine cU 3 20 93 19 (.slice (some ⟨B,0,none⟩) n d.cap) ⟨A,0,none⟩ rfl (fun _ hs=>hs.1) underlying93 D ?_;refine bT 4 21 101 4 0 (.pointer (some ⟨G,0,none⟩)) rfl D ?_;refine cU 5 22 3 21 (.int .i64 a) ⟨G,0,none⟩ rfl (fun _ hs=>hs.2.1) underlying3 D ?_;refine bT 6 23 101 4 1 (.pointer (some ⟨G,1,none⟩)) rfl D ?_;refine ig 7 24 97 23 (.agg q.toArray) ⟨G,1,none⟩ rfl (fun F hs=>Dq F G 1 97 q _ hs.2.2 underlying97 rfl (by rw[qL,H])) D ?_;simp only[Act.put,aC,aB,aE];refine eW (S:=S) (i:=8) (oi:=⟨some 25,.indexAddr 93 (.tmp 20) (.tmp 22),_,_,_,none⟩) (v:= .pointer (some ⟨B,a*128,none⟩)) rfl (Or.inl ⟨rfl,fun F _=>bn 93 (.tmp 20) (.tmp 22) rfl (by rfl) (by rfl) (qF B n d.cap a a2 F)⟩) D ?_;simp only[Act.put,aC,aB,aE];refine cj 9 ?_;refine aA (o:=⟨none,.store 97 (.tmp 25) (.tmp 24),_,_,_,none⟩) rfl rfl (ar 97 (.tmp 25) (.tmp 24) rfl ⟨B,a*128,none⟩ (.agg q.toArray) (by rfl) (by rfl) z) ⟨a8,?_⟩;simp only[Act.put];refine dn ?_;clear D a8 z
   have HN:Hid (aP (W.setRow B (splice (bv y (f.take i)) (a*128) q).toArray) A B n (.slice (some ⟨g,0,none⟩) k r) d.next∧cD (W.setRow B (splice (bv y (f.take i)) (a*128) q).toArray) B d.cap (bv y (f.take (i+1)))∧(W.setRow B (splice (bv y (f.take i)) (a*128) q).toArray).ownsRow m 101 129 (.slice (some ⟨g,0,none⟩) k r) k (gc f)∧Fr (fun b=>b=A∨b=B) w (W.setRow B (splice (bv y (f.take i)) (a*128) q).toArray)):=by refine⟨by unfold aP;rw[DB _ _ _ _ J];exact Q,by rw[og y f i _ hp];exact K.splice a (Ea a2 hm) q H N,?_,a6.setRow _ (fun _=>Or.inr rfl) _⟩;exact a7.kept (row:=some B) ⟨rfl,rfl,rfl,by simp,fun b _ Z=>DB _ _ _ _ (fun e=>Z (by rw[e]))⟩ (by right;simp only[Value.ownBlock];intro e;exact aj (by simpa using e.symm))
   generalize W.setRow B (splice (bv y (f.take i)) (a*128) q).toArray=WN at*
   clear O Q K a6 a7 a3;go_wp2;go_roundw;case rel=>exact⟨i+1,by omega,by go_num,HN⟩
   case measure=>simp[intOf];omega
  ·obtain⟨x,l,I,C⟩:=HR.out;have f1:=x.fz 1;have av:=x.c1;clear l I C x;go_wp2;go_ret;obtain⟨x,l,I,C⟩:=HR.out;have hi:i=k:=by omega
   have e2:f.take i=f:=CO (by rw[X.out];omega);rw[e2]at l;exact⟨rfl,x.set1 _,⟨by rw[aK _ _ _ _ J.symm];exact l.1,l.2⟩,C.setCell _ (fun _=>Or.inl rfl) _⟩
theorem aZ.neK{w:World}{V A B n m:Nat}{c:Value}{d:DP}(h:aZ w V A n)(a:aP w m B n c d):V≠m:=by intro e;subst e;have:=h.symm.trans a;simp at this
def dH(w:World)(g:Nat):Prop:=∃f s,w.heap[g]?=some (.cells #[.pointer (some ⟨f,0,none⟩)] 262 (0,0))∧w.heap[f]?=some (.cells #[.string s,wG] 119 (0,0))
theorem dH.fr{S:Nat→Prop}{w a:World}{g:Nat}(h:dH w g)(d:Fr S w a)(e:∀b c t,w.heap[b]?=some (.cells c t (0,0))→t=262∨t=119→¬S b):dH a g:=by obtain⟨f,s,i,j⟩:=h;exact⟨f,s,d.keep i (e _ _ _ i (.inl rfl)),d.keep j (e _ _ _ j (.inr rfl))⟩
theorem mi(s:ByteArray)(w:World):Calls prog 142 #[.string s] w fun e a=>∃g,e= .panicked [{v:= .iface 258 (.pointer (some ⟨g,0,none⟩)),recovered:=false}]∧dH a g∧Fr (fun _=>False) w a:=by
 have b:((w.alloc (.cells #[.string s,wG] 119)).alloc (.cells #[.pointer (some ⟨w.heap.size,0,none⟩)] 262)).heap[w.heap.size+1]?=some (.cells #[.pointer (some ⟨w.heap.size,0,none⟩)] 262 (0,0)):=Di w _ _;have c:((w.alloc (.cells #[.string s,wG] 119)).alloc (.cells #[.pointer (some ⟨w.heap.size,0,none⟩)] 262)).heap[w.heap.size]?=some (.cells #[.string s,wG] 119 (0,0)):=by rw[ai _ _ _ (by simp)];exact aa _ _
 have d:Hid (dH ((w.alloc (.cells #[.string s,wG] 119)).alloc (.cells #[.pointer (some ⟨w.heap.size,0,none⟩)] 262)) (w.heap.size+1)):=⟨_,_,b,c⟩;have f:Hid (Fr (fun _=>False) w ((w.alloc (.cells #[.string s,wG] 119)).alloc (.cells #[.pointer (some ⟨w.heap.size,0,none⟩)] 262))):=((Fr.refl _ _).alloc _).alloc _;clear b c;unfold wG at*
 go_enter func142,ntmps142;go_wp2;exact⟨rfl,_,rfl,d.out,f.out⟩
theorem rF{w:World}{V A B n:Nat}{a:Value}{d:DP}(E:aZ w V A n)(h:aP w A B n a d)(F:d.Ok)(x:d.bad=false){l k:Nat}{H:List Value}(m:w.ownsRow l 101 129 a k H)(Y:k<1000000)(r:l≤w.heap.size)(i:Nat)(hi:i<n)(c:List Value)(Z:c.length=128)(y:∀v∈c,v.oneCell'=true):Calls prog 94 #[.pointer (some ⟨V,0,none⟩),.int .i64 i,.agg c.toArray] w fun e t=>e= .returned (.tuple #[])∧∃j,aP t A B n j d.next.wrote∧t.ownsRow l 101 129 j (k+1) (H++(.int .i64 i::c))∧CB w a j∧Fr (fun b=>b=A∨a.ownBlock=some b) w t:=by
 have I:=E.neK h;have J:a.ownBlock≠some V:=by
  intro e;rcases m.2 with⟨rfl,_⟩|⟨g,a0,a1,rfl,X,hg,_⟩
  ·simp[Value.ownBlock]at e
  ·simp only[Value.ownBlock,Cu]at e;subst e;have:=E.symm.trans hg;simp at this
 have K:=lt_of_heap E;have a2:=h.lt;go_enter func94,ntmps94;go_wp2_with (refine cX 130 (.tmp 2) (v:= .pointer (some ⟨w.heap.size,0,none⟩)) (w':=w.alloc (.cells c.toArray 130)) rfl rfl ?_ ?_;exact nB c w);try go_simp
 obtain⟨W,u⟩:=aw ((w.alloc (.cells c.toArray 130)).drew);obtain⟨G,L⟩:=aw w.heap.size;have M:G≠A:=by have:=L.out;omega
 have N:W.heap[G]?=some (.cells c.toArray 130 (0,0)):=by rw[u.out,L.out];exact aa _ _
 have O:aP W A B n a d:=by rw[u.out];exact(h.alloc _).drew
 have z:aZ W V A n:=by rw[u.out];unfold aZ;rw[gP,ai _ _ _ K];exact E
 have P:W.ownsRow l 101 129 a k H:=by rw[u.out];exact m.alloc _
 have s:Fr (fun b=>b=A∨a.ownBlock=some b) w W:=by rw[u.out];exact((Fr.refl _ _).alloc _).drew
 have Q:=Ct r s.size;rw[←L.out];let S:World→Prop:=fun t=>t.cell? ⟨V,0,none⟩=some (.iface 31 (.pointer (some ⟨A,0,none⟩)))
 have q:S W:=z.c0;refine dZ S u ?_;refine bM 0 6 0 (.pointer (some ⟨V,0,none⟩)) rfl q ?_;refine d4 1 7 6 (.pointer (some ⟨V,0,none⟩)) rfl q ?_;refine bT 2 8 212 7 0 (.pointer (some ⟨V,0,none⟩)) rfl q ?_;refine cU 3 9 154 8 (.iface 31 (.pointer (some ⟨A,0,none⟩))) ⟨V,0,none⟩ rfl (fun _ hs=>hs) underlying154 q ?_;refine bM 4 10 1 (.int .i64 i) rfl q ?_;refine d4 6 12 9 (.iface 31 (.pointer (some ⟨A,0,none⟩))) rfl q ?_;refine bM 7 13 9 (.iface 31 (.pointer (some ⟨A,0,none⟩))) rfl q ?_;simp only[Act.put,aC,aB,aE];refine dN 5 11 141 #[.tmp 5,.const (.int .i64 0),.const (.int .i64 128)] #[.pointer (some ⟨G,0,none⟩),.int .i64 0,.int .i64 128] rfl ?_;refine(qM W G).mono ?_;rintro e t ⟨rfl,rfl⟩;refine⟨_,rfl,q,?_⟩;simp only[Act.put,aC,aB,aE];refine cj 8 ?_;refine bl (o:=⟨some 14,.call {callee:= .invoke (.tmp 13) _,args:=#[.tmp 10,.tmp 11],argTypes:=_},_,_,_,none⟩) (f:=207) (args:=#[.pointer (some ⟨A,0,none⟩),.int .i64 i,.slice (some ⟨G,0,none⟩) 128 128]) rfl rfl (by kernel_rfl) ?_;refine(sF O F x P Y Q i hi G 130 c N Z y M).mono ?_;rintro e w2 ⟨rfl,j,R,T,U,C⟩;have D:S w2:=C.cell (p:=⟨V,0,none⟩) z.c0 (by rintro(e|e);exact I e;exact J e);refine⟨_,rfl,D,?_⟩;simp only[Act.put,aC,aB,aE];refine qg (S:=S) (i:=9) (oi:=⟨some 15,.binOp .neq 36 (.tmp 14) (.const .nilIface) 36,_,_,_,none⟩) (v:= .bool false) rfl D ?_;simp only[Act.put,aC,aB,aE];refine dn ?_;go_wp2;go_end0;exact⟨rfl,j,R,T,fun b X=>(U b X).imp_right (fun h=>Ct s.size h),s.trans C fI⟩
theorem vn{w:World}{V A B n:Nat}{a:Value}{d:DP}(H:aZ w V A n)(h:aP w A B n a d)(C:d.Ok)(t:d.bad=true)(i:Nat)(b:List Value)(I:∀W,Fr (· =A) w W→Calls prog 143 #[.int .i64 i] W fun e k=>(∃s,e= .returned (.string s)∧s.size≤100)∧Fr (fun _=>False) W k):Calls prog 94 #[.pointer (some ⟨V,0,none⟩),.int .i64 i,.agg b.toArray] w fun e k=>∃g,e= .panicked [{v:= .iface 258 (.pointer (some ⟨g,0,none⟩)),recovered:=false}]∧dH k g∧aP k A B n a d.next∧Fr (· =A) w k:=by
 have D:=lt_of_heap H;go_enter func94,ntmps94;go_wp2_with (refine cX 130 (.tmp 2) (v:= .pointer (some ⟨w.heap.size,0,none⟩)) (w':=w.alloc (.cells b.toArray 130)) rfl rfl ?_ ?_;exact nB b w);try go_simp
 obtain⟨W,y⟩:=aw ((w.alloc (.cells b.toArray 130)).drew);obtain⟨G,J⟩:=aw w.heap.size;have m:aP W A B n a d:=by rw[y.out];exact(h.alloc _).drew
 have c:aZ W V A n:=by rw[y.out];unfold aZ;rw[gP,ai _ _ _ D];exact H
 have u:Fr (fun _=>False) w W:=by rw[y.out];exact((Fr.refl _ _).alloc _).drew
 rw[←J.out];let S:World→Prop:=fun k=>k.cell? ⟨V,0,none⟩=some (.iface 31 (.pointer (some ⟨A,0,none⟩)))
 have j:S W:=c.c0;refine dZ S y ?_;refine bM 0 6 0 (.pointer (some ⟨V,0,none⟩)) rfl j ?_;refine d4 1 7 6 (.pointer (some ⟨V,0,none⟩)) rfl j ?_;refine bT 2 8 212 7 0 (.pointer (some ⟨V,0,none⟩)) rfl j ?_;refine cU 3 9 154 8 (.iface 31 (.pointer (some ⟨A,0,none⟩))) ⟨V,0,none⟩ rfl (fun _ K=>K) underlying154 j ?_;refine bM 4 10 1 (.int .i64 i) rfl j ?_;refine d4 6 12 9 (.iface 31 (.pointer (some ⟨A,0,none⟩))) rfl j ?_;refine bM 7 13 9 (.iface 31 (.pointer (some ⟨A,0,none⟩))) rfl j ?_;simp only[Act.put,aC,aB,aE];refine dN 5 11 141 #[.tmp 5,.const (.int .i64 0),.const (.int .i64 128)] #[.pointer (some ⟨G,0,none⟩),.int .i64 0,.int .i64 128] rfl ?_;refine(qM W G).mono ?_;rintro e k ⟨rfl,rfl⟩;refine⟨_,rfl,j,?_⟩;simp only[Act.put,aC,aB,aE];refine cj 8 ?_;refine bl (o:=⟨some 14,.call {callee:= .invoke (.tmp 13) _,args:=#[.tmp 10,.tmp 11],argTypes:=_},_,_,_,none⟩) (f:=207) (args:=#[.pointer (some ⟨A,0,none⟩),.int .i64 i,.slice (some ⟨G,0,none⟩) 128 128]) rfl rfl (by kernel_rfl) ?_;refine(wj m C t _ _).mono ?_;rintro e z ⟨rfl,x,p⟩;have q:S z:=p.cell c.c0 (c.neK m);refine⟨_,rfl,q,?_⟩;simp only[Act.put,aC,aB,aE];refine qg (S:=S) (i:=9) (oi:=⟨some 15,.binOp .neq 36 (.tmp 14) (.const .nilIface) 36,_,_,_,none⟩) (v:= .bool true) rfl q ?_;simp only[Act.put,aC,aB,aE];refine dn ?_;have r:Hid (aP z A B n a d.next∧Fr (· =A) w z):=⟨x,(u.mono (fun _ _ h=>h.elim)).trans p fI⟩;clear q x p j c m u;go_wp2_with fail;refine(I z r.out.2).mono ?_;rintro e L ⟨⟨s,rfl,M⟩,E⟩;go_wp2_with fail;refine(mi _ L).mono ?_;rintro e O ⟨g,rfl,N,F⟩;have l:=E.trans F fI;exact⟨rfl,g,rfl,N,r.out.1.fr l jI,r.out.2.trans (l.mono (fun _ _ h=>h.elim)) fI⟩
theorem qA{w:World}{V A B n:Nat}{c:Value}{d:DP}{s:List Value}(t:aZ w V A n)(h:aP w A B n c d)(u:n≤d.cap)(x:cD w B d.cap s)(j:d.Ok)(f:d.bad=false){g k:Nat}{a:List (Nat×List Value)}(i:w.ownsRow g 101 129 c k (gc a))(y:k<1000000)(l:0<k)(z:∀p∈a,p.2.length=128)(C:∀p∈a,∀v∈p.2,v.oneCell'=true)(D:∀p∈a,p.1<n):Calls prog 95 #[.pointer (some ⟨V,0,none⟩)] w fun e m=>e= .returned (.tuple #[])∧aP m A B n (.slice none 0 0) d.next∧cD m B d.cap (bv s a)∧Fr (fun b=>b=A∨b=B) w m:=by have c0:=t.c0;have E:=jZ;go_enter func95,ntmps95;go_wp2_with fail;refine(rU h u x j f i y l z C D).mono ?_;rintro e F ⟨rfl,o,q,r⟩;go_wp2;go_end0;exact⟨rfl,o,q,r⟩
theorem tf{w:World}{V A B n:Nat}{a:Value}{d:DP}(o:aZ w V A n)(h:aP w A B n a d)(k:d.Ok)(b:d.bad=true):Calls prog 95 #[.pointer (some ⟨V,0,none⟩)] w fun e l=>∃g,e= .panicked [{v:= .iface 258 (.pointer (some ⟨g,0,none⟩)),recovered:=false}]∧dH l g∧aP l A B n a d.next∧Fr (· =A) w l:=by have c0:=o.c0;have q:=jZ;go_enter func95,ntmps95;go_wp2_with fail;refine(wd h k b).mono ?_;rintro e m ⟨rfl,c,f⟩;have i:Hid (aP m A B n a d.next∧Fr (· =A) w m):=⟨c,f⟩;clear c f;unfold wG;go_wp2_with fail;refine(mi _ m).mono ?_;rintro e r ⟨g,rfl,p,j⟩;exact⟨rfl,g,rfl,p,i.out.1.fr j jI,i.out.2.trans (j.mono (fun _ _ h=>h.elim)) fI⟩
theorem uO{bs:List Value}(d:∀v∈bs,v.oneCell'=true):∀(a:List (Nat×List Value)),(∀p∈a,∀v∈p.2,v.oneCell'=true)→∀v∈bv bs a,v.oneCell'=true:=by
 intro a;induction a generalizing bs with
 |nil=>intro _ v c;exact d v c
 |cons p l e=>
  intro h v c;refine e (bs:=splice bs (p.1*128) p.2) (fun u b=>?_) (fun q f=>h q (by simp[f])) v c;rcases eC b with b|b
  ·exact d u b
  ·exact h p (by simp) u b
theorem vk{w:World}{V A B n:Nat}{a:Value}{d:DP}{z:List Value}(x:aZ w V A n)(h:aP w A B n a d)(H:d.Ok)(C:d.bad=false)(I:n≤d.cap)(D:cD w B d.cap z){q k:Nat}{b:List (Nat×List Value)}(y:fy w q k n a b)(i:Nat)(hi:i<n):Calls prog 112 #[.pointer (some ⟨V,0,none⟩),.int .i64 i] w fun e T=>e= .returned (.agg (aI (bv z b) i).toArray)∧aP T A B n a d.next∧Fr (· =A) w T:=by
 have c:=iQ (r8 D.2.1 b y.l (fun p W=>Ea (y.n p W) I)) (Ea hi I);have f:∀v∈aI (bv z b) i,v.oneCell'=true:=fun v x=>uO D.2.2 b y.one v (D8 (CU x));have X:=h.lt;have J:=lt_of_heap x;have Y:=l7;have K:aZ (w.alloc (.cells bJ 130)) V A n:=by unfold aZ;rw[ai _ _ _ J];exact x
 have L:cD (w.alloc (.cells bJ 130)) B d.cap z:=⟨by rw[ai _ _ _ (lt_of_heap D.1)];exact D.1,D.2⟩;have N:fy (w.alloc (.cells bJ 130)) q k n a b:=y.fr ((Fr.refl (fun _=>False) _).alloc _) (fun _ _ _ _ h=>h);have c0:=K.c0;go_enter func112,ntmps112;go_wp2_with (first
  |(refine bR 130 (v:= .pointer (some ⟨w.heap.size,0,none⟩)) (w':=w.alloc (.cells bJ 130)) rfl rfl ?_ ?_;exact eL w))
 refine(uu (h.alloc _) H C I L N i hi).mono ?_;rintro e r ⟨rfl,m,E,F⟩;obtain⟨cs,G⟩:=aw (aI (bv z b) i);rw[←G.out]at c f m;have U:=F.keep (aa w _) (by omega);have hF:=((Fr.refl _ _).alloc _).trans F fI;simp only[World.size_alloc]at m;have O:=lt_of_heap m;obtain⟨M,Z⟩:=aw r.heap.size;go_wp2_with (first
  |(refine bR 130 (v:= .pointer (some ⟨r.heap.size,0,none⟩)) (w':=r.alloc (.cells bJ 130)) rfl rfl ?_ ?_;exact eL r)
  |(refine bC rfl (.tmp 23) (.tmp 24) 85 85 rfl 5 underlying85 ir r.heap.size 0 128 128 ⟨w.heap.size+1,0,none⟩ 128 128 rfl rfl bJ 130 ?_ cs ?_ ?_ ?_ f cs ?_ ?_;exact aa _ _;(rw[c];rfl);(exact CZ (cs:=cs.toArray) (t:=5) (fr:=(0,0)) (by rw[ai _ _ _ O];exact m));(rw[c,bV];decide);(rw[c,CP (l:=bJ.toList) (by rw[DM,bV];decide)];simp);intro s g;have Q:s.rangeAt r.heap.size 0 cs:=by(rw[g.out];intro j v x;rw[cell_setRow_same _ _ _ _ _ _ _ (aa _ _)];simpa using x))
  |(refine CC rfl 130 (.tmp 7) rfl r.heap.size 0 ?_ cs _ Q underlying130 rfl ?_ ?_;rfl;(rw[aV,c]))
  |(refine ae 130 (w':=s.setRow w.heap.size cs.toArray) (.tmp 4) (.tmp 26) rfl rfl ?_ ?_;(have u:s.heap[w.heap.size]?=some (.cells bJ.toList.toArray 130 (0,0)):=by(rw[g.out,DB _ _ _ _ (by omega),ai _ _ _ (by omega)];simpa using U));(have:=au (P:=prog) (o:=0) (ty:=130) (vs:=cs) u (by simp[c,bV]) f (by rw[aV,c]));(rw[show splice bJ.toList 0 cs=cs from by simp[splice,c,bV]]at this);exact this))
 simp only[Act.put,aC,aB,aE];have u:s.heap[w.heap.size]?=some (.cells bJ 130 (0,0)):=by rw[g.out,DB _ _ _ _ (by omega),ai _ _ _ (by omega)];exact U
 have y:=CA s w.heap.size bJ cs.toArray 130 (0,0) u;have R:Fr (· =A) w s:=by rw[g.out];exact(hF.alloc _).setRow _ (fun h=>by have:=hF.size;omega) _
 have S:aP s A B n a d.next:=by unfold aP;rw[g.out,DB _ _ _ _ (by have:=E.lt;omega)];exact E.alloc _
 refine CJ (v:= .agg cs.toArray) (Dd Tryz.results112 _ _ w.heap.size 130 _ (0,0) _ rfl y underlying130 rfl (by rw[aV];simp[c])) rfl ⟨by rw[G.out],?_,R.setRow _ (fun h=>by omega) _⟩;unfold aP;rw[DB _ _ _ _ (by omega)];exact S
theorem yq{w:World}{V A B n:Nat}{a:Value}{d:DP}(u:aZ w V A n)(h:aP w A B n a d)(m:d.Ok)(f:d.bad=true)(i:Nat)(x:∀W,Fr (· =A) w W→Calls prog 143 #[.int .i64 i] W fun e j=>(∃s,e= .returned (.string s)∧s.size≤100)∧Fr (fun _=>False) W j):Calls prog 112 #[.pointer (some ⟨V,0,none⟩),.int .i64 i] w fun e j=>∃g,e= .panicked [{v:= .iface 258 (.pointer (some ⟨g,0,none⟩)),recovered:=false}]∧dH j g∧aP j A B n a d.next∧Fr (· =A) w j:=by
 have o:=lt_of_heap u;have E:=l7;have p:aZ (w.alloc (.cells bJ 130)) V A n:=by unfold aZ;rw[ai _ _ _ o];exact u
 have c0:=p.c0;have y:Hid (Fr (fun _=>False) w (w.alloc (.cells bJ 130))):=(Fr.refl _ _).alloc _;go_enter func112,ntmps112;go_wp2_with (first
  |(refine bR 130 (v:= .pointer (some ⟨w.heap.size,0,none⟩)) (w':=w.alloc (.cells bJ 130)) rfl rfl ?_ ?_;exact eL w))
 refine(xh (h.alloc _) m f _).mono ?_;rintro e q ⟨rfl,k,l⟩;have c:Hid (aP q A B n a d.next∧Fr (· =A) w q):=⟨k,(y.out.mono (fun _ _ h=>h.elim)).trans l fI⟩;clear k l;unfold wG;go_wp2_with fail;refine(x q c.out.2).mono ?_;rintro e z ⟨⟨s,rfl,C⟩,r⟩;go_wp2_with fail;refine(mi _ z).mono ?_;rintro e F ⟨g,rfl,D,t⟩;have b:=r.trans t fI;exact⟨rfl,g,rfl,D,c.out.1.fr b jI,c.out.2.trans (b.mono (fun _ _ h=>h.elim)) fI⟩
section
open Go.Extern.Stop Go.Stop Go.Extern
theorem oE(p:Addr)(w:World):(Instr.typeAssert (.iface 258 (.pointer (some p))) 20 36 true).run prog w= .ok (.tuple #[.iface 258 (.pointer (some p)),.bool true]) w:=run_typeAssert_hasB underlying36 (by kernel_rfl) _ _ w
theorem uM(g:Nat)(w:World)(f:cN w):Calls prog 140 #[.iface 258 (.pointer (some ⟨g,0,none⟩))] w fun e j=>e= .returned (.iface 258 (.pointer (some ⟨g,0,none⟩)))∧Fr (fun _=>False) w j:=by have n:=oE;have c:(w.alloc (.cells #[.pointer none] 258)).heap[w.heap.size]?=some (.cells #[.pointer none] 258 (0,0)):=aa _ _;have i:=A0 g w.heap.size (.pointer none) (w.alloc (.cells #[.pointer none] 258)) (by rw[CD _ _ ⟨0,0,none⟩ (Cw w _ f.1)];exact f.1) ((Cn _ _ 0 _ _ _ c).trans rfl) (CN _ _ 0 _ _ c);have k:Hid (Fr (fun _=>False) w (w.alloc (.cells #[.pointer none] 258))):=(Fr.refl _ _).alloc _;clear c;go_enter func140,ntmps140;go_wp2_with fail;refine i.mono ?_;rintro e l ⟨rfl,m,a⟩;have d:Hid (Fr (fun _=>False) w l):=(k.out.mono (fun _ _ h=>h.elim)).trans a (fun b c e=>by omega);clear i a;go_wp2;go_ret;exact⟨rfl,d.out⟩
theorem qb(p:Addr)(c:Value)(g:Nat)(a:List PanicEntry)(w:World)(j:cN w)(d:w.cell? p=some c)(f:w.frozen? p=false):CallsD prog 139 #[.pointer (some p)] (.panicking ({v:= .iface 258 (.pointer (some ⟨g,0,none⟩)),recovered:=false}::a)) w fun e k l=>
 e= .returned (.tuple #[])∧k= .panicking ({v:= .iface 258 (.pointer (some ⟨g,0,none⟩)),recovered:=true}::a)∧∃h,Fr (fun _=>False) w h∧l=h.setCell p (.iface 258 (.pointer (some ⟨g,0,none⟩))):=by
 refine Fs func139 rfl fun c₀ cs m=>?_;apply FZ;apply F7;simp[wpOpsS,go_sem,recoverD,m,ntmps139,Exit.thenS];apply FZ;apply F7;simp[wpOpsS,go_sem,Exit.thenS];refine wpS_cond (t:=true) (by simp[Act.eval,Array.replicate]) ?_;simp only[FH];refine wpS_of_wp ?_;have e:(#[Value.pointer (some p)]++((((Array.replicate 6 undef).setIfInBounds 1 (Value.iface 258 (Value.pointer (some ⟨g,0,none⟩)))).setIfInBounds 0 (Value.iface 258 (Value.pointer (some ⟨g,0,none⟩)))).setIfInBounds 2 (Value.iface 258 (Value.pointer (some ⟨g,0,none⟩)))).setIfInBounds 3 (Value.bool true))=#[.pointer (some p),.iface 258 (.pointer (some ⟨g,0,none⟩)),.iface 258 (.pointer (some ⟨g,0,none⟩)),.iface 258 (.pointer (some ⟨g,0,none⟩)),.bool true,undef,undef]:=rfl;rw[e];go_wp2_with fail;refine(uM g w j).mono ?_;rintro e i ⟨rfl,b⟩;have n:=b.cell d jI;have o:i.frozen? p=false:=by have q:=Cw w _ d;unfold World.frozen? at f⊢;rw[b.block p.block q jI];exact f
 go_wp2;simp[bodyPostS,results,Tryz.results139];exact⟨i,b,rfl⟩
end
def eg(g:Nat):Value:= .iface 258 (.pointer (some ⟨g,0,none⟩))
theorem jX{w:World}{f:FuncId}{caps:Array Value}{Q:Value→World→Prop}(p:∀w,(callFunc f caps).run prog w= .ok (.enter f caps) w)(q:Calls prog f caps (w.alloc (.cells #[.nilIface] 36)) fun e d=>d.heap[w.heap.size]?=some (.cells #[.nilIface] 36 (0,0))∧((∃v,e= .returned v∧v.oneCell'=true∧Q v (d.setCell ⟨w.heap.size,0,none⟩ v))∨(∃g,e= .panicked [{v:= .iface 258 (.pointer (some ⟨g,0,none⟩)),recovered:=false}]∧cN d∧∀h,Fr (fun _=>False) d h→Q (eg g) (h.setCell ⟨w.heap.size,0,none⟩ (eg g))))):Calls prog 92 #[.func (.func f) #[] caps] w fun e d=>∃v,e= .returned v∧Q v d:=by
 have r:=re;go_enter_defers func92,ntmps92;go_wp2_with fail;refine q.mono ?_;rintro e b ⟨k,⟨v,rfl,s,l⟩|⟨g,rfl,u,l⟩⟩
 ·have i:b.cell? ⟨w.heap.size,0,none⟩=some .nilIface:=by rw[Cn b w.heap.size 0 _ _ _ k];rfl
  have m:=CN b w.heap.size 0 _ _ k;have n:=ah (P:=prog) (w:=b) (a:=⟨w.heap.size,0,none⟩) (t:=36) (v:=v) i m (by kernel_rfl) s;go_wp2_with (first|(refine ae 36 (w':=b.setCell ⟨w.heap.size,0,none⟩ v) _ _ rfl rfl ?_ ?_;exact n));refine Fv (f:=139) (args:=#[.pointer (some ⟨w.heap.size,0,none⟩)]) (by simp) (by simp[go_sem]) ?_;refine(uJ ⟨w.heap.size,0,none⟩ _).mono ?_;rintro e x o ⟨rfl,rfl,rfl⟩;have c:(b.setCell ⟨w.heap.size,0,none⟩ v).cell? ⟨w.heap.size,0,none⟩=some v:=Ex _ _ _ i;simp[Leaves,settle,results,Tryz.results92,go_sem,c];exact l
 ·have i:b.cell? ⟨w.heap.size,0,none⟩=some .nilIface:=by rw[Cn b w.heap.size 0 _ _ _ k];rfl
  have m:=CN b w.heap.size 0 _ _ k;refine Fv (f:=139) (args:=#[.pointer (some ⟨w.heap.size,0,none⟩)]) (by simp) (by simp[go_sem]) ?_;refine(qb ⟨w.heap.size,0,none⟩ .nilIface g [] b u i m).mono ?_;rintro e x o ⟨rfl,rfl,h,j,rfl⟩;have c:(h.setCell ⟨w.heap.size,0,none⟩ (.iface 258 (.pointer (some ⟨g,0,none⟩)))).cell? ⟨w.heap.size,0,none⟩=some (.iface 258 (.pointer (some ⟨g,0,none⟩))):=Ex _ _ _ (j.cell i jI);simp[Leaves,settle,results,Tryz.results92,go_sem,c];exact l h j
section
open Go.Extern.Stop Go.Stop Go.Extern
theorem rg(v:Value)(w:World):(ReflectliteType.typeOf #[.iface 258 v]).run prog w= .ok (.iface 198 (.agg #[.pointer (some ⟨4,258,none⟩)])) w:=by kernel_rfl
theorem ru(w:World):(ReflectliteType.relation "AssignableTo" ReflectliteType.assignableTo #[.agg #[.pointer (some ⟨4,258,none⟩)],.iface 198 (.agg #[.pointer (some ⟨4,59,none⟩)])]).run prog w= .ok (.bool false) w:=by kernel_rfl
theorem pV(p:Addr)(w:World):(Instr.typeAssert (.iface 258 (.pointer (some p))) 36 203 true).run prog w= .ok (.tuple #[.nilIface,.bool false]) w:=run_typeAssert_lacksB underlying203 (by kernel_rfl) (by kernel_rfl) _ _ w
theorem ll(p:Addr)(w:World):(Instr.typeAssert (.iface 258 (.pointer (some p))) 36 206 true).run prog w= .ok (.tuple #[.iface 258 (.pointer (some p)),.bool true]) w:=run_typeAssert_hasB underlying206 (by kernel_rfl) _ _ w
theorem lp(g f:Nat)(w:World)(h:w.cell? ⟨g,0,none⟩=some (.pointer (some ⟨f,0,none⟩))):(Go.method 410 258 (.pointer (some ⟨g,0,none⟩)) "Unwrap").run prog w= .ok (212,.pointer (some ⟨f,0,none⟩)) w:=by
 have o:(receiverAt 117 (.var ⟨g,0,none⟩) true none).run prog w= .ok (.pointer (some ⟨f,0,none⟩)) w:=by simp[receiverAt,underlying,underlying117,Place.get,loadVar,isAgg,h,Result.andThen]
 have c:(prog.info? 258).map (fun i=>(i.methods.find? (·.name== "Unwrap")).map (fun m=>(m.path.toList,m.func)))=some (some ([⟨262,0,true⟩],some (212,true))):=by kernel_rfl
 obtain⟨d,a,c⟩:=Do.1 c;obtain⟨m,e,b⟩:=Do.1 c;have p:(follow [⟨262,0,true⟩] 258 (.val (.pointer (some ⟨g,0,none⟩)))).run prog w= .ok (117,.var ⟨g,0,none⟩) w:=by kernel_rfl
 have j:(typeInfo 258).run prog w= .ok d w:=by simp[typeInfo,a]
 have n:m.path.toList=[⟨262,0,true⟩]:=Ej (·.1) b;have k:m.func=some (212,true):=Ej (·.2) b;have l:m.path.isEmpty=false:=by
  have:m.path=#[⟨262,0,true⟩]:=by rw[←Array.toArray_toList (xs:=m.path),n]
  rw[this];rfl
 unfold Go.method;simp only[D9,j,Result.andThen,e,n,p,k,l,Ev,FY,o,Du]
end
def RS.waits(r:RS)(clock:Int):Bool:=decide (r.S.1≤2∧r.due≤clock)
def RS.moves(r:RS)(reply:Int):Bool:=decide (reply=0∨(reply=2∧r.S.1=1))
def jL(a:Int):SP:=if a=1 then(4,0)else(2,a-1)
def RS.next(r:RS)(reply:Int):SP:=if r.S.1=1∧reply=0 then(if r.S.2=r.st.length then(3,0)else(1,r.S.2+1))else jL r.S.2
theorem jD(w:World)(r:RS)(clock:Int):Calls prog 130 #[.agg r.cs.toArray,.int .i64 clock] w fun e i=>e= .returned (.bool (r.waits clock))∧Fr (fun _=>False) w i:=by
 obtain⟨id,c,d,st,⟨b,f⟩,tries,due,ma,mc,may⟩:=r;have g:Fr (fun _=>False) w (w.alloc (.cells #[.int .i64 id,.slice c st.length d,.int .i64 b,.int .i64 f,.int .i64 tries,.int .i64 due,.slice ma may.length mc] 223)):=(Fr.refl _ _).alloc _;by_cases h:b≤2
 ·have a:RS.waits ⟨id,c,d,st,(b,f),tries,due,ma,mc,may⟩ clock=decide (due≤clock):=by simp[RS.waits,h]
  rw[a];unfold RS.cs;clear a;go_enter func130,ntmps130;go_wp2;go_ret;exact⟨rfl,g⟩
 ·have a:RS.waits ⟨id,c,d,st,(b,f),tries,due,ma,mc,may⟩ clock=false:=by simp[RS.waits,h]
  rw[a];unfold RS.cs;clear a;go_enter func130,ntmps130;go_wp2;go_ret;exact⟨rfl,g⟩
theorem mH(w:World)(r:RS)(reply:Int):Calls prog 158 #[.agg r.cs.toArray,.int .i64 reply] w fun e k=>e= .returned (.bool (r.moves reply))∧Fr (fun _=>False) w k:=by
 obtain⟨id,d,f,st,⟨g,h⟩,tries,due,ma,mc,may⟩:=r;have a:Fr (fun _=>False) w (w.alloc (.cells #[.int .i64 id,.slice d st.length f,.int .i64 g,.int .i64 h,.int .i64 tries,.int .i64 due,.slice ma may.length mc] 223)):=(Fr.refl _ _).alloc _;obtain⟨m,b⟩:∃m,m=RS.moves ⟨id,d,f,st,(g,h),tries,due,ma,mc,may⟩ reply:=⟨_,rfl⟩;rw[←b];unfold RS.cs;have c:=af b;clear b;by_cases i:reply=0
 ·subst i;go_enter func158,ntmps158;go_wp2;go_ret;exact⟨by rw[c.out];simp[RS.moves],a⟩
 ·by_cases j:reply=2
  ·subst j;go_enter func158,ntmps158;go_wp2;go_ret;exact⟨by rw[c.out];simp[RS.moves];rfl,a⟩
  ·go_enter func158,ntmps158;go_wp2;go_ret;exact⟨by rw[c.out];simp[RS.moves,i,j],a⟩
theorem mC(id:Int)(c:Option Addr)(d:Nat)(st:List SS)(b a tries due:Int)(ma:Option Addr)(mc:Nat)(may:List SP)(reply:Int):RS.next ⟨id,c,d,st,(b,a),tries,due,ma,mc,may⟩ reply=if((b==1)&&(reply==0))=true then(if(a==(st.length:Int))=true then(3,0)else(1,a+1))else(if(a==1)=true then(4,0)else(2,a-1)):=by simp[RS.next,jL]
theorem bN{x:Int}(h: -9223372036854775808≤x∧x<9223372036854775808):wrap64 x=x:=by unfold wrap64;omega
theorem o6(w:World)(r:RS)(reply:Int)(j:1≤r.S.2)(k:r.S.2≤6):Calls prog 159 #[.agg r.cs.toArray,.int .i64 reply] w fun e q=>e= .returned (.agg #[.int .i64 (r.next reply).1,.int .i64 (r.next reply).2])∧Fr (fun _=>False) w q:=by
 obtain⟨id,d,f,st,⟨g,c⟩,tries,due,ma,mc,may⟩:=r;have l:Fr (fun _=>False) w (w.alloc (.cells #[.int .i64 id,.slice d st.length f,.int .i64 g,.int .i64 c,.int .i64 tries,.int .i64 due,.slice ma may.length mc] 223)):=(Fr.refl _ _).alloc _;obtain⟨p,h⟩:∃p,p=RS.next ⟨id,d,f,st,(g,c),tries,due,ma,mc,may⟩ reply:=⟨_,rfl⟩;rw[←h];unfold RS.cs;have m:=af h;clear h;have i:∀(a b:Int) (tmps:Array Value),p=(a,b)→tmps.getD 4 undef= .pointer (some ⟨w.heap.size+1,0,none⟩)→(results Tryz.f159 tmps).run prog ((w.alloc (.cells #[.int .i64 id,.slice d st.length f,.int .i64 g,.int .i64 c,.int .i64 tries,.int .i64 due,.slice ma may.length mc] 223)).alloc (.cells #[.int .i64 a,.int .i64 b] 220))= .ok (.agg #[.int .i64 p.1,.int .i64 p.2]) ((w.alloc (.cells #[.int .i64 id,.slice d st.length f,.int .i64 g,.int .i64 c,.int .i64 tries,.int .i64 due,.slice ma may.length mc] 223)).alloc (.cells #[.int .i64 a,.int .i64 b] 220)):=fun a b tmps h s=>by rw[h];refine Dd Tryz.results159 tmps _ (w.heap.size+1) 220 #[.int .i64 a,.int .i64 b] (0,0) _ s ?_ underlying220 rfl (by kernel_rfl);have:=aa (w.alloc (.cells #[.int .i64 id,.slice d st.length f,.int .i64 g,.int .i64 c,.int .i64 tries,.int .i64 due,.slice ma may.length mc] 223)) (.cells #[.int .i64 a,.int .i64 b] 220);simpa using this
 have n:Hid (wrap64 (c+1)=c+1):=bN (by have:c≤6:=k;have:1≤c:=j;omega);have o:Hid (wrap64 (c-1)=c-1):=bN (by have:c≤6:=k;have:1≤c:=j;omega);go_enter func159,ntmps159;go_wp2;all_goals
  refine CJ (i _ _ _ ?_ rfl) rfl ⟨rfl,l.alloc _⟩;rw[m.out];first|rw[n.out,mC]|rw[o.out,mC]|rw[mC]
  clear i l m n o;simp only[*,Bool.and_true,Bool.and_false,Bool.false_and,Ev,ite_true,ite_false]
end Go.Proofs.YteebjgfalllbjaaGreatDoor
