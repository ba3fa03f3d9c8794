import Derived.Test.YteebjgfalllbjaaGreatDoorK25
import Derived.Maps.OwnIn
namespace Go.Proofs.YteebjgfalllbjaaGreatDoor
open Go.RowKit Go.Proofs.Tryz
set_option maxRecDepth 100000
set_option maxHeartbeats 20000000
section
open Go.Shelf
attribute [local go_sem] Oper.semAt_some
section
variable{F:Fence}{n:Nat}{P:Program}{g:Array Oper}{rest:List Oper}{op:Oper}{a:Act}{w w':World}{Q:Exit→Act→World→Prop}
theorem dX(c:op.guard=none)(ty:TypeId)(x:Operand)(e:op.op= .load ty x)(b o:Nat)(i:a.eval x= .pointer (some ⟨b,o,none⟩))(cs:List Value)(d:TypeDesc)(j:w.rangeAt b o cs)(k:P.underlying ty=some d)(l:d.isRow=true)(hi:(P.info? ty).map (·.size)=some cs.length)(h:wpListIn F n P g Q rest (a.put op.dst (.agg cs.toArray)) w):wpListIn F n P g Q (op::rest) a w:=wpListIn_plain c fun K m=>by
 refine⟨fun f p=>?_,?_⟩
 ·simp[Oper.about,e]at p
 ·rw[Oper.semAt_eq _ _ _ (by simp[e])];unfold execOp;simp only[e,i,Instr.loadAt,Instr.sureAddr,D9,Du,CS,run_loadVar_mid w b o ty cs d j k l hi];exact m _ _ h
theorem fA(t:TypeId)(x y:Operand)(b:op.op= .store t x y)(c:op.guard=none)(d:(Instr.storeAt t (a.eval x) (a.eval y)).run P w= .ok () w')(h:wpListIn F n P g Q rest (a.put op.dst undef) w'):wpListIn F n P g Q (op::rest) a w:=wpListIn_plain c fun K e=>by
 refine⟨fun f i=>?_,?_⟩
 ·simp[Oper.about,b]at i
 ·rw[Oper.semAt_eq _ _ _ (by simp[b])];simp only[execOp,b,D9,d,CS,Du];exact e _ _ h
end
def pb(d:Nat)(A B:World):Prop:=A.heap.size≤B.heap.size∧∀e,A.cell? ⟨d,0,none⟩=some e→∃h,B.cell? ⟨d,0,none⟩=some h∧(∀b,h.ownBlock=some b→e.ownBlock=some b∨A.heap.size≤b)∧∀k c t f,A.heap[k]?=some (.cells c t f)→k≠d→e.ownBlock≠some k→B.heap[k]?=A.heap[k]?
theorem pb.t{j:Nat}{A B C:World}(l:pb j A B)(p:pb j B C):pb j A C:=by
 refine⟨Ct l.1 p.1,fun s u=>?_⟩;obtain⟨v,m,q,x⟩:=l.2 s u;obtain⟨y,z,D,E⟩:=p.2 v m;refine⟨y,z,fun b m=>?_,fun k c t f o d i=>?_⟩
 ·rcases D b m with h|h
  ·exact q b h
  ·exact .inr (Ct l.1 h)
 ·have r:=x k c t f o d i;refine(E k c t f (r.trans o) d (fun e=>?_)).trans r;rcases q k e with h|h
  ·exact i h
  ·have:=lt_of_heap o;omega
theorem pb.b{p:Nat}(W:World)(l:Nat)(o i:Obj)(d:W.heap[l]?=some o)(j:o.isCells=false):pb p W (W.putObj l i):=by
 have h:=grownBy_putObj' W l i;refine⟨h.size,fun q s=>⟨q,cell_kept s h (fun r e=>by cases e;exact⟨_,d,j⟩),fun b u=> .inl u,fun k c t f m _ _=>?_⟩⟩;refine h.block k (lt_of_heap m) (fun e=>?_);cases e
 rw[m]at d;cases d;cases j
theorem vG{w:World}{b:Nat}{c d f:List Value}{t:TypeId}(h:w.heap[b]?=some (.cells (c++(d++f)).toArray t (0,0))):w.rangeAt b c.length d:=fun j v e=>(Cn w _ (c.length+j) _ _ _ h).trans (by
 have i:=(Co.1 e).1;rw[De,CG (by omega),DJ,CI i];exact e)
theorem mM(w:World)(x:ST):∃c,(Instr.storeAt 42 (.pointer (some ⟨w.heap.size,0,none⟩)) (.agg x.cs.toArray)).run prog (w.alloc (.cells eR.cs.toArray 42))= .ok () c∧c.heap[w.heap.size]?=some (.cells x.cs.toArray 42 (0,0))∧Fr (fun _=>False) w c:=by
 have d:=aa w (.cells eR.cs.toArray 42);have b:=au (P:=prog) (o:=0) (ty:=42) (vs:=x.cs) d (by rw[ST.len,ST.len];omega) x.one bx;have e:splice eR.cs 0 x.cs=x.cs:=by unfold splice;rw[ST.len];simp[ST.len]
 rw[e]at b;exact⟨_,b,CA _ _ _ _ _ _ d,Fr.setRow (S:=fun _=>False) ((Fr.refl _ _).alloc _) _ (fun h=>by omega) _⟩
theorem iG{w w':World}(h:Below w.heap.size w w'):Fr (fun _=>False) w w':=⟨h.os,h.tape,h.output,h.size,fun k b _=>h.block k b⟩
def ch(b:List (Nat×AS)):List ST:=b.map fun p=>p.2.told
def BI(c:List ST→World→Prop)(b:List (Nat×AS))(G d i:Nat)(wr:World):Prop:=c ((ch b).take i) wr∧wr.heap[G]?=some (.cells (tB b b.length).toArray 42 (0,0))∧∃v,wr.cell? ⟨d,0,none⟩=some v∧v.ownBlock≠some G
theorem mD{w:World}{X R b o u:Nat}{y:Int}{ev:Value}{d:List (Nat×AS)}(he:w.cell? ⟨X,1,none⟩=some (.pointer (some ⟨R,0,none⟩)))(hr:aG w R u y ev d)(hb:w.heap[b]?=some (.cells #[.pointer (some ⟨X,0,none⟩)] 32 (0,0)))(A:w.heap[o]?=some (.cells #[.slice none 0 0] 69 (0,0)))(hn:d.length≤100000)(h6:∀p∈d,p.2.st.length≤6)(n:Nat):SeqStopsK (α:=ST) Fence.wide n prog 78 #[.pointer (some ⟨b,0,none⟩)] (fun x=>#[.agg x.cs.toArray]) (pb o) (fun ys=>ys=ch d) (fun pre=>pre<+:ch d) d.length w:=by
 intro l O Jx W hB hJ a8 hY h0;have S:Fence.wide.round=none:=rfl;have f:=iG hB;have T:=hr.frz f;have U:W.cell? ⟨b,0,none⟩=some (.pointer (some ⟨X,0,none⟩)):=(Cn W b 0 _ _ _ (f.keep hb jI)).trans rfl;have q:W.cell? ⟨o,0,none⟩=some (.slice none 0 0):=(Cn W o 0 _ _ _ (f.keep A jI)).trans rfl;have c1:=f.cell he jI;have V:(ch d).length=d.length:=CR ..;refine callsIn_of_wp func78 rfl trivial ?_ S;simp only[ntmps78,Df,DA,ES,Nat.reduceAdd,Nat.reduceSub,Fw,Fx,FT,FG,Dr,En];gi_wp2_with (refine⟨trivial,(fun h=>(by cases h)),?_⟩;refine(FI.2 (kW T hn h6)).mono ?_;rintro e w2 ⟨rfl,hG,s⟩);have HI:Hid (BI O d W.heap.size o 0 w2):=⟨hJ [] W w2 none h0 (jJ s) (fun r e=>by cases e),hG,_,s.cell q jI,by simp[Value.ownBlock]⟩;gi_loopw [11] (fun c wr=>∃i:Nat,i≤d.length∧c= .int .i64 i∧Hid (BI O d W.heap.size o i wr)) (fun c _=>d.length-(intOf c).toNat);case atStart=>exact⟨0,by omega,rfl,HI⟩
 case round=>
  obtain⟨i,hi,rfl,HR⟩:=hrel;clear HI hG s c1 q U;by_cases Y:i<d.length
  ·have a7:(i:Int)<d.length:=by omega
   obtain⟨p,B⟩:∃p,d[i]?=some p:=⟨_,Cp Y⟩;obtain⟨C,k,v,N,D⟩:=HR.out;obtain⟨z,hz⟩:=A5 B;have Z:=xk d i hi;have hM:wr.rangeAt W.heap.size (i*6) p.2.told.cs:=by rw[hz]at k;rw[←Z];exact vG k
   obtain⟨E,G,H,t⟩:=mM wr p.2.told;have I:E.rangeAt wr.heap.size 0 p.2.told.cs:=fun j v N=>(Cn E _ (0+j) _ _ _ H).trans (by simpa using N);have J:=hJ _ wr E none C (jJ t) (fun r e=>by cases e);have m:=t.keep k jI;have K:=t.cell N jI;obtain⟨fn,tmps,assign,body,hy,L⟩:=hY ((ch d).take i) p.2.told E J (by rw[Cy];omega);gi_wp2_with (first|(refine dX rfl 42 (.tmp 13) rfl W.heap.size (i*6) ?_ _ _ hM underlying42 rfl ?_ ?_;rfl;exact bx)|(refine dX rfl 42 (.tmp 4) rfl wr.heap.size 0 ?_ _ _ I underlying42 rfl ?_ ?_;rfl;exact bx)|(refine fA 42 (w':=E) _ _ rfl rfl ?_ ?_;exact G));refine⟨fun h=>(by cases h),?_⟩;refine L.mono ?_;have a0:(ch d).take i++[p.2.told]=(ch d).take (i+1):=by rw[D1,ch,CK,B];rfl
   rw[a0];rintro e W3 (⟨rfl,a1,a2⟩|⟨rfl,M⟩)
   ·obtain⟨vb,a3,a4,a5⟩:=a2.2 v K;have a6:W.heap.size≠o:=by have:=lt_of_heap A;have:=f.size;omega
    have HN:Hid (BI O d W.heap.size o (i+1) W3):=⟨a1,(a5 _ _ _ _ m a6 D).trans m,vb,a3,fun e=>by
     rcases a4 _ e with h|h
     ·exact D h
     ·have:=lt_of_heap m;omega⟩
    clear I hM G H J m K hy L k N C;gi_wp2;go_roundw;case rel=>exact⟨i+1,by omega,by go_num,HN⟩
    case measure=>simp[intOf];omega
   ·gi_wp2;refine CJ (results_none rfl _ _ _) rfl ?_;exact⟨⟨_,rfl⟩,.inr ⟨_,List.take_prefix _ _,M⟩⟩
  ·obtain rfl:i=d.length:=by omega
   gi_wp2;go_end0;exact⟨⟨_,rfl⟩,.inl ⟨ch d,rfl,by have:=HR.out.1;rwa[←V,Dj]at this⟩⟩
end
section
open Go.Shelf
theorem iW{w:World}{b e size n:Nat}{v:Value}{a:List Value}(h:w.ownsRow b e size v n a):∃c d,v= .slice c n d:=by
 rcases h.2 with⟨rfl,rfl⟩|⟨g,f,i,rfl,_⟩
 ·exact⟨none,0,rfl⟩
 ·exact⟨_,_,rfl⟩
attribute [local go_sem] Oper.semAt_some
theorem Aw(W:World)(x:ST):(Instr.buildSlice 69 1 #[(0,.agg x.cs.toArray)]).run prog W= .ok (.slice (some ⟨W.heap.size,0,none⟩) 1 1) (W.alloc (.cells x.cs.toArray 42)):=by kernel_rfl
theorem ja{F:Fence}{n:Nat}{P:Program}{b:Array Oper}{rest:List Oper}{c:Oper}{a:Act}{w j:World}{v:Value}{Q:Exit→Act→World→Prop}(t:TypeId)(m:Nat)(k:Array (Nat×Operand))(d:c.op= .buildSlice t m k)(e:c.guard=none)(l:Array (Nat×Value))(g:(k.map fun(i,x)=>(i,a.eval x))=l)(o:(Instr.buildSlice t m l).run P w= .ok v j)(h:wpListIn F n P b Q rest (a.put c.dst v) j):wpListIn F n P b Q (c::rest) a w:=wpListIn_plain e fun K p=>by
 refine⟨fun f q=>?_,?_⟩
 ·simp[Oper.about,d]at q
 ·rw[Oper.semAt_eq _ _ _ (by simp[d])];simp only[execOp,d,g,D9,o,CS,Du];exact p _ _ h
theorem pb.fr{a:Nat}{A B:World}(h:Fr (fun _=>False) A B):pb a A B:=⟨h.size,fun b c=>⟨b,h.cell c jI,fun _ d=> .inl d,fun k _ _ _ e _ _=>h.block k (lt_of_heap e) jI⟩⟩
theorem KeepsOthers.fr{A B:World}(h:Fr (fun _=>False) A B):KeepsOthers A B:=⟨h.size,fun k _ a _=>(h.block k (Array.getElem?_eq_some_iff.1 a).1 jI).trans a⟩
theorem nC{β:Type}(B:Nat)(c:Array Value)(t:TypeId):Own (fun(_:β) W=>W.heap[B]?=some (.cells c t (0,0))):=fun _ X Y f b g a=>by refine(g.block B (lt_of_heap b) (fun e=>?_)).trans b;obtain⟨o,d,h⟩:=a B e.symm;rw[b]at d;cases d;cases h
theorem pb.app{i:Nat}{W m:World}{t:TypeId}{v d:Value}{g:Obj}(s:Boxed W i t v)(a:(W.alloc g).grownBy m v.ownBlock)(n:Boxed (m.setCell ⟨i,0,none⟩ d) i t d)(o:d.ownBlock=v.ownBlock∨d.ownBlock=some (W.alloc g).heap.size):pb i W (m.setCell ⟨i,0,none⟩ d):=by
 have x:=a.size;have j:=grownBy_setCell' m i d;have y:=j.size;have z:(W.alloc g).heap.size=W.heap.size+1:=by simp
 refine⟨by omega,fun u w=>⟨d,n.cell,fun b p=>?_,fun k c t f A q l=>?_⟩⟩
 ·have e:u=v:=by have:=w.symm.trans s.cell;cases this;rfl
  rw[e];rcases o with h|h
  ·exact .inl (h▸p)
  ·rw[h]at p;cases p;exact .inr (by omega)
 ·have e:u=v:=by have:=w.symm.trans s.cell;cases this;rfl
  have r:=lt_of_heap A;rw[e]at l;rw[j.block k (by omega) (fun e=>q (by cases e;rfl)),a.block k (by omega) (fun e=>l e.symm),ai _ _ _ r]
theorem zA{w:World}{X R I:Nat}{J:Int}{ev:Value}{y:List (Nat×AS)}(he:w.cell? ⟨X,1,none⟩=some (.pointer (some ⟨R,0,none⟩)))(hr:aG w R I J ev y)(hn:y.length≤100000)(h6:∀p∈y,p.2.st.length≤6)(a:Int)(ap:¬a<1):CallsIn Fence.wide 3 prog 35 #[.pointer (some ⟨X,0,none⟩),.int .i64 a] w fun e Z=>∃v,e= .returned v∧Z.ownsRow w.heap.size 42 6 v ((ch y).take a.toNat).length (((ch y).take a.toNat).map ST.cs).flatten∧Below w.heap.size w Z:=by
 have L:Fence.wide.round=none:=rfl;obtain⟨i0,a0,a1,a2,a3⟩:=Dn iK;have aq:(ch y).length=y.length:=CR ..;obtain⟨H,g⟩:=aw (((w.alloc (.cells #[.int .i64 a] 3)).alloc (.cells #[.slice none 0 0] 69)).alloc (.cells #[.pointer (some ⟨X,0,none⟩)] 32));have ar:H.heap.size=w.heap.size+3:=by rw[g.out];simp
 have C:Below w.heap.size w H:=by rw[g.out];exact(((EX _ w).alloc (Cs _) _).alloc (by simp) _).alloc (by simp;omega) _
 have hX:H.heap[w.heap.size+2]?=some (.cells #[.pointer (some ⟨X,0,none⟩)] 32 (0,0)):=by rw[g.out];have:=aa (((w.alloc (.cells #[.int .i64 a] 3)).alloc (.cells #[.slice none 0 0] 69))) (.cells #[.pointer (some ⟨X,0,none⟩)] 32);simpa using this
 have hO:H.heap[w.heap.size+1]?=some (.cells #[.slice none 0 0] 69 (0,0)):=by rw[g.out,ai _ _ _ (by simp)];have:=aa (w.alloc (.cells #[.int .i64 a] 3)) (.cells #[.slice none 0 0] 69);simpa using this
 have a4:H.heap[w.heap.size]?=some (.cells #[.int .i64 a] 3 (0,0)):=by rw[g.out,ai _ _ _ (by simp;omega),ai _ _ _ (by simp)];exact aa w (.cells #[.int .i64 a] 3)
 have a5:=(C.cell (Cw w _ he)).trans he;have a6:=hr.frz (iG C);refine callsIn_of_wp_marks func35 rfl trivial ?_ L;simp only[ntmps35,Df,DA,ES,Nat.reduceAdd,Nat.reduceSub,Fw,Fx,FT,FG,Dr,En];gi_wp2_with (refine⟨trivial,?_⟩;gi_at_call 48;refine(FI.2 (tK _ _)).mono ?_;rintro e Z ⟨rfl,rfl⟩);rw[←g.out];clear g;have M:OwnFrom H.heap.size (fun(pre:List ST) W=>(∃v,Boxed W (w.heap.size+1) 69 v∧W.ownsRow w.heap.size 42 6 v pre.length (pre.map ST.cs).flatten∧pre.length≤a.toNat)∧(Boxed W w.heap.size 3 (.int .i64 a)∧Below w.heap.size w W)):=OwnFrom.and (Own.from (holdsRow_own w.heap.size (w.heap.size+1) 69 42 6 (fun pre:List ST=>pre.length) (fun pre=>(pre.map ST.cs).flatten) (fun pre _=>pre.length≤a.toNat)) _) (OwnFrom.and (Own.from (boxed_own w.heap.size 3 (fun _=> .int .i64 a)) _) (ownFrom_below (Cs _) (by omega)))
 refine wpIn_rangeFunc_ownH L (by decide) (gf:=78) (lb:=#[.pointer (some ⟨w.heap.size+2,0,none⟩)]) (by first|rfl|simp[Act.eval]) trivial (enters_of func78 (by kernel_rfl) rfl) (mD a5 a6 hX hO hn h6 _) pb.t (fun W l o o' _ hl V _=>pb.b W l o o' hl V) (EX _ _) (fun _=>rfl) (fun(pre:List ST) W=>(∃v,Boxed W (w.heap.size+1) 69 v∧W.ownsRow w.heap.size 42 6 v pre.length (pre.map ST.cs).flatten∧pre.length≤a.toNat)∧(Boxed W w.heap.size 3 (.int .i64 a)∧Below w.heap.size w W)) (fun c (q:List ST) W=>(∃v,Boxed W (w.heap.size+1) 69 v∧W.ownsRow w.heap.size 42 6 v q.dropLast.length (q.dropLast.map ST.cs).flatten∧(c= .exit 0∧q.dropLast.length=a.toNat))∧Below w.heap.size w W) M (fun c=>OwnFrom.and (Own.from (holdsRow_own w.heap.size (w.heap.size+1) 69 42 6 (fun q:List ST=>q.dropLast.length) (fun q=>(q.dropLast.map ST.cs).flatten) (fun q _=>c= .exit 0∧q.dropLast.length=a.toNat)) _) (ownFrom_below (Cs _) (by omega))) ⟨⟨_,hO,CT _ _ _ _,CH _⟩,a4,C⟩ (fun x a' W=>∃Bx,w.heap.size+1<Bx∧W.heap[Bx]?=some (.cells x.cs.toArray 42 (0,0))∧a'={tmps:=#[.pointer (some ⟨X,0,none⟩),.int .i64 a,undef,.pointer (some ⟨w.heap.size,0,none⟩),.slice none 0 0,.pointer (some ⟨w.heap.size+1,0,none⟩),.pointer (some ⟨Bx,0,none⟩),.int .i64 a,.bool false,.pointer (some ⟨X,0,none⟩),.func (.func 78) #[] #[.pointer (some ⟨w.heap.size+2,0,none⟩)],.agg x.cs.toArray,undef,undef,undef,undef,undef,undef,undef,undef,undef],defers:=[]}) (fun x a' s A B a7 hs hg d=>by
  obtain⟨Bx,N,h2,h3⟩:=hs;exact⟨Bx,N,(nC (β:=Unit) Bx _ _) s A B a7 h2 hg (fun r e=>(d r e).2),h3⟩)
  ?assign ?body ?done ?stop
 case assign=>
  rintro l pre x W K hi m;obtain⟨WS,a8,a9,E⟩:=mM W x;gi_wp2_with (first|(refine fA 42 (w':=WS) _ _ rfl rfl ?_ ?_;exact a8));refine m _ _ ((KeepsOthers.fr E).from _) (pb.fr E) (M pre W WS none hi (jJ E) (fun r e=>by cases e)) ⟨W.heap.size,hi.1.choose_spec.1.lt,a9,rfl⟩
 case body=>
  rintro l pre x a' W hl al ⟨⟨v,k,d,n⟩,Y,z⟩ ⟨Bx,au,ab,rfl⟩ av;obtain⟨ao,ad,rfl⟩:=iW d;have V:=k.cell;have ax:=Y.cell;have ae:W.rangeAt Bx 0 x.cs:=fun j v k=>(Cn W Bx (0+j) _ _ _ ab).trans (by simpa using k);by_cases ay:((pre.length:Nat):Int)=a
  ·gi_wp2;exact⟨KeepsFrom.refl _ _,⟨⟨_,k,by rw[F4];exact d,rfl,by rw[F4];omega⟩,z⟩⟩
  ·obtain⟨O,h⟩:=aw (W.alloc (.cells x.cs.toArray 42));have P:=Aw W x;have Q:O.heap[W.heap.size]?=some (.cells x.cs.toArray 42 (0,0)):=by rw[h.out];exact aa _ _
   have F:∀j u,x.cs[j]?=some u→O.cell? ((⟨W.heap.size,0,none⟩:Addr).add j)=some u:=fun j u hj=>by have N:=Cn O _ (0+j) _ _ _ Q;rw[show((⟨W.heap.size,0,none⟩:Addr).add j)=⟨W.heap.size,0+j,none⟩ by(unfold Addr.add;split<;>simp_all),N];simpa using hj
   have G:O.ownsRow w.heap.size 42 6 (.slice ao pre.length ad) pre.length (pre.map ST.cs).flatten:=by rw[h.out];exact d.alloc _
   rw[←h.out]at P;have az:O.heap.size=W.heap.size+1:=by rw[h.out];simp
   have aA:=z.size;clear Q;gi_wp2_with (first|(refine dX rfl 42 (.tmp 6) rfl Bx 0 ?_ _ _ ae underlying42 rfl ?_ ?_;rfl;exact bx)|(refine ja 69 1 #[(0,.tmp 17)] rfl rfl #[(0,.agg x.cs.toArray)] ?_ P ?_;(first|kernel_rfl|(simp[Act.eval];done)))|(gi_at_builtin;refine wpListIn_append_own_at _ rfl _ _ 69 rfl w.heap.size 42 i0 (.agg eR.cs.toArray) 6 48 underlying69 a0 a1 a2 a3 rfl (by decide) _ _ _ rfl G ⟨W.heap.size,0,none⟩ 1 1 x.cs rfl x.len F x.one (by unfold maxLen;omega) (by omega) (by omega) ?_;intro v' w1 i f _ S;rw[h.out]at f S;obtain⟨g',an,rfl⟩:=ownsRow_succ i;obtain⟨T,U,af,ag,ah⟩:=k.appended (by decide) d z.size (by omega) i f;have aB:=T.cell;have aC:=T.frozen));refine⟨ag.from _,pb.app k f U S,⟨⟨_,U,by simpa using af,by simp;omega⟩,((Y.alloc _).kept f (Y.not_row (by decide) d)).other (by omega) _,z.trans ah⟩⟩
 case done=>
  rintro D ys W hD aj ⟨⟨v,k,d,n⟩,Y,z⟩ m;have V:=k.cell;subst aj;gi_wp2;refine⟨by simp,.inl ⟨_,_,rfl,run_takeDeferred m,?_⟩⟩;rw[CO n];exact⟨_,results_tmp rfl _ _ _,v,rfl,ownsRow_putObj d _ m rfl,z.trans (belowK_b (w:=w) (Cs _) W D _ _ (by omega) m rfl rfl)⟩
 case stop=>
  rintro D c pre W hD hp ⟨⟨v,k,d,rfl,n⟩,z⟩ m;have V:=k.cell;have ak:pre.dropLast=(ch y).take a.toNat:=by have N:=(List.dropLast_prefix pre).trans hp;rw[List.prefix_iff_eq_take.1 N,n]
  rw[ak]at d;gi_wp2;refine⟨by simp,.inl ⟨_,_,rfl,run_takeDeferred m,?_⟩⟩;exact⟨_,results_tmp rfl _ _ _,v,rfl,ownsRow_putObj d _ m rfl,z.trans (belowK_b (w:=w) (Cs _) W D _ _ (by omega) m rfl rfl)⟩
theorem yK{w:World}{X R y:Nat}{z:Int}{ev:Value}{i:List (Nat×AS)}(Y:w.cell? ⟨X,1,none⟩=some (.pointer (some ⟨R,0,none⟩)))(hr:aG w R y z ev i)(hn:i.length≤100000)(h6:∀p∈i,p.2.st.length≤6)(f:Int)(a1:f<1):CallsIn Fence.wide 3 prog 35 #[.pointer (some ⟨X,0,none⟩),.int .i64 f] w fun e H=>∃v,e= .returned v∧H.ownsRow w.heap.size 42 6 v ((ch i).take (0:Int).toNat).length (((ch i).take (0:Int).toNat).map ST.cs).flatten∧Below w.heap.size w H:=by
 have C:Fence.wide.round=none:=rfl;obtain⟨i0,a2,a3,a4,a5⟩:=Dn iK;have a6:(ch i).length=i.length:=CR ..;obtain⟨u,d⟩:=aw (((w.alloc (.cells #[.int .i64 0] 3)).alloc (.cells #[.slice none 0 0] 69)).alloc (.cells #[.pointer (some ⟨X,0,none⟩)] 32));have a7:u.heap.size=w.heap.size+3:=by rw[d.out];simp
 have m:Below w.heap.size w u:=by rw[d.out];exact(((EX _ w).alloc (Cs _) _).alloc (by simp) _).alloc (by simp;omega) _
 have hX:u.heap[w.heap.size+2]?=some (.cells #[.pointer (some ⟨X,0,none⟩)] 32 (0,0)):=by rw[d.out];have:=aa (((w.alloc (.cells #[.int .i64 0] 3)).alloc (.cells #[.slice none 0 0] 69))) (.cells #[.pointer (some ⟨X,0,none⟩)] 32);simpa using this
 have Z:u.heap[w.heap.size+1]?=some (.cells #[.slice none 0 0] 69 (0,0)):=by rw[d.out,ai _ _ _ (by simp)];have:=aa (w.alloc (.cells #[.int .i64 0] 3)) (.cells #[.slice none 0 0] 69);simpa using this
 have I:u.heap[w.heap.size]?=some (.cells #[.int .i64 0] 3 (0,0)):=by rw[d.out,ai _ _ _ (by simp;omega),ai _ _ _ (by simp)];exact aa w (.cells #[.int .i64 0] 3)
 have J:=(m.cell (Cw w _ Y)).trans Y;have L:=hr.frz (iG m);refine callsIn_of_wp_marks func35 rfl trivial ?_ C;simp only[ntmps35,Df,DA,ES,Nat.reduceAdd,Nat.reduceSub,Fw,Fx,FT,FG,Dr,En];gi_wp2_with (refine⟨trivial,?_⟩;gi_at_call 48;refine(FI.2 (tK _ _)).mono ?_;rintro e H ⟨rfl,rfl⟩);rw[←d.out];clear d;have E:OwnFrom u.heap.size (fun(pre:List ST) W=>(∃v,Boxed W (w.heap.size+1) 69 v∧W.ownsRow w.heap.size 42 6 v pre.length (pre.map ST.cs).flatten∧pre.length≤(0:Int).toNat)∧(Boxed W w.heap.size 3 (.int .i64 0)∧Below w.heap.size w W)):=OwnFrom.and (Own.from (holdsRow_own w.heap.size (w.heap.size+1) 69 42 6 (fun pre:List ST=>pre.length) (fun pre=>(pre.map ST.cs).flatten) (fun pre _=>pre.length≤(0:Int).toNat)) _) (OwnFrom.and (Own.from (boxed_own w.heap.size 3 (fun _=> .int .i64 0)) _) (ownFrom_below (Cs _) (by omega)))
 refine wpIn_rangeFunc_ownH C (by decide) (gf:=78) (lb:=#[.pointer (some ⟨w.heap.size+2,0,none⟩)]) (by first|rfl|simp[Act.eval]) trivial (enters_of func78 (by kernel_rfl) rfl) (mD J L hX Z hn h6 _) pb.t (fun W l o o' _ hl G _=>pb.b W l o o' hl G) (EX _ _) (fun _=>rfl) (fun(pre:List ST) W=>(∃v,Boxed W (w.heap.size+1) 69 v∧W.ownsRow w.heap.size 42 6 v pre.length (pre.map ST.cs).flatten∧pre.length≤(0:Int).toNat)∧(Boxed W w.heap.size 3 (.int .i64 0)∧Below w.heap.size w W)) (fun c (q:List ST) W=>(∃v,Boxed W (w.heap.size+1) 69 v∧W.ownsRow w.heap.size 42 6 v q.dropLast.length (q.dropLast.map ST.cs).flatten∧(c= .exit 0∧q.dropLast.length=(0:Int).toNat))∧Below w.heap.size w W) E (fun c=>OwnFrom.and (Own.from (holdsRow_own w.heap.size (w.heap.size+1) 69 42 6 (fun q:List ST=>q.dropLast.length) (fun q=>(q.dropLast.map ST.cs).flatten) (fun q _=>c= .exit 0∧q.dropLast.length=(0:Int).toNat)) _) (ownFrom_below (Cs _) (by omega))) ⟨⟨_,Z,CT _ _ _ _,CH _⟩,I,m⟩ (fun x M W=>∃Bx,w.heap.size+1<Bx∧W.heap[Bx]?=some (.cells x.cs.toArray 42 (0,0))∧M={tmps:=#[.pointer (some ⟨X,0,none⟩),.int .i64 f,undef,.pointer (some ⟨w.heap.size,0,none⟩),.slice none 0 0,.pointer (some ⟨w.heap.size+1,0,none⟩),.pointer (some ⟨Bx,0,none⟩),.int .i64 f,.bool true,.pointer (some ⟨X,0,none⟩),.func (.func 78) #[] #[.pointer (some ⟨w.heap.size+2,0,none⟩)],.agg x.cs.toArray,undef,undef,undef,undef,undef,undef,undef,undef,undef],defers:=[]}) (fun x M s A B N hs hg a=>by
  obtain⟨Bx,O,h2,h3⟩:=hs;exact⟨Bx,O,(nC (β:=Unit) Bx _ _) s A B N h2 hg (fun r e=>(a r e).2),h3⟩)
  ?assign ?body ?done ?stop
 case assign=>
  rintro l pre x W K hi h;obtain⟨WS,P,Q,n⟩:=mM W x;gi_wp2_with (first|(refine fA 42 (w':=WS) _ _ rfl rfl ?_ ?_;exact P));refine h _ _ ((KeepsOthers.fr n).from _) (pb.fr n) (E pre W WS none hi (jJ n) (fun r e=>by cases e)) ⟨W.heap.size,hi.1.choose_spec.1.lt,Q,rfl⟩
 case body=>
  rintro l pre x M W hl a0 ⟨⟨v,k,a,g⟩,hm,F⟩ ⟨Bx,a8,S,rfl⟩ a9;obtain⟨ao,ab,rfl⟩:=iW a;have G:=k.cell;have ad:=hm.cell;have ae:W.rangeAt Bx 0 x.cs:=fun j v k=>(Cn W Bx (0+j) _ _ _ S).trans (by simpa using k);by_cases T:((pre.length:Nat):Int)=0
  ·gi_wp2;exact⟨KeepsFrom.refl _ _,⟨⟨_,k,by rw[F4];exact a,rfl,by rw[F4];omega⟩,F⟩⟩
  ·exact absurd (show((pre.length:Nat):Int)=0 by have:pre.length≤0:=g;omega) T
 case done=>
  rintro D ys W hD U ⟨⟨v,k,a,g⟩,hm,F⟩ h;have G:=k.cell;subst U;gi_wp2;refine⟨by simp,.inl ⟨_,_,rfl,run_takeDeferred h,?_⟩⟩;rw[CO g];exact⟨_,results_tmp rfl _ _ _,v,rfl,ownsRow_putObj a _ h rfl,F.trans (belowK_b (w:=w) (Cs _) W D _ _ (by omega) h rfl rfl)⟩
 case stop=>
  rintro D c pre W hD hp ⟨⟨v,k,a,rfl,g⟩,F⟩ h;have G:=k.cell;have V:pre.dropLast=(ch i).take (0:Int).toNat:=by have O:=(List.dropLast_prefix pre).trans hp;rw[List.prefix_iff_eq_take.1 O,g]
  rw[V]at a;gi_wp2;refine⟨by simp,.inl ⟨_,_,rfl,run_takeDeferred h,?_⟩⟩;exact⟨_,results_tmp rfl _ _ _,v,rfl,ownsRow_putObj a _ h rfl,F.trans (belowK_b (w:=w) (Cs _) W D _ _ (by omega) h rfl rfl)⟩
theorem pT{w:World}{b:Nat}{t:TypeId}{m:Option Addr}{f:Nat}{L:List ST}(h:w.ownsRow b t 6 (.slice m L.length f) L.length (L.map ST.cs).flatten):aY w m 6 (L.map ST.cs):=by
 intro i cs hi;rw[CK]at hi;obtain⟨x,o,rfl⟩:=Do.1 hi;obtain⟨p,rfl⟩:=Co.1 o;rcases h.2 with⟨_,z⟩|⟨g,n,q,c,_,r,_,_,_,k⟩
 ·omega
 ·cases c
  refine⟨g,0,rfl,fun j v c=>(Cn w g (0+i*6+j) _ _ _ r).trans ?_⟩;have s:=(Co.1 c).1;have e:L=L.take i++L[i]::L.drop (i+1):=by rw[EQ,CX]
  have u:((L.take i).map ST.cs).flatten.length=i*6:=by
   have l:∀M:List ST,(M.map ST.cs).flatten.length=M.length*6:=fun M=>by
    induction M with
    |nil=>rfl
    |cons a M y=>rw[CY,Ei,Cr,y,ST.len,DA];omega
   rw[l,Cy];rw[Nat.min_eq_left (by omega)]
  have d:(L.map ST.cs).flatten[0+i*6+j]?=some v:=by
   conv=>lhs;rw[e]
   rw[CV,FE,CG (by omega),u,CY,Ei,show 0+i*6+j-i*6=j by omega,CI s];exact c
  rw[←k,DE]at d;split at d
  ·simpa using d
  ·cases d
theorem ya{w:World}{X R d:Nat}{f:Int}{ev:Value}{g:List (Nat×AS)}(k:w.cell? ⟨X,1,none⟩=some (.pointer (some ⟨R,0,none⟩)))(l:aG w R d f ev g)(m:g.length≤100000)(o:∀p∈g,p.2.st.length≤6)(a:Int):Calls prog 35 #[.pointer (some ⟨X,0,none⟩),.int .i64 a] w fun e h=>lx ((ch g).take a.toNat) w e h:=by
 by_cases q:a<1
 ·refine((FI (n:=3)).1 (yK k l m o a q)).mono ?_;rintro e h ⟨v,rfl,b,i⟩;have r:a.toNat=(0:Int).toNat:=by omega
  rw[r];obtain⟨j,c,rfl⟩:=iW b;exact⟨j,c,rfl,pT b,iG i⟩
 ·refine((FI (n:=3)).1 (zA k l m o a q)).mono ?_;rintro e h ⟨v,rfl,b,i⟩;obtain⟨j,c,rfl⟩:=iW b;exact⟨j,c,rfl,pT b,iG i⟩
theorem yJ{w:World}{X J R b:Nat}{clock pause d:Int}{g ev:Value}{f:List (Nat×AS)}(h:aX w X J R clock pause g)(j:aG w R b d ev f)(k:f.length≤100000)(l:∀p∈f,p.2.st.length≤6)(a:Int):Calls prog 35 #[.pointer (some ⟨X,0,none⟩),.int .i64 a] w fun e m=>lx ((ch f).take a.toNat) w e m:=ya (h.c (i:=1) rfl) j k l a
end
def iJ(t:TypeId):Prop:=t=91∨t=179∨t=212∨t=176∨t=136∨t=140
def FU(w:World)(F:Nat→Prop):Prop:=∀b,F b→∃c t,w.heap[b]?=some (.cells c t (0,0))∧iJ t
structure gr(n:Nat)(clock:Int)(L:List AS)(rs:List ba):Prop where
 n8:8≤n
 n4:n≤400
 ck:0≤clock
 ok:bE rs
 nd:bA rs≤n-1
 zL:L.map AS.zero=bh rs
 tr:∀a∈L,0≤a.tries∧a.tries≤clock
section
variable{n:Nat}{clock:Int}{L:List AS}{rs:List ba}
theorem gr.so(h:gr n clock L rs):L.Pairwise (fun a b=>a.id<b.id):=by have c:=(gH h.ok).so;rw[←h.zL,cT,Dv]at c;exact cT.2 c
theorem gr.mem(h:gr n clock L rs){a:AS}(b:a∈L):a.Ok clock∧aO a.id a.st=true:=by
 have f:a.zero∈bh rs:=by rw[←h.zL];exact Cx.2 ⟨a,b,rfl⟩
 have c:=(gH h.ok).ok _ f;have e:=h.tr a b;exact⟨AS.zero_ok (c.1.mono h.ck) e.1 e.2,c.2.1⟩
theorem gr.len(h:gr n clock L rs):L.length≤200∧rs.length+(L.map AS.left).sum≤n-1:=by
 have a:=gH h.ok;have e:(bh rs).length=L.length:=by rw[←h.zL,CR]
 have b:(bh rs).map AS.left=L.map AS.left:=by rw[←h.zL,Dv];rfl
 have f:=a.ln;have c:=a.lf;have g:=h.nd;have i:=h.n4;rw[b]at c;omega
theorem gr.need(h:gr n clock L rs):(L.map fun a=>2*a.st.length).sum=bA rs:=by have b:=(gH h.ok).nd;rw[←h.zL,Dv]at b;exact b
theorem gr.add(h:gr n clock L rs){id:Int}{st:List SS}(e:aO id st=true)(f:∀a∈L,a.id≠id)(i:bA rs+2*st.length≤n-1):gr n clock (dS (bS id st) L) (rs++[ba.take id.toNat st]):=by
 obtain⟨k,l,_⟩:=cZ id st e;have g:((id.toNat:Nat):Int)=id:=by omega
 refine⟨h.n8,h.n4,h.ck,dl.2 ⟨h.ok,?_⟩,by rw[dr];exact i,?_,?_⟩
 ·refine⟨by rw[g];exact e,?_⟩;intro a c;rw[←h.zL]at c;obtain⟨b,j,rfl⟩:=Cx.1 c;rw[g];exact f b j
 ·rw[uE,h.zL,dw];show dS (bS id st) (bh rs)=dS (bS ((id.toNat:Nat):Int) st) (bh rs);rw[g]
 ·intro a c;rcases cP.1 c with rfl|c
  ·exact⟨DL _,h.ck⟩
  ·exact h.tr a c
theorem gr.tick{d:Value}(P:rT d)(s0:P.σ)(pause:Int)(h:gr n clock L rs):gr n (clock+1) (aq P (clock+1) pause L s0).1 (rs++(aq P (clock+1) pause L s0).2.2.map gV):=by
 have g:=h.ck;have c:=sH P (clock+1) pause L s0 [] rs (by simpa using h.so) (fun a b=>by have:=cZ _ _ (h.mem b).2;omega) h.ok (by simpa using h.zL);have f:=mh P (clock+1) pause L s0 (fun a b=>by have:=(h.mem b).1;simpa using this) (by omega);refine⟨h.n8,h.n4,by omega,c.1,?_,by simpa using c.2,fun a b=>⟨(f.1 a b).t0,(f.1 a b).t1⟩⟩;have e:bA (rs++(aq P (clock+1) pause L s0).2.2.map gV)=bA rs:=by
  unfold bA;rw[CV,Er,Dv];have:∀l:List (Nat×Nat),(l.map (ba.need∘gV)).sum=0:=fun l=>by
   induction l with
   |nil=>rfl
   |cons m l i=>rw[CY,EK,i];rfl
  rw[this];rfl
 rw[e];exact h.nd
end
section
variable{w w':World}{s X A B n:Nat}{clock pause:Int}{d:Value}{L:List AS}{rs:List ba}{F:Nat→Prop}
def ye(L:List AS)(rs:List ba)(id:Int)(st:List SS)(n:Nat)(k:Int)(c:List AS)(b:List ba):Prop:=(aO id st=false∧k=1∧c=L∧b=rs)∨(aO id st=true∧∃a∈L,a.id=id∧(k=if a.st=st then 0 else 2)∧c=L∧b=rs)∨(aO id st=true∧(∀a∈L,a.id≠id)∧((k=0∧c=dS (bS id st) L∧b=rs++[ba.take id.toNat st])∨(k=3∧n<1+(L.map fun a=>2*a.st.length).sum+2*st.length∧c=L∧b=rs)))
end
def gp(b:Bool)(P Q:Prop):Prop:=if b=true then P else Q
theorem gp.pos{b:Bool}{P Q:Prop}(h:b=true)(a:P):gp b P Q:=by unfold gp;rw[CE h];exact a
theorem gp.neg{b:Bool}{P Q:Prop}(h:¬b=true)(a:Q):gp b P Q:=by unfold gp;rw[Cz h];exact a
theorem gp.out{b:Bool}{P Q:Prop}(h:gp b P Q):(b=true∧P)∨(¬b=true∧Q):=by
 unfold gp at h;split at h
 ·rename_i a;exact .inl ⟨a,h⟩
 ·rename_i a;exact .inr ⟨a,h⟩
structure DP.Q(d:DP):Prop where
 c0:0≤d.calls
 c1:d.calls<900000000
 w0:0≤d.writes
 w1:d.writes<900000000
 t0:0≤d.told
 t1:d.told<900000000
theorem DP.Q.ok{d:DP}(h:d.Q):d.Ok:=⟨h.c0,by have:=h.c1;omega,h.w0,by have:=h.w1;omega,h.t0,by have:=h.t1;omega⟩
theorem DP.told_next(d:DP):d.told≤d.next.told∧d.next.told≤d.told+1:=by show d.told≤(if d.bad=true then d.told+1 else d.told)∧(if d.bad=true then d.told+1 else d.told)≤d.told+1;split<;>omega
theorem DP.Q.nw{d:DP}(h:d.Q):d.next.wrote.Ok:=by
 have:=d.told_next;have:=h.c0;have:=h.c1;have:=h.w0;have:=h.w1;have:=h.t0;have:=h.t1;refine⟨?_,?_,?_,?_,?_,?_⟩
 ·show 0≤d.calls+1;omega
 ·show d.calls+1<1000000000;omega
 ·show 0≤d.writes+1;omega
 ·show d.writes+1<1000000000;omega
 ·show 0≤d.next.told;omega
 ·show d.next.told<1000000000;omega
theorem bi.not{w:World}{A B n f:Nat}{a:Value}{s:DS}(h:bi w A B n f a s){b:Nat}{c:Array Value}{t:TypeId}(g:w.heap[b]?=some (.cells c t (0,0)))(i:t≠96∧t≠97∧t≠101):¬fK A B a b:=by
 rintro(e|e|e)
 ·subst e;have:=g.symm.trans h.d;simp at this;exact i.1 this.2
 ·subst e;have:=g.symm.trans h.r.1;simp at this;exact i.2.1 this.2
 ·obtain⟨k,j⟩:=iR h.q.o e;have:=g.symm.trans j;simp at this;exact i.2.2 this.2
theorem qU{w:World}{X J V A B n e y:Nat}{a:Value}{s:DS}(hx:w.heap[X]?=some (.cells #[.pointer (some ⟨J,0,none⟩)] 87 (0,0)))(N:ed w J V e false)(hv:aZ w V A n)(h:bi w A B n y a s)(hq:s.d.Q)(a8:s.ents.length<900000)(he:e<n)(HI:li e)(hG:cN w)(a9:NG (fun b=>b=A)):Calls prog 138 #[.pointer (some ⟨X,0,none⟩)] w fun e' x=>∃j,bi x A B n y j (s.put e zB).2∧CB w a j∧aZ x V A n∧Fr (fun b=>fK A B a b∨b=J) w x∧gp (s.put e zB).1 (e'= .returned .nilIface∧ed x J V e true) (ed x J V e false∧∃g,e'=im g∧dH x g):=by
 have nJ:=h.not N (by decide);have nV:=h.not hv (by decide);have nX:=h.not hx (by decide);have aa:J≠V:=fun e=>by have:=N;rw[e]at this;have:=this.symm.trans hv;simp at this
 have ad:X≠J:=fun e=>by have:=hx;rw[e]at this;have:=this.symm.trans N;simp at this
 go_enter func138,ntmps138;go_wp2;obtain⟨W,HW⟩:=aw w.drew;have c:=eG HW;let S:World→Prop:=fun x=>x.cell? ⟨X,0,none⟩=some (.pointer (some ⟨J,0,none⟩))∧x.cell? ⟨J,0,none⟩=some (.pointer (some ⟨V,0,none⟩))∧x.cell? ⟨J,1,none⟩=some (.int .i64 e)
 have F:S W:=⟨(Cn W X 0 _ _ _ (c.keep hx jI)).trans rfl,(N.fr c id).c0,(N.fr c id).c1⟩;refine dZ S HW ?_;clear HW;refine cU 0 2 87 0 (.pointer (some ⟨J,0,none⟩)) ⟨X,0,none⟩ rfl (fun _ O=>O.1) underlying87 F ?_;refine d4 1 3 2 (.pointer (some ⟨J,0,none⟩)) rfl F ?_;refine bT 2 4 179 3 0 (.pointer (some ⟨J,0,none⟩)) rfl F ?_;refine cU 3 5 155 4 (.pointer (some ⟨V,0,none⟩)) ⟨J,0,none⟩ rfl (fun _ O=>O.2.1) underlying155 F ?_;refine cU 4 6 87 0 (.pointer (some ⟨J,0,none⟩)) ⟨X,0,none⟩ rfl (fun _ O=>O.1) underlying87 F ?_;refine d4 5 7 6 (.pointer (some ⟨J,0,none⟩)) rfl F ?_;refine bT 6 8 179 7 1 (.pointer (some ⟨J,1,none⟩)) rfl F ?_;refine cU 7 9 3 8 (.int .i64 e) ⟨J,1,none⟩ rfl (fun _ O=>O.2.2) underlying3 F ?_;simp only[Act.put,aC,aB,aE];refine eW (S:=S) (i:=8) (oi:=⟨some 10,.build 130 #[],_,_,_,none⟩) (v:= .agg zB.toArray) rfl (Or.inl ⟨rfl,fun x _=>pO rfl x⟩) F ?_;simp only[Act.put,aC,aB,aE];refine cj 9 ?_;have P:=iw (hv.fr c id) (h.frz c) hq.ok a8 e he zB ce se HI (hG.fr c ka) a9;by_cases p:(s.store e zB).1=true
 ·refine bl (o:=⟨some 11,.call {callee:= .value (.func 94),args:=#[(.tmp 5),(.tmp 9),(.tmp 10)],argTypes:=_},_,_,_,none⟩) (f:=94) (args:=#[.pointer (some ⟨V,0,none⟩),.int .i64 e,.agg zB.toArray]) rfl rfl (by kernel_rfl) ?_;refine P.mono ?_;rintro e' w1 ⟨k,q,t,l,z⟩;rw[CE p]at z;subst z;have x1:=l.keep (c.keep hx jI) nX;have j1:ed w1 J V e false:=l.keep (c.keep N jI) nJ;have v1:aZ w1 V A n:=l.keep (c.keep hv jI) nV;have r:CB w a k:=fun b p=>(t b p).imp_right (fun h=>Ct c.size h);have C:=(c.mono (fun _ _ h=>h.elim)).trans l fI;refine⟨_,rfl,?_,?_⟩
  ·exact⟨(Cn w1 X 0 _ _ _ x1).trans rfl,j1.c0,j1.c1⟩
  simp only[Act.put,aC,aB,aE];refine dn ?_;have ae:w1.cell? ⟨X,0,none⟩=some (.pointer (some ⟨J,0,none⟩)):=(Cn w1 X 0 _ _ _ x1).trans rfl;have ag:=j1.c0;have R:(s.store e zB).2=⟨s.d.next.wrote,s.ents++[(e,zB)],s.bs⟩:=by
   unfold DS.store at p⊢;split at p
   ·cases p
   ·rename_i T;rw[Cz T]
  have U:=gx v1 q (by rw[R];exact hq.nw) (by rw[R];simp);have u:s.put e zB=(s.store e zB).2.secure:=by unfold DS.put;rw[CE p]
  have a2:=q.not j1 (by decide);have a3:=q.not v1 (by decide);have a4:=q.not x1 (by decide);obtain⟨s2,ab⟩:=aw ((s.store e zB).2);rw[←ab.out]at U u;have G:=af u;have a5:=U;clear F P R U u;go_wp2_with fail;refine a5.mono ?_;rintro e' L ⟨m,H,M,D,I⟩;have x2:=D.keep x1 a4;have Y:ed L J V e false:=D.keep j1 a2;have v2:aZ L V A n:=D.keep v1 a3;have Z:CB w a m:=fun b p=>by
   rcases M b p with T|T
   ·exact r b T
   ·right;have:=C.size;omega
  have a0:Fr (fK A B a) w L:=C.trans D (fun b p h=>by
   rcases h with h|h|h
   ·exact .inl h
   ·exact .inr (.inl h)
   ·rcases r b h with T|T
    ·exact .inr (.inr T)
    ·omega)
  by_cases K:s2.secure.1=true
  ·rw[CE K]at I;subst I;have ah:L.cell? ⟨X,0,none⟩=some (.pointer (some ⟨J,0,none⟩)):=(Cn L X 0 _ _ _ x2).trans rfl;have ai:=Y.c1;have aj:=Y.c2;have ak:=Y.fz 1;have al:=Y.fz 2;have a6:=H.not Y (by decide);have jE:=Y.set2 true;have E:Fr (fun b=>b=J) L (L.setCell ⟨J,2,none⟩ (.bool true)):=Fr.set1 _ _ _ _;obtain⟨wE,a7⟩:=aw (L.setCell ⟨J,2,none⟩ (.bool true));rw[←a7.out]at jE E;have a1:(s.put e zB).1=true:=by rw[G.out];exact K
   have HF:Hid (∃j,bi wE A B n y j (s.put e zB).2∧CB w a j∧aZ wE V A n∧Fr (fun b=>fK A B a b∨b=J) w wE):=by rw[G.out];refine⟨m,H.fr E (fun b p e=>a6 (e▸p)),Z,E.keep v2 (fun e=>aa e.symm),(a0.mono (fun _ _ h=> .inl h)).trans E (fun _ _ h=> .inr h)⟩
   clear q l D H C a0 E v2 v1 x1 x2 j1 a5 Z t M r a6 a2 a3 a4;go_wp2;rw[←a7.out];go_ret;obtain⟨c',q1,q2,q3,q4⟩:=HF.out;exact⟨c',q1,q2,q3,q4,gp.pos a1 ⟨rfl,jE⟩⟩
  ·rw[Cz K]at I;obtain⟨g,rfl,ht⟩:=I;have a1:¬(s.put e zB).1=true:=by rw[G.out];exact K
   refine⟨rfl,m,by rw[G.out];exact H,Z,v2,a0.mono (fun _ _ h=> .inl h),gp.neg a1 ⟨Y,g,rfl,ht⟩⟩
 ·refine cW (o:=⟨some 11,.call {callee:= .value (.func 94),args:=#[(.tmp 5),(.tmp 9),(.tmp 10)],argTypes:=_},_,_,_,none⟩) (f:=94) (args:=#[.pointer (some ⟨V,0,none⟩),.int .i64 e,.agg zB.toArray]) rfl rfl (by kernel_rfl) ?_;refine P.mono ?_;rintro e' w1 ⟨k,q,t,l,z⟩;rw[Cz p]at z;obtain⟨g,rfl,ht⟩:=z;refine⟨_,rfl,?_⟩;have C:=(c.mono (fun _ _ h=>h.elim)).trans l fI;have u:s.put e zB=(false,(s.store e zB).2):=by unfold DS.put;rw[Cz p]
  refine⟨rfl,k,by rw[u];exact q,fun b p=>(t b p).imp_right (fun h=>Ct c.size h),l.keep (c.keep hv jI) nV,C.mono (fun _ _ h=> .inl h),gp.neg (by rw[u];simp) ⟨l.keep (c.keep N jI) nJ,g,rfl,ht⟩⟩
theorem wU{w:World}{X X2 J V A B n e y:Nat}{a:Value}{s:DS}{blk:List Value}(hx:w.heap[X]?=some (.cells #[.pointer (some ⟨J,0,none⟩)] 87 (0,0)))(O:w.heap[X2]?=some (.cells blk.toArray 130 (0,0)))(hl:blk.length=128)(a9:∀v∈blk,v.oneCell'=true)(P:ed w J V e true)(R:aZ w V A n)(h:bi w A B n y a s)(hq:s.d.Q)(aa:s.ents.length<900000)(he:e<n)(hn:n≤400)(HI:li e)(hG:cN w)(ab:NG (fun b=>b=A)):Calls prog 93 #[.pointer (some ⟨X,0,none⟩),.pointer (some ⟨X2,0,none⟩)] w fun e' t=>∃i,bi t A B n y i (s.put e blk).2∧CB w a i∧aZ t V A n∧Fr (fun b=>fK A B a b∨b=J) w t∧gp (s.put e blk).1 (e'= .returned .nilIface∧ed t J V ((e:Int)+1) true) (ed t J V e true∧∃g,e'=im g∧dH t g):=by
 have nJ:=h.not P (by decide);have nV:=h.not R (by decide);have nX:=h.not hx (by decide);have ad:=h.not O (by decide);have ae:J≠V:=fun e=>by have:=P;rw[e]at this;have:=this.symm.trans R;simp at this
 have ah:X≠J:=fun e=>by have:=hx;rw[e]at this;have:=this.symm.trans P;simp at this
 go_enter func93,ntmps93;go_wp2;obtain⟨W,HW⟩:=aw w.drew;have c:=eG HW;let S:World→Prop:=fun t=>t.cell? ⟨X,0,none⟩=some (.pointer (some ⟨J,0,none⟩))∧t.cell? ⟨J,0,none⟩=some (.pointer (some ⟨V,0,none⟩))∧t.cell? ⟨J,1,none⟩=some (.int .i64 e)∧t.heap[X2]?=some (.cells blk.toArray 130 (0,0))
 have F:S W:=⟨(Cn W X 0 _ _ _ (c.keep hx jI)).trans rfl,(P.fr c id).c0,(P.fr c id).c1,c.keep O jI⟩;refine dZ S HW ?_;clear HW;refine cU 0 3 87 0 (.pointer (some ⟨J,0,none⟩)) ⟨X,0,none⟩ rfl (fun _ G=>G.1) underlying87 F ?_;refine d4 1 4 3 (.pointer (some ⟨J,0,none⟩)) rfl F ?_;refine bT 2 5 179 4 0 (.pointer (some ⟨J,0,none⟩)) rfl F ?_;refine cU 3 6 155 5 (.pointer (some ⟨V,0,none⟩)) ⟨J,0,none⟩ rfl (fun _ G=>G.2.1) underlying155 F ?_;refine cU 4 7 87 0 (.pointer (some ⟨J,0,none⟩)) ⟨X,0,none⟩ rfl (fun _ G=>G.1) underlying87 F ?_;refine d4 5 8 7 (.pointer (some ⟨J,0,none⟩)) rfl F ?_;refine bT 6 9 179 8 1 (.pointer (some ⟨J,1,none⟩)) rfl F ?_;refine cU 7 10 3 9 (.int .i64 e) ⟨J,1,none⟩ rfl (fun _ G=>G.2.2.1) underlying3 F ?_;refine ig 8 11 130 1 (.agg blk.toArray) ⟨X2,0,none⟩ rfl (fun t G=>Dq t X2 0 130 blk _ (fun j v R=>(Cn t _ (0+j) _ _ _ G.2.2.2).trans (by simpa using R)) underlying130 rfl (by rw[aV,hl])) F ?_;simp only[Act.put,aC,aB,aE];refine cj 9 ?_;have T:=iw (R.fr c id) (h.frz c) hq.ok aa e he blk hl a9 HI (hG.fr c ka) ab;by_cases p:(s.store e blk).1=true
 ·refine bl (o:=⟨some 12,.call {callee:= .value (.func 94),args:=#[(.tmp 6),(.tmp 10),(.tmp 11)],argTypes:=_},_,_,_,none⟩) (f:=94) (args:=#[.pointer (some ⟨V,0,none⟩),.int .i64 e,.agg blk.toArray]) rfl rfl (by kernel_rfl) ?_;refine T.mono ?_;rintro e' w1 ⟨l,q,u,k,z⟩;rw[CE p]at z;subst z;have x1:=k.keep (c.keep hx jI) nX;have j1:ed w1 J V e true:=k.keep (c.keep P jI) nJ;have v1:aZ w1 V A n:=k.keep (c.keep R jI) nV;have r:CB w a l:=fun b p=>(u b p).imp_right (fun h=>Ct c.size h);have C:=(c.mono (fun _ _ h=>h.elim)).trans k fI;refine⟨_,rfl,?_,?_⟩
  ·exact⟨(Cn w1 X 0 _ _ _ x1).trans rfl,j1.c0,j1.c1,k.keep (c.keep O jI) ad⟩
  simp only[Act.put,aC,aB,aE];refine dn ?_;have ai:w1.cell? ⟨X,0,none⟩=some (.pointer (some ⟨J,0,none⟩)):=(Cn w1 X 0 _ _ _ x1).trans rfl;have aj:=j1.c0;have U:(s.store e blk).2=⟨s.d.next.wrote,s.ents++[(e,blk)],s.bs⟩:=by
   unfold DS.store at p⊢;split at p
   ·cases p
   ·rename_i Y;rw[Cz Y]
  have Z:=gx v1 q (by rw[U];exact hq.nw) (by rw[U];simp);have x:s.put e blk=(s.store e blk).2.secure:=by unfold DS.put;rw[CE p]
  have a3:=q.not j1 (by decide);have a4:=q.not v1 (by decide);have a5:=q.not x1 (by decide);obtain⟨s2,ag⟩:=aw ((s.store e blk).2);rw[←ag.out]at Z x;have H:=af x;have a6:=Z;clear F T U Z x;go_wp2_with fail;refine a6.mono ?_;rintro e' M ⟨m,I,N,D,K⟩;have x2:=D.keep x1 a5;have j2:ed M J V e true:=D.keep j1 a3;have v2:aZ M V A n:=D.keep v1 a4;have a0:CB w a m:=fun b p=>by
   rcases N b p with Y|Y
   ·exact r b Y
   ·right;have:=C.size;omega
  have a1:Fr (fK A B a) w M:=C.trans D (fun b p h=>by
   rcases h with h|h|h
   ·exact .inl h
   ·exact .inr (.inl h)
   ·rcases r b h with Y|Y
    ·exact .inr (.inr Y)
    ·omega)
  by_cases L:s2.secure.1=true
  ·rw[CE L]at K;subst K;have ak:M.cell? ⟨X,0,none⟩=some (.pointer (some ⟨J,0,none⟩)):=(Cn M X 0 _ _ _ x2).trans rfl;have al:=j2.c1;have an:=j2.c2;have ao:=j2.fz 1;have ap:=j2.fz 2;have a7:=I.not j2 (by decide);have jE:=j2.set1 ((e:Int)+1);have E:Fr (fun b=>b=J) M (M.setCell ⟨J,1,none⟩ (.int .i64 ((e:Int)+1))):=Fr.set1 _ _ _ _;obtain⟨wE,a8⟩:=aw (M.setCell ⟨J,1,none⟩ (.int .i64 ((e:Int)+1)));rw[←a8.out]at jE E;have aq:IntKind.i64.wrap ((e:Int)+1)=(e:Int)+1:=by rw[E4];omega
   have a2:(s.put e blk).1=true:=by rw[H.out];exact L
   have HF:Hid (∃i,bi wE A B n y i (s.put e blk).2∧CB w a i∧aZ wE V A n∧Fr (fun b=>fK A B a b∨b=J) w wE):=by rw[H.out];refine⟨m,I.fr E (fun b p e=>a7 (e▸p)),a0,E.keep v2 (fun e=>ae e.symm),(a1.mono (fun _ _ h=> .inl h)).trans E (fun _ _ h=> .inr h)⟩
   clear q k D I C a1 E v2 v1 x1 x2 j1 a6 a0 u N r a7 a3 a4 a5;go_wp2;rw[←a8.out];go_ret;obtain⟨c',q1,q2,q3,q4⟩:=HF.out;exact⟨c',q1,q2,q3,q4,gp.pos a2 ⟨rfl,jE⟩⟩
  ·rw[Cz L]at K;obtain⟨g,rfl,ht⟩:=K;have a2:¬(s.put e blk).1=true:=by rw[H.out];exact L
   refine⟨rfl,m,by rw[H.out];exact I,a0,v2,a1.mono (fun _ _ h=> .inl h),gp.neg a2 ⟨j2,g,rfl,ht⟩⟩
 ·refine cW (o:=⟨some 12,.call {callee:= .value (.func 94),args:=#[(.tmp 6),(.tmp 10),(.tmp 11)],argTypes:=_},_,_,_,none⟩) (f:=94) (args:=#[.pointer (some ⟨V,0,none⟩),.int .i64 e,.agg blk.toArray]) rfl rfl (by kernel_rfl) ?_;refine T.mono ?_;rintro e' w1 ⟨l,q,u,k,z⟩;rw[Cz p]at z;obtain⟨g,rfl,ht⟩:=z;refine⟨_,rfl,?_⟩;have C:=(c.mono (fun _ _ h=>h.elim)).trans k fI;have x:s.put e blk=(false,(s.store e blk).2):=by unfold DS.put;rw[Cz p]
  refine⟨rfl,l,by rw[x];exact q,fun b p=>(u b p).imp_right (fun h=>Ct c.size h),k.keep (c.keep R jI) nV,C.mono (fun _ _ h=> .inl h),gp.neg (by rw[x];simp) ⟨k.keep (c.keep P jI) nJ,g,rfl,ht⟩⟩
def DP.nx(d:DP):Nat→DP
 |0=>d
 |c+1=>(d.nx c).next
def DS.after(s:DS)(c:Nat):DS:=⟨s.d.nx c,s.ents,s.bs⟩
theorem DP.nx_calls(d:DP)(c:Nat):(d.nx c).calls=d.calls+c∧(d.nx c).writes=d.writes∧d.told≤(d.nx c).told∧(d.nx c).told≤d.told+c∧(d.nx c).off=d.off∧(d.nx c).lo=d.lo∧(d.nx c).hi=d.hi:=by
 induction c with
 |zero=>exact⟨by show d.calls=d.calls+0;omega,rfl,DL _,by show d.told≤d.told+0;omega,rfl,rfl,rfl⟩
 |succ c a=>
  obtain⟨h,b,i,j,e,f,g⟩:=a;have:=(d.nx c).told_next;refine⟨?_,b,?_,?_,e,f,g⟩
  ·show(d.nx c).calls+1=_;push_cast;omega
  ·show d.told≤(d.nx c).next.told;omega
  ·show(d.nx c).next.told≤_;push_cast;omega
theorem DP.good.after{s:DS}(h:s.d.good)(c:Nat):(s.after c).d.good:=by have:=s.d.nx_calls c;exact⟨by show(s.d.nx c).off<0;rw[this.2.2.2.2.1];exact h.1,by show(s.d.nx c).hi≤(s.d.nx c).lo;rw[this.2.2.2.2.2.1,this.2.2.2.2.2.2];exact h.2⟩
theorem DP.Q.after{s:DS}(h:s.d.Q){c:Nat}(a:c≤1000):(s.after c).d.Ok:=by
 obtain⟨b,e,f,g,_⟩:=s.d.nx_calls c;have:=h.c0;have:=h.c1;have:=h.w0;have:=h.w1;have:=h.t0;have:=h.t1;refine⟨?_,?_,?_,?_,?_,?_⟩
 ·show 0≤(s.d.nx c).calls;omega
 ·show(s.d.nx c).calls<_;omega
 ·show 0≤(s.d.nx c).writes;omega
 ·show(s.d.nx c).writes<_;omega
 ·show 0≤(s.d.nx c).told;omega
 ·show(s.d.nx c).told<_;omega
structure yx(n:Nat)(cont:List Value)(recs:List (List Value))(tl:List Value):Prop where
 len:∃m,n≤m∧cont.length=m*128
 one:∀v∈cont,v.oneCell'=true
 head:aI cont 0=bc n
 get:∀(i:Nat) (r:List Value),recs[i]?=some r→aI cont (i+1)=r
 tail:recs.length+1<n→aI cont (recs.length+1)=tl
 torn:recs.length+1<n→∃b:Nat→Nat,(∀i,i<4→tl[i*32]?=some (.int .u8 (b i)))∧gJ b=false
 zero:∀i,recs.length+1<i→i<n→aI cont i=zB
structure t8(w:World)(J V A B n base:Nat)(cache:Value)(s:DS)(i:Nat):Prop where
 v:aZ w V A n
 d:bi w A B n base cache s
 j:ed w J V ((i+1:Nat):Int) false
theorem t8.frz{w e:World}{J V A B n b i:Nat}{a:Value}{s:DS}(h:t8 w J V A B n b a s i)(c:Fr (fun _=>False) w e):t8 e J V A B n b a s i:=⟨h.v.fr c id,h.d.frz c,h.j.fr c id⟩
def BR(e:Nat→World→Prop)(f:Nat→Prop)(J V A B n d:Nat)(a:Value)(s:DS)(w:World)(i m:Nat)(wr:World):Prop:=∃c,c≤i+m∧t8 wr J V A B n d a (s.after c) i∧e i wr∧Fr (fun b=>b=A∨b=J∨f b) w wr
def Be(e:Nat→World→Prop)(f:Nat→Prop)(J V A B n d:Nat)(a:Value)(s:DS)(w:World)(i k:Nat)(wr:World):Prop:=∃c,c+1≤k∧t8 wr J V A B n d a (s.after c) i∧e i wr∧Fr (fun b=>b=A∨b=J∨f b) w wr
def C3(j:Nat→World→Prop)(i:Nat→Prop)(J V A B n f:Nat)(a:Value)(s:DS)(l m:Nat)(w:World)(e:Ending)(h:World):Prop:=(e= .returned .nilIface∧∃c,c≤m∧t8 h J V A B n f a (s.after c) l∧j l h∧Fr (fun b=>b=A∨b=J∨i b) w h)∨(∃g c,e=im g∧dH h g∧bi h A B n f a (s.after (c+1))∧(s.after c).d.bad=true∧c≤m∧Fr (fun b=>b=A∨b=J∨i b) w h)
theorem wi{w:World}{J V A B n p t1 t2:Nat}{a:Value}{s:DS}{l:List (List Value)}{tl:List Value}(RP:Nat→World→Prop)(U:Nat→Prop)(h:t8 w J V A B n p a s 0)(hq:s.d.Q)(hL:yx n (bv s.bs s.ents) l tl)(bE:8≤n)(hn:n≤400)(bF:l.length<n)(ay:∀r∈l,jN r)(hR:RP 0 w)(aZ:¬s.d.good→∀i,i<n→li i)(b0:∀W,Fr (fun b=>b=A∨b=J∨U b) w W→cN W)(aK:NG (fun b=>b=A))(hP:∀i W W',RP i W→Fr (fun b=>b=A∨b=J) W W'→RP i W')(b1:(∀b,fK A B a b→¬U b)∧¬U J∧¬U V)(hH:∀i r W,l[i]?=some r→RP i W→Fr (fun b=>b=A∨b=J∨U b) w W→Calls prog 115 #[.agg r.toArray,.pointer (some ⟨t1,0,none⟩),.pointer (some ⟨t2,0,none⟩)] W fun e w'=>e= .returned (.bool true)∧RP (i+1) w'∧Fr U W w'):Calls prog 114 #[.pointer (some ⟨J,0,none⟩),.func (.func 115) #[] #[.pointer (some ⟨t1,0,none⟩),.pointer (some ⟨t2,0,none⟩)]] w fun e w'=>C3 RP U J V A B n p a s l.length n w e w':=by
 have HI:Hid (BR RP U J V A B n p a s w 0 0 w):=⟨0,Cs _,h,hR,Fr.refl _ _⟩;have a8:=af aZ;have aL:=af b0;have a4:=af hL;have b2:=af hq;have HH:=af hH;have HP:=af hP;have HS:=af b1;have b3:=af ay;have aM:=h.v.neK h.d.d;have aN:J≠A:=fun e=>by have:=h.j;rw[e]at this;have:=this.symm.trans h.d.d;simp at this
 have bi:J≠V:=fun e=>by have:=h.j;rw[e]at this;have:=this.symm.trans h.v;simp at this
 have bj:∀b,fK A B a b→¬b=J:=fun b hb e=>h.d.not h.j (by decide) (e▸hb);have bG:=lt_of_heap h.j;have bH:=lt_of_heap h.v;have bI:=h.d.d.lt;have bm:∀b,fK A B a b→b<w.heap.size:=by
  rintro b (e|e|e)
  ·omega
  ·rw[e];exact lt_of_heap h.d.r.1
  ·exact(h.d.q.o.lt b e).2
 clear hR hH hP b1 ay h aZ b0 hL hq;go_enter func114,ntmps114;go_wp2;go_step3;go_wp2;go_step3;go_wp2;go_loopw [5] (fun _ wr=>∃i:Nat,i≤l.length∧Hid (BR RP U J V A B n p a s w i 0 wr)) (fun _ wr=>n-no wr J);case atStart=>exact⟨0,by omega,HI⟩
 case round=>
  obtain⟨i,hi,HR⟩:=hrel;obtain⟨cl,bC,C,b4,hF⟩:=HR.out;have c0:=C.j.c0;have c1:=C.j.c1;have az:no wr J=i+1:=by rw[pI C.j];simp
  have bn:Hid (n-no wr J=n-(i+1)):=by rw[az];rfl
  clear HR;go_wp2;obtain⟨W0,aO⟩:=aw wr.drew;have ap:=eG aO;have X:=C.frz ap;have a1:=HP.out i wr W0 b4 (ap.mono (fun _ _ h=>h.elim));have aq:=hF.trans ap (fun _ _ h=>h.elim);clear C b4 hF ap az c0 c1;let S:World→Prop:=fun w'=>w'.cell? ⟨J,0,none⟩=some (.pointer (some ⟨V,0,none⟩))∧w'.cell? ⟨J,1,none⟩=some (.int .i64 ((i+1:Nat):Int))
  have C:S W0:=⟨X.j.c0,X.j.c1⟩;refine dZ S aO ?_;clear aO;refine bM 0 7 0 (.pointer (some ⟨J,0,none⟩)) rfl C ?_;refine d4 1 8 7 (.pointer (some ⟨J,0,none⟩)) rfl C ?_;refine bT 2 9 179 8 1 (.pointer (some ⟨J,1,none⟩)) rfl C ?_;refine cU 3 10 3 9 (.int .i64 ((i+1:Nat):Int)) ⟨J,1,none⟩ rfl (fun _ hs=>hs.2) underlying3 C ?_;refine bM 4 11 0 (.pointer (some ⟨J,0,none⟩)) rfl C ?_;refine d4 5 12 11 (.pointer (some ⟨J,0,none⟩)) rfl C ?_;refine bT 6 13 179 12 0 (.pointer (some ⟨J,0,none⟩)) rfl C ?_;refine cU 7 14 155 13 (.pointer (some ⟨V,0,none⟩)) ⟨J,0,none⟩ rfl (fun _ hs=>hs.1) underlying155 C ?_;simp only[Act.put,aC,aB,aE];refine dN 8 15 110 #[.tmp 14] #[.pointer (some ⟨V,0,none⟩)] rfl ?_;refine(cJ X.v).mono ?_;rintro e w' ⟨rfl,rfl⟩;refine⟨_,rfl,C,?_⟩;simp only[Act.put,aC,aB,aE];refine eW (S:=S) (i:=9) (oi:=⟨some 16,.binOp .lss 3 (.tmp 10) (.tmp 15) 3,_,_,_,none⟩) (v:= .bool (decide (((i+1:Nat):Int)<(n:Int)))) rfl (Or.inl ⟨rfl,fun w' _=>xD rfl rfl rfl w'⟩) C ?_;simp only[Act.put,aC,aB,aE];refine dn ?_;clear C;by_cases Y:i+1<n
  ·have hd:decide (((i+1:Nat):Int)<(n:Int))=true:=by simp;omega
   rw[hd];clear hd;obtain⟨blk,Z⟩:∃blk,aI (bv s.bs s.ents) (i+1)=blk:=⟨_,rfl⟩;have a9:blk.length=128:=by obtain⟨m,hm,bo⟩:=a4.out.len;rw[←Z];exact iQ bo (Ea Y hm)
   have bp:∀v∈blk,v.oneCell'=true:=fun v hv=>by rw[←Z]at hv;exact a4.out.one v (D8 (CU hv))
   go_wp2;obtain⟨W1,aP⟩:=aw w'.drew;have au:=eG aP;have R:=X.frz au;have b5:=b2.out.after (c:=cl) (by omega);have aD:=HP.out i _ W1 a1 (au.mono (fun _ _ h=>h.elim));have a0:=aq.trans au (fun _ _ h=>h.elim);have C:S W1:=⟨R.j.c0,R.j.c1⟩;clear X a1 aq au;refine dZ S aP ?_;clear aP;refine bM 0 24 0 (.pointer (some ⟨J,0,none⟩)) rfl C ?_;refine d4 1 25 24 (.pointer (some ⟨J,0,none⟩)) rfl C ?_;refine bT 2 26 179 25 0 (.pointer (some ⟨J,0,none⟩)) rfl C ?_;refine cU 3 27 155 26 (.pointer (some ⟨V,0,none⟩)) ⟨J,0,none⟩ rfl (fun _ hs=>hs.1) underlying155 C ?_;refine bM 4 28 0 (.pointer (some ⟨J,0,none⟩)) rfl C ?_;refine d4 5 29 28 (.pointer (some ⟨J,0,none⟩)) rfl C ?_;refine bT 6 30 179 29 1 (.pointer (some ⟨J,1,none⟩)) rfl C ?_;refine cU 7 31 3 30 (.int .i64 ((i+1:Nat):Int)) ⟨J,1,none⟩ rfl (fun _ hs=>hs.2) underlying3 C ?_;simp only[Act.put,aC,aB,aE];refine Eh (rs:=[8,9]) (by kernel_rfl) (by simp) ?_;intro i8 b6;have b7:i8=8∨i8=9:=by simpa using b6
   clear b6;rcases b7 with rfl|rfl;case' inl=>
    have ab:=k6 R.v R.d b5 (i+1) Y (fun hg=>a8.out (fun h=>hg (h.after _)) _ Y) (aL.out _ a0) aK;rcases Ey (s.after cl).d.bad with u|u
    ·refine cW (o:=⟨some 32,.call {callee:= .value (.func 112),args:=#[.tmp 27,.tmp 31],argTypes:=_},_,_,_,none⟩) (f:=112) (args:=#[.pointer (some ⟨V,0,none⟩),.int .i64 ((i+1:Nat):Int)]) rfl rfl (by kernel_rfl) ?_;refine ab.mono ?_;rintro e w2 ⟨a5,M,T⟩;rw[CE u]at T;obtain⟨gg,rfl,ad⟩:=T;exact⟨_,rfl,rfl,.inr ⟨gg,cl,rfl,ad,a5,u,by omega,a0.trans M (fun _ _ h=> .inl h)⟩⟩
    refine bl (o:=⟨some 32,.call {callee:= .value (.func 112),args:=#[.tmp 27,.tmp 31],argTypes:=_},_,_,_,none⟩) (f:=112) (args:=#[.pointer (some ⟨V,0,none⟩),.int .i64 ((i+1:Nat):Int)]) rfl rfl (by kernel_rfl) ?_;refine ab.mono ?_;rintro e w2 ⟨a5,M,T⟩;rw[Cz (by rw[u];simp)]at T;subst T;have D:t8 w2 J V A B n p a (s.after (cl+1)) i:=⟨R.v.fr M aM,a5,R.j.fr M aN⟩;have aF:Fr (fun b=>b=A∨b=J) W1 w2:=M.mono (fun _ _ h=> .inl h);refine⟨_,rfl,⟨D.j.c0,D.j.c1⟩,?_⟩;simp only[Act.put,aC,aB,aE];have N:Fr (fun _=>False) w2 (w2.alloc (.cells zB.toArray 130)):=(Fr.refl _ _).alloc _;have H:=D.frz N;have E:(w2.alloc (.cells zB.toArray 130)).heap[w2.heap.size]?=some (.cells zB.toArray 130 (0,0)):=aa _ _;have aQ:=M.size;have a2:=aF.trans N (fun _ _ h=>h.elim);refine cj 9 ?_;refine ak (o:=⟨some 5,.alloc 130,_,_,_,none⟩) (v:= .pointer (some ⟨w2.heap.size,0,none⟩)) (w':=w2.alloc (.cells zB.toArray 130)) rfl rfl (il _ _ rfl _) ⟨⟨H.j.c0,H.j.c1⟩,?_⟩;simp only[Act.put,aC,aB,aE];clear D M aF a5 N;obtain⟨W3,b8⟩:=aw (w2.alloc (.cells zB.toArray 130));obtain⟨g,HG⟩:=aw w2.heap.size;rw[←b8.out]at H a2 E⊢;rw[←HG.out]at E aQ⊢;clear b8 HG
   case' inr=>
    have N:Fr (fun _=>False) W1 (W1.alloc (.cells zB.toArray 130)):=(Fr.refl _ _).alloc _;have D:=R.frz N;have O:(W1.alloc (.cells zB.toArray 130)).heap[W1.heap.size]?=some (.cells zB.toArray 130 (0,0)):=aa _ _;refine ak (o:=⟨some 5,.alloc 130,_,_,_,none⟩) (v:= .pointer (some ⟨W1.heap.size,0,none⟩)) (w':=W1.alloc (.cells zB.toArray 130)) rfl rfl (il _ _ rfl _) ⟨⟨D.j.c0,D.j.c1⟩,?_⟩;simp only[Act.put,aC,aB,aE];obtain⟨W2,b9⟩:=aw (W1.alloc (.cells zB.toArray 130));obtain⟨g,HG⟩:=aw W1.heap.size;rw[←b9.out]at D N O⊢;have aQ:W1.heap.size≤g:=by rw[HG.out];exact Cs _
    rw[←HG.out]at O⊢;clear b9 HG;refine cj 8 ?_;have ba:=a0.trans (N.mono (fun _ _ h=>h.elim)) fI;have ab:=k6 D.v D.d b5 (i+1) Y (fun hg=>a8.out (fun h=>hg (h.after _)) _ Y) (aL.out _ ba) aK;rcases Ey (s.after cl).d.bad with u|u
    ·refine cW (o:=⟨some 32,.call {callee:= .value (.func 112),args:=#[.tmp 27,.tmp 31],argTypes:=_},_,_,_,none⟩) (f:=112) (args:=#[.pointer (some ⟨V,0,none⟩),.int .i64 ((i+1:Nat):Int)]) rfl rfl (by kernel_rfl) ?_;refine ab.mono ?_;rintro e w2 ⟨a5,M,T⟩;rw[CE u]at T;obtain⟨gg,rfl,ad⟩:=T;exact⟨_,rfl,rfl,.inr ⟨gg,cl,rfl,ad,a5,u,by omega,ba.trans M (fun _ _ h=> .inl h)⟩⟩
    refine bl (o:=⟨some 32,.call {callee:= .value (.func 112),args:=#[.tmp 27,.tmp 31],argTypes:=_},_,_,_,none⟩) (f:=112) (args:=#[.pointer (some ⟨V,0,none⟩),.int .i64 ((i+1:Nat):Int)]) rfl rfl (by kernel_rfl) ?_;refine ab.mono ?_;rintro e W3 ⟨bb,ae,bc⟩;rw[Cz (by rw[u];simp)]at bc;subst bc;have H:t8 W3 J V A B n p a (s.after (cl+1)) i:=⟨D.v.fr ae aM,bb,D.j.fr ae aN⟩;have aG:Fr (fun b=>b=A∨b=J) W2 W3:=ae.mono (fun _ _ h=> .inl h);have a2:=(N.mono (fun _ _ h=>h.elim)).trans aG fI;have E:=ae.keep O (by have:=a0.size;omega);refine⟨_,rfl,⟨H.j.c0,H.j.c1⟩,?_⟩;simp only[Act.put,aC,aB,aE];clear D ae aG bb O N
   all_goals
    clear C R;have aR:=fY E ce a9 bp;have P:=CA W3 g _ blk.toArray 130 (0,0) E;obtain⟨W4,aS⟩:=aw (W3.setRow g blk.toArray);rw[←aS.out]at aR P;have ag:Fr (· =g) W3 W4:=by rw[aS.out];exact(Fr.refl (fun x=>x=g) _).setRow _ (fun _=>rfl) _
    have bJ:=a0.size;have a6:t8 W4 J V A B n p a (s.after (cl+1)) i:=⟨H.v.fr ag (by omega),H.d.fr ag (fun b hb e=>by have:=bm b hb;omega),H.j.fr ag (by omega)⟩;have ah:=a2.trans ag (fun b hb h=>by omega);have a3:=HP.out i _ W4 aD ah;have av:=a0.trans ah (fun b _ h=>by rcases h with h|h;exact .inl h;exact .inr (.inl h));have bD:w.heap.size≤g:=by omega
    clear aS ag a2 ah E H aD a0 aQ;refine cj 10 ?_;have ai:aI (bv (s.after cl).bs (s.after cl).ents) (i+1)=blk:=Z;rw[ai];refine aA (o:=⟨none,.store 130 (.tmp 5) (.tmp 32),_,_,_,none⟩) (w':=W4) rfl rfl (ar 130 _ _ rfl ⟨g,0,none⟩ _ rfl rfl aR) ⟨⟨a6.j.c0,a6.j.c1⟩,?_⟩;simp only[Act.put];refine dn ?_;have a7:W4.rangeAt g 0 blk:=fun j v hv=>(Cn W4 _ (0+j) _ _ _ P).trans (by simpa using hv);clear aR;by_cases bq:i<l.length
    ·obtain⟨r,hr⟩:∃r,l[i]?=some r:=⟨_,Cp bq⟩;obtain⟨rl,r1,bk,br,aT⟩:=b3.out r (Cq hr);have bt:blk=r:=by rw[←Z];exact a4.out.get i r hr
     clear Z ai;subst bt;go_wp2_with (first|(refine CC rfl 130 (.tmp 5) rfl g 0 ?_ blk _ a7 underlying130 rfl ?_ ?_;rfl;(rw[aV,a9])));refine(lS W4 blk bk br).mono ?_;rintro e w5 ⟨rfl,I⟩;have F:=a6.frz I;have y:=HP.out i _ w5 a3 (I.mono (fun _ _ h=>h.elim));have K:=av.trans I (fun _ _ h=>h.elim);have bd:w5.rangeAt g 0 blk:=fun j v hv=>I.cell (a7 j v hv) jI;have HC:=HH.out i blk w5 hr y K;rw[aT];clear a6 a3 av a7 I P y;go_wp2_with (first|(refine CC rfl 130 (.tmp 5) rfl g 0 ?_ blk _ bd underlying130 rfl ?_ ?_;rfl;(rw[aV,a9])));refine HC.mono ?_;rintro e w6 ⟨rfl,aH,aj⟩;have al:t8 w6 J V A B n p a (s.after (cl+1)) i:=⟨F.v.fr aj HS.out.2.2,F.d.fr aj HS.out.1,F.j.fr aj HS.out.2.1⟩;have be:=K.trans aj (fun _ _ h=> .inr (.inr h));have c1:=al.j.c1;have z1:=al.j.fz 1;have HN:∀v:Int,v=((i+1+1:Nat):Int)→Hid (BR RP U J V A B n p a s w (i+1) 0 (w6.setCell ⟨J,1,none⟩ (.int .i64 v)))∧no (w6.setCell ⟨J,1,none⟩ (.int .i64 v)) J=i+2:=by
      rintro v rfl;have hj:=al.j.set1 ((i+1+1:Nat):Int);have bf:Fr (fun b=>b=J) w6 (w6.setCell ⟨J,1,none⟩ (.int .i64 ((i+1+1:Nat):Int))):=Fr.set1 _ _ _ _;refine⟨⟨cl+1,by omega,⟨al.v.fr bf bi.symm,al.d.fr bf bj,hj⟩,?_,?_⟩,by rw[pI hj];omega⟩
      ·exact HP.out _ _ _ aH ((Fr.refl _ _).setCell _ (fun _=> .inr rfl) _)
      ·exact be.setCell _ (fun _=> .inr (.inl rfl)) _
     have aU:=HN ((i:Int)+1+1) (by push_cast;rfl);have bu:=aU.1;have bw:=aU.2;clear HN aU F K bd HC aH aj be;push_cast at c1;go_wp2;go_roundw;case rel=>exact⟨i+1,by omega,bu⟩
     case measure=>rw[bn.out,bw];omega
    ·obtain rfl:i=l.length:=by omega
     have bx:blk=tl:=by rw[←Z];exact a4.out.tail Y
     obtain⟨kb,bz,aT⟩:=a4.out.torn Y;clear Z ai;rw[bx]at a7 a9;go_wp2_with (first|(refine CC rfl 130 (.tmp 5) rfl g 0 ?_ tl _ a7 underlying130 rfl ?_ ?_;rfl;(rw[aV,a9])));refine(lS W4 tl kb bz).mono ?_;rintro e w5 ⟨rfl,I⟩;have F:=a6.frz I;have y:=HP.out _ _ w5 a3 (I.mono (fun _ _ h=>h.elim));have K:=av.trans I (fun _ _ h=>h.elim);rw[aT];have c1:=F.j.c1;push_cast at c1;clear a6 a3 av a7 I P;have HQ:Hid (Be RP U J V A B n p a s w l.length (l.length+2) w5):=⟨_,by omega,F,y,K⟩;clear F y K;go_wp2;go_loopw [6] (fun c wq=>∃k:Nat,l.length+2≤k∧k≤n+1∧c= .int .i64 k∧Hid (Be RP U J V A B n p a s w l.length k wq)) (fun c _=>n-(intOf c).toNat);case atStart=>exact⟨l.length+2,by omega,by omega,by push_cast;go_num,HQ⟩
     case round=>
      clear HQ;obtain⟨k,bA,bB,rfl,HQ⟩:=hrel;obtain⟨G,aW,t,z,L⟩:=HQ.out;have c0:=t.j.c0;by_cases an:k<n
      ·have aJ:(k:Int)<n:=by omega
       go_wp2_with fail;refine(cJ t.v).mono ?_;rintro e w7 ⟨rfl,rfl⟩;go_wp2_with fail;refine(k6 t.v t.d (b2.out.after (c:=G) (by omega)) k an (fun hg=>a8.out (fun h=>hg (h.after _)) _ an) (aL.out _ L) aK).mono ?_;rintro e w8 ⟨aX,ao,ax⟩;have aY:=L.trans ao (fun _ _ h=> .inl h);rcases Ey (s.after G).d.bad with u|u
       ·rw[CE u]at ax;obtain⟨gg,rfl,ad⟩:=ax;exact⟨rfl,.inr ⟨gg,G,rfl,ad,aX,u,by omega,aY⟩⟩
       rw[Cz (by rw[u];simp)]at ax;subst ax;have bg:aI (bv (s.after G).bs (s.after G).ents) k=zB:=a4.out.zero k (by omega) an;rw[bg];have HN:Hid (Be RP U J V A B n p a s w l.length (k+1) w8):=⟨G+1,by omega,⟨t.v.fr ao aM,aX,t.j.fr ao aN⟩,HP.out _ _ _ z (ao.mono (fun _ _ h=> .inl h)),aY⟩;have hq:=A6 w8;clear HQ t z L aX ao bg aY;go_wp2_with (first|(refine fw 130 #[] (v:= .agg zB.toArray) (w':=w8) rfl rfl #[] ?_ ?_ ?_;rfl;exact pK w8)|(refine cI rfl (v:= .bool false) (w':=w8) (cS rfl rfl rfl hq) ?_));go_roundw;case rel=>exact⟨k+1,by omega,by omega,by go_num,HN⟩
       case measure=>simp[intOf];omega
      ·have aJ:¬(k:Int)<n:=by omega
       go_wp2_with fail;refine(cJ t.v).mono ?_;rintro e w7 ⟨rfl,rfl⟩;clear t z L;go_wp2;try rw[Exit.noGoto_ret]
       go_ret;obtain⟨G,aW,t,z,L⟩:=HQ.out;exact .inl ⟨rfl,G,by omega,t,z,L⟩
  ·obtain rfl:i=l.length:=by omega
   have hd:decide (((l.length+1:Nat):Int)<(n:Int))=false:=by simp;omega
   rw[hd];clear hd;have F:=X;have y:=a1;have K:=aq;have c1:=F.j.c1;push_cast at c1;clear X a1 aq;obtain⟨w5,bh⟩:=aw w';rw[←bh.out]at F y K c1⊢;clear bh;have HQ:Hid (Be RP U J V A B n p a s w l.length (l.length+2) w5):=⟨_,by omega,F,y,K⟩;clear F y K;go_wp2;go_loopw [6] (fun c wq=>∃k:Nat,l.length+2≤k∧k≤n+1∧c= .int .i64 k∧Hid (Be RP U J V A B n p a s w l.length k wq)) (fun c _=>n-(intOf c).toNat);case atStart=>exact⟨l.length+2,by omega,by omega,by push_cast;go_num,HQ⟩
   case round=>
    clear HQ;obtain⟨k,bA,bB,rfl,HQ⟩:=hrel;obtain⟨G,aW,t,z,L⟩:=HQ.out;have c0:=t.j.c0;by_cases an:k<n
    ·exact absurd an (by omega)
    ·have aJ:¬(k:Int)<n:=by omega
     go_wp2_with fail;refine(cJ t.v).mono ?_;rintro e w7 ⟨rfl,rfl⟩;clear t z L;go_wp2;try rw[Exit.noGoto_ret]
     go_ret;obtain⟨G,aW,t,z,L⟩:=HQ.out;exact .inl ⟨rfl,G,by omega,t,z,L⟩
theorem move_size:(prog.info? 196).map (·.size)=some 2:=by kernel_rfl
theorem fq{w:World}{g:Nat}{cs r:List Value}{t:TypeId}(b:w.heap[g]?=some (.cells cs.toArray t (0,0)))(c:cs.length=2)(a:r.length=2)(d:∀v∈r,v.oneCell'=true):(Instr.storeAt 196 (.pointer (some ⟨g,0,none⟩)) (.agg r.toArray)).run prog w= .ok () (w.setRow g r.toArray):=by have:=au (P:=prog) (o:=0) (ty:=196) (vs:=r) b (by omega) d (by rw[move_size,a]);rwa[show splice cs 0 r=r from by simp[splice,a,c]]at this
theorem iy(id r:Int)(w:World):(Instr.build 196 #[(0,.int .i64 id),(1,.int .i64 r)]).run prog w= .ok (.agg #[.int .i64 id,.int .i64 r]) w:=by kernel_rfl
theorem l3{ρ:Operand→Value}{o:Oper}{x y:Operand}{u v z:Value}{w a:World}(b:o.op= .build 196 #[(0,x),(1,y)])(c:ρ x=u)(d:ρ y=v)(e:(Instr.build 196 #[(0,u),(1,v)]).run prog w= .ok z a):(execOp ρ o).run prog w= .ok (.value z) a:=by simp[execOp,b,c,d,e]
theorem gY(ρ:Operand→Value)(o:Oper)(a:o.op= .alloc 196)(w:World):(execOp ρ o).run prog w= .ok (.value (.pointer (some ⟨w.heap.size,0,none⟩))) (w.alloc (.cells ([.int .i64 0,.int .i64 0]:List Value).toArray 196)):=by simp only[execOp,a];kernel_rfl
theorem yy{w:World}{g:Nat}{a:List Value}{t:TypeId}(h:w.heap[g]?=some (.cells a.toArray t (0,0)))(b:a.length=124):(Instr.loadAt 182 (.pointer (some ⟨g,0,none⟩))).run prog w= .ok (.agg a.toArray) w:=Dq w g 0 182 a _ (fun j v c=>(Cn w g (0+j) _ _ _ h).trans (by simpa using c)) underlying182 rfl (by rw[dQ,b])
theorem tP{w:World}{g:Nat}{a:List Value}{t:TypeId}(h:w.heap[g]?=some (.cells a.toArray t (0,0)))(b:a.length=128):(Instr.loadAt 130 (.pointer (some ⟨g,0,none⟩))).run prog w= .ok (.agg a.toArray) w:=Dq w g 0 130 a _ (fun j v c=>(Cn w g (0+j) _ _ _ h).trans (by simpa using c)) underlying130 rfl (by rw[aV,b])
theorem uy{ρ:Operand→Value}{o:Oper}{x:Operand}{r:Nat}(a:o.op= .convert 5 3 x)(b:ρ x= .int .u8 r)(c:r≤2)(w:World):(execOp ρ o).run prog w= .ok (.value (.int .i64 r)) w:=by
 simp only[execOp,a,b];obtain h|h|h:r=0∨r=1∨r=2:=by omega
 all_goals subst h;kernel_rfl
theorem qo(w:World)(id r:Nat)(af:id≤1000)(hr:r≤2):Calls prog 154 #[.agg (mJ id r).toArray] w fun e a=>e= .returned (.tuple #[.agg #[.int .i64 id,.int .i64 r],.bool true])∧Fr (fun _=>False) w a:=by
 have E:=dM id r;have a6:∀v∈be id r [] 0,v.oneCell'=true:=dA _ _ _ _;have H:(mJ id r).length=128:=bX 3 _ E 4 (by omega);have ag:∀v∈mJ id r,v.oneCell'=true:=eF 3 _ a6 4;have a7:∀a,Calls prog 151 #[.agg #[.int .i64 id,.int .i64 r]] a fun e a8=>e= .returned (.agg (mJ id r).toArray)∧Fr (fun _=>False) a a8:=fun a=>nO a id r af hr;have HG:∀a,Calls prog 165 #[.agg (be id r [] 0).toArray] a fun e a8=>e= .returned (.int .i64 id)∧Fr (fun _=>False) a a8:=fun a=>qq a id af _;have ah:(be id r [] 0).toArray[2]?=some (.int .u8 r):=by rw[iU];rfl
 obtain⟨blk,HB⟩:=aw (mJ id r);obtain⟨bd,HD⟩:=aw (be id r [] 0);have ax:Hid (jj blk 4=bd):=by unfold Hid;rw[HB.out,HD.out];exact tY 3 _ E
 have a5:∀a,(binOp .neq 130 (.agg blk.toArray) (.agg blk.toArray)).run prog a= .ok (.bool false) a:=by intro a;rw[EW,gK 9998 blk.toArray a (by rw[HB.out];exact qH 3 _ E (mw _ _ _ _))];rfl
 rw[←HB.out]at H ag a7⊢;rw[←HD.out]at E a6 HG ah;obtain⟨W,HW⟩:=aw ((w.alloc (.cells blk.toArray 130)).alloc (.cells #[.int .i64 0,.int .i64 0] 196));have hF:Fr (fun _=>False) w W:=by rw[HW.out];exact((Fr.refl _ _).alloc _).alloc _
 have r0:W.heap[w.heap.size]?=some (.cells blk.toArray 130 (0,0)):=by rw[HW.out,ai _ _ _ (by simp)];exact aa _ _
 have r1:W.heap[w.heap.size+1]?=some (.cells #[.int .i64 0,.int .i64 0] 196 (0,0)):=by rw[HW.out];exact Di w _ _
 have X:((w.alloc (.cells blk.toArray 130)).alloc (.cells #[.int .i64 0,.int .i64 0] 196)).rangeAt w.heap.size 0 blk:=by rw[←HW.out];exact fun j v q=>(Cn W _ (0+j) _ _ _ r0).trans (by simpa using q)
 go_enter func154,ntmps154;go_wp2_with (first|(refine CC rfl 130 _ rfl w.heap.size 0 ?_ _ _ X underlying130 rfl ?_ ?_;rfl;(rw[aV,H])));rw[←HW.out];refine(nt W blk H ag).mono ?_;rintro e D ⟨rfl,Y⟩;rw[ax.out];have aj:=Y.keep r0 jI;have a9:=Y.keep r1 jI;have al:=hF.trans Y fI;clear HW X r0 r1 hF Y;have Z:=aa D (.cells Tryz.zeroCells182 182);rw[gB]at Z;have k:=iF Z (by simp) E a6;have a0:=CA (D.alloc (.cells (List.replicate 124 zv).toArray 182)) D.heap.size _ bd.toArray 182 (0,0) Z;have I:Fr (fun _=>False) D ((D.alloc (.cells (List.replicate 124 zv).toArray 182)).setRow D.heap.size bd.toArray):=Fr.setRow (S:=fun _=>False) ((Fr.refl _ _).alloc _) _ (fun h=>by omega) _;obtain⟨W3,an⟩:=aw ((D.alloc (.cells (List.replicate 124 zv).toArray 182)).setRow D.heap.size bd.toArray);rw[←an.out]at k a0 I;rw[←gB]at k;have ao:=I.keep aj jI;have a1:=I.keep a9 jI;have a2:=al.trans I fI;have aH:=lt_of_heap a9;clear an aj a9 al Z I;go_wp2_with (first|(refine ae 182 (w':=W3) _ _ rfl rfl ?_ ?_;exact k));clear k;obtain⟨U,HU⟩:=aw W3.drew;have J:=eG HU;let G:World→Prop:=fun a=>a.heap[D.heap.size]?=some (.cells bd.toArray 182 (0,0))
 have hS:G U:=J.keep a0 jI;refine dZ G HU ?_;clear HU;refine ig 0 8 182 4 (.agg bd.toArray) ⟨D.heap.size,0,none⟩ rfl (fun _ K=>yy K E) hS ?_;simp only[Act.put,aC,aB,aE];refine eW (S:=G) (i:=2) (oi:=⟨some 10,.indexAddr 182 (.tmp 4) (.const (.int .i64 2)),_,_,_,none⟩) (v:= .pointer (some ⟨D.heap.size,2,none⟩)) rfl (Or.inl ⟨rfl,fun a _=>bn 182 _ _ rfl rfl rfl (jw _ 2 (by omega) a)⟩) hS ?_;refine cU 3 11 5 10 (.int .u8 r) ⟨D.heap.size,2,none⟩ rfl (fun a K=>(Cn a _ _ _ _ _ K).trans ah) underlying5 hS ?_;simp only[Act.put,aC,aB,aE];refine eW (S:=G) (i:=4) (oi:=⟨some 12,.convert 5 3 (.tmp 11),_,_,_,none⟩) (v:= .int .i64 r) rfl (Or.inl ⟨rfl,fun a _=>uy rfl rfl hr a⟩) hS ?_;simp only[Act.put,aC,aB,aE];refine Eh (rs:=[1,6]) (by kernel_rfl) (by simp) ?_;intro iz az;have aD:iz=1∨iz=6:=by simpa using az
 rcases aD with rfl|rfl
 ·refine bl (o:=⟨some 9,.call {callee:= .value (.func 165),args:=#[(.tmp 8)],argTypes:=_},_,_,_,none⟩) (f:=165) (args:=#[.agg bd.toArray]) rfl rfl (by kernel_rfl) ?_;refine(HG U).mono ?_;rintro e x ⟨rfl,l⟩;have y:G x:=l.keep hS jI;refine⟨_,rfl,y,?_⟩;simp only[Act.put,aC,aB,aE];refine eW (S:=G) (i:=5) (oi:=⟨some 13,.build 196 #[(0,.tmp 9),(1,.tmp 12)],_,_,_,none⟩) (v:= .agg #[.int .i64 id,.int .i64 r]) rfl (Or.inl ⟨rfl,fun a _=>l3 rfl rfl rfl (iy id r a)⟩) y ?_;simp only[Act.put,aC,aB,aE];refine cj 6 ?_;have s:=aa x (.cells ([.int .i64 0,.int .i64 0]:List Value).toArray 196);have t:Fr (fun _=>False) W3 (x.alloc (.cells ([.int .i64 0,.int .i64 0]:List Value).toArray 196)):=(J.trans l fI).alloc _;have m:G (x.alloc (.cells ([.int .i64 0,.int .i64 0]:List Value).toArray 196)):=((Fr.refl (fun _=>False) x).alloc _).keep y jI;have aF:=(J.trans l fI).size;have L:D.heap.size≠x.heap.size:=by have:=lt_of_heap a0;omega
  refine ak (o:=⟨some 5,.alloc 196,_,_,_,none⟩) (v:= .pointer (some ⟨x.heap.size,0,none⟩)) (w':=x.alloc (.cells ([.int .i64 0,.int .i64 0]:List Value).toArray 196)) rfl rfl (gY _ _ rfl _) ⟨m,?_⟩;simp only[Act.put,aC,aB,aE];obtain⟨W5,ap⟩:=aw (x.alloc (.cells ([.int .i64 0,.int .i64 0]:List Value).toArray 196));rw[←ap.out]at s t m⊢;have aq:=a2.size;have au:=lt_of_heap a1;clear ap l y;generalize x.heap.size=g5 at*
  refine cj 7 ?_;have k:=fq (r:=[.int .i64 id,.int .i64 r]) s rfl rfl (by intro v q;simp at q;rcases q with rfl|rfl<;>rfl);have X:=CA W5 g5 _ ([.int .i64 id,.int .i64 r]:List Value).toArray 196 (0,0) s;have g:Fr (fun b=>b=g5) W5 (W5.setRow g5 ([.int .i64 id,.int .i64 r]:List Value).toArray):=Fr.setRow (S:=fun b=>b=g5) (Fr.refl _ _) _ (fun _=>rfl) _;obtain⟨z,M⟩:=aw (W5.setRow g5 ([.int .i64 id,.int .i64 r]:List Value).toArray);rw[←M.out]at k X g;have N:G z:=g.keep m L;refine aA (o:=⟨none,.store 196 (.tmp 5) (.tmp 13),_,_,_,none⟩) (w':=z) rfl rfl (ar 196 _ _ rfl ⟨g5,0,none⟩ _ rfl rfl k) ⟨N,?_⟩;simp only[Act.put];refine dn ?_;have HE:Hid (z.heap[g5]?=some (.cells #[.int .i64 id,.int .i64 r] 196 (0,0))∧z.heap[w.heap.size]?=some (.cells blk.toArray 130 (0,0))∧z.heap[w.heap.size+1]?=some (.cells #[.int .i64 0,.int .i64 0] 196 (0,0))∧Fr (fun _=>False) w z∧w.heap.size+1<g5):=⟨X,g.keep (t.keep ao jI) (by omega),g.keep (t.keep a1 jI) (by omega),(a2.trans t fI).trans g (fun b hb h=>by omega),by omega⟩;clear M k X g N m s;generalize g5=gm at*
  go_wp2_with fail;obtain⟨h1,h2,h3,h4,h5⟩:=HE.out;obtain⟨U3,A⟩:=aw z.drew;have c:=eG A;let S3:World→Prop:=fun a=>a.heap[gm]?=some (.cells #[.int .i64 id,.int .i64 r] 196 (0,0))∧a.heap[w.heap.size]?=some (.cells blk.toArray 130 (0,0))
  have n:S3 U3:=⟨c.keep h1 jI,c.keep h2 jI⟩;refine dZ S3 A ?_;clear A;refine ig 0 14 196 5 (.agg #[.int .i64 id,.int .i64 r]) ⟨gm,0,none⟩ rfl (fun _ K=>jR K.1) n ?_;refine ig 2 16 130 1 (.agg blk.toArray) ⟨w.heap.size,0,none⟩ rfl (fun _ K=>tP K.2 H) n ?_;simp only[Act.put,aC,aB,aE];refine dN 1 15 151 #[.tmp 14] #[.agg #[.int .i64 id,.int .i64 r]] rfl ?_;refine(a7 U3).mono ?_;rintro e F ⟨rfl,p⟩;have O:S3 F:=⟨p.keep n.1 jI,p.keep n.2 jI⟩;refine⟨_,rfl,O,?_⟩;simp only[Act.put,aC,aB,aE];refine eW (S:=S3) (i:=3) (oi:=⟨some 17,.binOp .neq 130 (.tmp 15) (.tmp 16) 130,_,_,_,none⟩) (v:= .bool false) rfl (Or.inl ⟨rfl,fun a _=>cS rfl rfl rfl (a5 a)⟩) O ?_;simp only[Act.put,aC,aB,aE];refine dn ?_;have d:=c.trans p fI;have P:=d.keep h1 jI;have B:=d.keep h3 jI;have Q:=h4.trans d fI;have aG:=jR P;have u:=fq (r:=[.int .i64 id,.int .i64 r]) B rfl rfl (by intro v q;simp at q;rcases q with rfl|rfl<;>rfl);have R:=CA F (w.heap.size+1) _ ([.int .i64 id,.int .i64 r]:List Value).toArray 196 (0,0) B;have C:Fr (fun b=>b=w.heap.size+1) F (F.setRow (w.heap.size+1) ([.int .i64 id,.int .i64 r]:List Value).toArray):=Fr.setRow (S:=fun b=>b=w.heap.size+1) (Fr.refl _ _) _ (fun _=>rfl) _;obtain⟨W9,T⟩:=aw (F.setRow (w.heap.size+1) ([.int .i64 id,.int .i64 r]:List Value).toArray);rw[←T.out]at u R C;have ab:=Q.trans C (fun b hb h=>by omega);have V:F.rangeAt gm 0 [.int .i64 id,.int .i64 r]:=fun j v q=>(Cn _ _ (0+j) _ _ _ P).trans (by simpa using q);clear T C d B Q h1 h2 h3 h4 c p HE
  go_wp2_with (first|(refine CC rfl 196 _ rfl gm 0 ?_ _ _ V underlying196 rfl ?_ ?_;rfl;exact move_size)|(refine ae 196 (w':=W9) _ _ rfl rfl ?_ ?_;exact u));refine CJ (ay Tryz.results154 _ _ (w.heap.size+1) 196 _ (0,0) _ rfl R underlying196 rfl (by rw[move_size];rfl)) rfl ⟨rfl,ab⟩
 ·have ad:=aa U (.cells ([.int .i64 0,.int .i64 0]:List Value).toArray 196);have a3:Fr (fun _=>False) U (U.alloc (.cells ([.int .i64 0,.int .i64 0]:List Value).toArray 196)):=(Fr.refl _ _).alloc _;have a4:G (U.alloc (.cells ([.int .i64 0,.int .i64 0]:List Value).toArray 196)):=a3.keep hS jI;refine ak (o:=⟨some 5,.alloc 196,_,_,_,none⟩) (v:= .pointer (some ⟨U.heap.size,0,none⟩)) (w':=U.alloc (.cells ([.int .i64 0,.int .i64 0]:List Value).toArray 196)) rfl rfl (gY _ _ rfl _) ⟨a4,?_⟩;simp only[Act.put,aC,aB,aE];obtain⟨U4,av⟩:=aw (U.alloc (.cells ([.int .i64 0,.int .i64 0]:List Value).toArray 196));rw[←av.out]at ad a3 a4⊢;clear av;refine dN 1 9 165 #[.tmp 8] #[.agg bd.toArray] rfl ?_;refine(HG U4).mono ?_;rintro e x ⟨rfl,l⟩;have m:G x:=l.keep a4 jI;have y:=m;refine⟨_,rfl,m,?_⟩;simp only[Act.put,aC,aB,aE];refine eW (S:=G) (i:=5) (oi:=⟨some 13,.build 196 #[(0,.tmp 9),(1,.tmp 12)],_,_,_,none⟩) (v:= .agg #[.int .i64 id,.int .i64 r]) rfl (Or.inl ⟨rfl,fun a _=>l3 rfl rfl rfl (iy id r a)⟩) y ?_;simp only[Act.put,aC,aB,aE];have s:=l.keep ad jI;have t:=(J.trans a3 fI).trans l fI;have aF:=J.size;have L:D.heap.size≠U.heap.size:=by have:=lt_of_heap a0;omega
  have aq:=a2.size;have au:=lt_of_heap a1;clear l ad a3 a4 y;generalize U.heap.size=g5 at*
  refine cj 7 ?_;have k:=fq (r:=[.int .i64 id,.int .i64 r]) s rfl rfl (by intro v q;simp at q;rcases q with rfl|rfl<;>rfl);have X:=CA x g5 _ ([.int .i64 id,.int .i64 r]:List Value).toArray 196 (0,0) s;have g:Fr (fun b=>b=g5) x (x.setRow g5 ([.int .i64 id,.int .i64 r]:List Value).toArray):=Fr.setRow (S:=fun b=>b=g5) (Fr.refl _ _) _ (fun _=>rfl) _;obtain⟨z,M⟩:=aw (x.setRow g5 ([.int .i64 id,.int .i64 r]:List Value).toArray);rw[←M.out]at k X g;have N:G z:=g.keep m L;refine aA (o:=⟨none,.store 196 (.tmp 5) (.tmp 13),_,_,_,none⟩) (w':=z) rfl rfl (ar 196 _ _ rfl ⟨g5,0,none⟩ _ rfl rfl k) ⟨N,?_⟩;simp only[Act.put];refine dn ?_;have HE:Hid (z.heap[g5]?=some (.cells #[.int .i64 id,.int .i64 r] 196 (0,0))∧z.heap[w.heap.size]?=some (.cells blk.toArray 130 (0,0))∧z.heap[w.heap.size+1]?=some (.cells #[.int .i64 0,.int .i64 0] 196 (0,0))∧Fr (fun _=>False) w z∧w.heap.size+1<g5):=⟨X,g.keep (t.keep ao jI) (by omega),g.keep (t.keep a1 jI) (by omega),(a2.trans t fI).trans g (fun b hb h=>by omega),by omega⟩;clear M k X g N m s;generalize g5=gm at*
  go_wp2_with fail;obtain⟨h1,h2,h3,h4,h5⟩:=HE.out;obtain⟨U3,A⟩:=aw z.drew;have c:=eG A;let S3:World→Prop:=fun a=>a.heap[gm]?=some (.cells #[.int .i64 id,.int .i64 r] 196 (0,0))∧a.heap[w.heap.size]?=some (.cells blk.toArray 130 (0,0))
  have n:S3 U3:=⟨c.keep h1 jI,c.keep h2 jI⟩;refine dZ S3 A ?_;clear A;refine ig 0 14 196 5 (.agg #[.int .i64 id,.int .i64 r]) ⟨gm,0,none⟩ rfl (fun _ K=>jR K.1) n ?_;refine ig 2 16 130 1 (.agg blk.toArray) ⟨w.heap.size,0,none⟩ rfl (fun _ K=>tP K.2 H) n ?_;simp only[Act.put,aC,aB,aE];refine dN 1 15 151 #[.tmp 14] #[.agg #[.int .i64 id,.int .i64 r]] rfl ?_;refine(a7 U3).mono ?_;rintro e F ⟨rfl,p⟩;have O:S3 F:=⟨p.keep n.1 jI,p.keep n.2 jI⟩;refine⟨_,rfl,O,?_⟩;simp only[Act.put,aC,aB,aE];refine eW (S:=S3) (i:=3) (oi:=⟨some 17,.binOp .neq 130 (.tmp 15) (.tmp 16) 130,_,_,_,none⟩) (v:= .bool false) rfl (Or.inl ⟨rfl,fun a _=>cS rfl rfl rfl (a5 a)⟩) O ?_;simp only[Act.put,aC,aB,aE];refine dn ?_;have d:=c.trans p fI;have P:=d.keep h1 jI;have B:=d.keep h3 jI;have Q:=h4.trans d fI;have aG:=jR P;have u:=fq (r:=[.int .i64 id,.int .i64 r]) B rfl rfl (by intro v q;simp at q;rcases q with rfl|rfl<;>rfl);have R:=CA F (w.heap.size+1) _ ([.int .i64 id,.int .i64 r]:List Value).toArray 196 (0,0) B;have C:Fr (fun b=>b=w.heap.size+1) F (F.setRow (w.heap.size+1) ([.int .i64 id,.int .i64 r]:List Value).toArray):=Fr.setRow (S:=fun b=>b=w.heap.size+1) (Fr.refl _ _) _ (fun _=>rfl) _;obtain⟨W9,T⟩:=aw (F.setRow (w.heap.size+1) ([.int .i64 id,.int .i64 r]:List Value).toArray);rw[←T.out]at u R C;have ab:=Q.trans C (fun b hb h=>by omega);have V:F.rangeAt gm 0 [.int .i64 id,.int .i64 r]:=fun j v q=>(Cn _ _ (0+j) _ _ _ P).trans (by simpa using q);clear T C d B Q h1 h2 h3 h4 c p HE
  go_wp2_with (first|(refine CC rfl 196 _ rfl gm 0 ?_ _ _ V underlying196 rfl ?_ ?_;rfl;exact move_size)|(refine ae 196 (w':=W9) _ _ rfl rfl ?_ ?_;exact u));refine CJ (ay Tryz.results154 _ _ (w.heap.size+1) 196 _ (0,0) _ rfl R underlying196 rfl (by rw[move_size];rfl)) rfl ⟨rfl,ab⟩
end Go.Proofs.YteebjgfalllbjaaGreatDoor
