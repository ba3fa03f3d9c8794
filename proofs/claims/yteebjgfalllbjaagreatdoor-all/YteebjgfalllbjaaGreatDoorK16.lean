import Derived.Test.YteebjgfalllbjaaGreatDoorK15
import Derived.Shelf.Spec.SlicesInsert
import Derived.Lib.AppendZerosOnto
namespace Go.Proofs.YteebjgfalllbjaaGreatDoor
open Go.RowKit Go.Proofs.Tryz
set_option maxRecDepth 100000
set_option maxHeartbeats 2000000
section
open Go.Lib
theorem kX:(prog.info? 136).map (fun i=>(i.zero,i.size,i.bytes))=some (some (.pointer none),1,8):=by kernel_rfl
theorem nH{w:World}{base n:Nat}{t:TypeId}{v:Value}{xs:List Value}(h:w.ownsRow base t 1 v n xs):∃c b,v= .slice c n b∧n≤b∧b≤maxLen:=by
 rcases h.2 with⟨rfl,rfl⟩|⟨g,b,d,rfl,_,_,e,f,_⟩
 ·exact⟨none,0,rfl,Cs _,by unfold maxLen;omega⟩
 ·exact⟨_,_,rfl,e,f⟩
section
variable{w:World}{base n a:Nat}{ev p:Value}{xs:List Value}
theorem sk(s:w.ownsRow base 136 1 ev n xs)(H:w.cell? ⟨a,0,none⟩=some p)(I:p.oneCell'=true)(S:n≤100000)(J:base≤w.heap.size):∃l m,(Builtin.append_ #[174,174] 174 #[ev,.slice (some ⟨a,0,none⟩) 1 1]).run prog w= .ok l m∧m.ownsRow base 136 1 l (n+1) (xs++[p])∧w.grownBy m ev.ownBlock∧(∀b,l.ownBlock=some b→ev.ownBlock=some b∨w.heap.size≤b):=by
 obtain⟨A,hi,o,d,q⟩:=Dn kX;have c:∀j u,[p][j]?=some u→w.cell? ((⟨a,0,none⟩:Addr).add j)=some u:=by
  intro j u B;match j,B with
  |0,B=>simp at B;subst B;exact H
 have f:∀u∈[p],u.oneCell'=true:=by simpa using I
 rcases s.2 with⟨rfl,rfl⟩|⟨g,k,r,rfl,K,L,C,M,D,N⟩
 ·have O:=List.length_eq_zero_iff.1 (by have:=s.1;omega);subst O;obtain⟨l,m,t,x,E,_⟩:=run_append_own (P:=prog) w w.heap.size 174 174 136 A (.pointer none) 1 8 underlying174 hi o d q rfl (by decide) (.slice none 0 0) 0 [] (CT _ _ _ _) ⟨a,0,none⟩ 1 1 [p] rfl c f (by unfold maxLen;omega) (by omega) (Cs _);refine⟨l,m,t,⟨x.1,?_⟩,E,fun b i=> .inr (x.lt b i).1⟩;rcases x.2 with h|⟨g,k,r,y,G,Q⟩
  ·exact .inl h
  ·exact .inr ⟨g,k,r,y,by omega,Q⟩
 ·obtain⟨l,m,t,x,E,_⟩:=run_append_own (P:=prog) w base 174 174 136 A (.pointer none) 1 8 underlying174 hi o d q rfl (by decide) (.slice (some ⟨g,0,none⟩) n k) n xs s ⟨a,0,none⟩ 1 1 [p] rfl c f (by unfold maxLen;omega) (by omega) J;refine⟨l,m,t,x,E,?_⟩;rcases FO C with R|rfl
  ·have F:=run_append_room (P:=prog) w 174 174 136 A underlying174 hi g n k r L ⟨a,0,none⟩ 1 1 [p] (by rw[d];rfl) c f (by omega) (by rw[d,D];simp;omega);have e:=t.symm.trans F;injection e with y G;subst y;intro b i;exact .inl i
  ·have z:∀j v,xs[j]?=some v→w.cell? ((⟨g,0,none⟩:Addr).add j)=some v:=s.cells rfl;have F:=run_append_grow (P:=prog) w 174 174 136 A (.pointer none) underlying174 hi o ⟨g,0,none⟩ n n xs (by rw[d];exact s.1) z ⟨a,0,none⟩ 1 1 [p] (by rw[d];rfl) c (by omega) (by omega) (by rw[q];exact growslice_fits (by omega) (by omega));have e:=t.symm.trans F;injection e with y G;subst y;intro b i;cases i
   exact .inr (Cs _)
theorem rI(l:w.ownsRow base 136 1 ev n xs)(q:w.cell? ⟨a,0,none⟩=some p)(x:p.oneCell'=true)(y:n≤100000)(z:base≤w.heap.size):Calls prog 100 #[ev,.int .i64 n,.slice (some ⟨a,0,none⟩) 1 1] w fun e r=>∃k,e= .returned k∧r.ownsRow base 136 1 k (n+1) (xs++[p])∧Fr (fun b=>ev.ownBlock=some b) w r∧(∀b,k.ownBlock=some b→ev.ownBlock=some b∨w.heap.size≤b):=by
 obtain⟨k,s,g,c,d,i⟩:=sk l q x y z;obtain⟨t,f,rfl,A,m⟩:=nH l;obtain⟨u,c2,rfl,_,_⟩:=nH c;have v:(f:Int)≤9223372036854775807:=by unfold maxLen at m;omega
 have j:Hid (s.ownsRow base 136 1 (.slice u (n+1) c2) (n+1) (xs++[p])∧Fr (fun b=>(Value.slice t n f).ownBlock=some b) w s∧(∀b,(Value.slice u (n+1) c2).ownBlock=some b→(Value.slice t n f).ownBlock=some b∨w.heap.size≤b)):=⟨c,(Fr.refl _ _).grown d (fun b _ h=>h),i⟩;clear l q c d i;by_cases o:f=n
 ·subst o;go_enter func100,ntmps100;go_wp2_with (first|(at_builtin;refine Lib.wpList_append_run w rfl _ _ 174 174 rfl _ _ rfl rfl _ _ g ?_));go_ret;exact⟨_,rfl,j.out.1,j.out.2.1,j.out.2.2⟩
 ·go_enter func100,ntmps100;go_wp2_with (first|(at_builtin;refine Lib.wpList_append_run w rfl _ _ 174 174 rfl _ _ rfl rfl _ _ g ?_));go_ret;exact⟨_,rfl,j.out.1,j.out.2.1,j.out.2.2⟩
def uj(xs:List Value)(i n G:Nat):List Value:=xs.take i++List.replicate (n+1-i) (.pointer none)++List.replicate (G-(n+1)) (.pointer none)
def vJ(xs:List Value)(p:Value)(i n G:Nat):List Value:=xs.take i++p::List.replicate (n-i) (.pointer none)++List.replicate (G-(n+1)) (.pointer none)
def AD(xs:List Value)(p:Value)(i n G:Nat):List Value:=xs.take i++p::xs.drop i++List.replicate (G-(n+1)) (.pointer none)
theorem BF(xs:List Value)(p:Value)(i n G:Nat)(h:xs.length=n)(hi:i<n):(uj xs i n G).take i++([p]++(uj xs i n G).drop (i+[p].length))=vJ xs p i n G:=by
 have b:(xs.take i).length=i:=by rw[Cy];omega
 rw[uj,Ep,EA b,DN,b,CP (by omega),Dr,CM,DJ,show n+1-i=(n-i)+1 by omega,EB];simp[vJ]
theorem Bv(xs:List Value)(p:Value)(i n G:Nat)(h:xs.length=n)(hi:i<n):(vJ xs p i n G).take (i+1)++(xs.drop i++(vJ xs p i n G).drop (i+1+(xs.drop i).length))=AD xs p i n G:=by
 have b:(xs.take i++[p]).length=i+1:=by simp;omega
 have e:vJ xs p i n G=(xs.take i++[p])++(List.replicate (n-i) (.pointer none)++List.replicate (G-(n+1)) (.pointer none)):=by simp[vJ]
 have c:(xs.drop i).length=n-i:=by rw[Dx,h]
 have d:(List.replicate (n-i) (Value.pointer none)).length=n-i:=Dm;rw[c,e,EA b,show i+1+(n-i)=(xs.take i++[p]).length+(n-i) by omega,List.drop_length_add_append,List.drop_left' d];simp[AD]
theorem yY(xs:List Value)(i n G:Nat):(xs.take i).toArray++Builtin.zeroCells (Value.pointer none).cells (n+1-i)++Builtin.zeroCells (Value.pointer none).cells (G-(n+1))=(uj xs i n G).toArray:=by
 have b:∀k,Builtin.zeroCells (Value.pointer none).cells k=(List.replicate k (Value.pointer none)).toArray:=fun k=>by
  apply Array.ext';simp only[Builtin.zeroCells,Value.cells];apply List.ext_getElem
  ·simp
  ·intro j c d;simp[Nat.mod_one]
 rw[b,b,uj];simp
theorem pn{w:World}{base n i:Nat}{t:TypeId}{v:Value}{xs:List Value}(h:w.ownsRow base t 1 v n xs)(hi:i<n):∃g b c,v= .slice (some ⟨g,0,none⟩) n b∧base≤g∧w.heap[g]?=some (.cells c t (0,0))∧n≤b∧b≤maxLen∧c.size=b∧c.toList.take n=xs:=by
 rcases h.2 with⟨rfl,rfl⟩|⟨g,b,c,d,e,f,j,k,l,m⟩
 ·omega
 ·exact⟨g,b,c,d,e,f,j,k,by simpa using l,by simpa using m⟩
theorem fW:(prog.info? 136).map (·.size)=some 1:=by kernel_rfl
theorem pC{i:Nat}(hi:i<n)(U:w.ownsRow base 136 1 ev n xs)(E:∃ao,ev= .slice ao n n)(S:w.heap[a]?=some (.cells #[p] 136 (0,0)))(hp:p.oneCell'=true)(hx:∀v∈xs,v.oneCell'=true)(hn:n≤100000)(hb:base≤w.heap.size):Calls prog 100 #[ev,.int .i64 i,.slice (some ⟨a,0,none⟩) 1 1] w fun e w'=>∃V,e= .returned V∧w'.ownsRow base 136 1 V (n+1) (xs.take i++p::xs.drop i)∧Fr (fun _=>False) w w'∧(∀b,V.ownBlock=some b→w.heap.size≤b):=by
 obtain⟨g,c,ad,rfl,ae,W,af,ag,ah,F⟩:=pn U hi;obtain rfl:c=n:=by obtain⟨ao,e⟩:=E;cases e;rfl
 obtain⟨i0,X,Y,Z,H⟩:=Dn kX;have s:xs.length=c:=by have:=U.1;omega
 have ai:=lt_of_heap W;have aj:=lt_of_heap S;have I:∀j v,xs[j]?=some v→w.cell? ⟨g,j,none⟩=some v:=fun j v d=>(Cn w g j _ _ _ W).trans (by
  rw[←F,DE]at d;split at d
  ·simpa using d
  ·cases d)
 have r:(Builtin.firstCells i0.size i (.slice (some ⟨g,0,none⟩) i c)).run prog w.drew= .ok (xs.take i).toArray w.drew:=by
  rw[Z];refine run_firstCells_some w.drew 1 i ⟨g,0,none⟩ i c (xs.take i) (by rw[Cy];omega) (fun j v d=>?_);rw[Addr.add_lit,D5];rw[DE]at d;split at d
  ·exact I j v d
  ·cases d
 have m:∀ty,(Builtin.append_ #[174,3] ty #[.slice (some ⟨g,0,none⟩) i c,.int .i64 ((c:Int)+1-(i:Int))]).run prog w= .ok (.slice (some ⟨w.heap.size,0,none⟩) (c+1) (grownCap w (c+1) c 136)) (w.drew.alloc (.cells (uj xs i c (grownCap w (c+1) c 136)).toArray 136)):=fun ty=>by
  have J:i+(c+1-i)=c+1:=by omega
  have hh:=run_append_grow_zeros (P:=prog) w 174 3 ty 136 i0 (.pointer none) .i64 .i64 underlying174 underlying3 X Y (some ⟨g,0,none⟩) i c (xs.take i) r (c+1-i) (by omega) (by omega) (by omega) (by omega) (by rw[H];omega) (by rw[H,J];exact growslice_fits (by omega) (by omega));rw[J,yY]at hh;rw[show(c:Int)+1-(i:Int)=((c+1-i:Nat):Int) by omega];exact hh
 have L:c+1≤grownCap w (c+1) c 136:=grownCap_ge w _ _ _;have t:=grownCap_le_maxLen w (c+1) c 136 (by unfold maxLen;omega);obtain⟨G,hG⟩:∃G,G=grownCap w (c+1) c 136:=⟨_,rfl⟩;rw[←hG]at m L t;have a8:(G:Int)≤9223372036854775807:=by unfold maxLen at t;omega
 have f:Fr (fun _=>False) w (w.drew.alloc (.cells (uj xs i c G).toArray 136)):=((Fr.refl _ _).drew).alloc _;have o:(w.drew.alloc (.cells (uj xs i c G).toArray 136)).heap[w.heap.size]?=some (.cells (uj xs i c G).toArray 136 (0,0)):=aa w.drew _;obtain⟨W1,M⟩:=aw (w.drew.alloc (.cells (uj xs i c G).toArray 136));rw[←M.out]at m f o;clear M r F hG U;have N:=f.keep S jI;have a0:=f.keep W jI;have ak:¬c=i:=by omega
 have al:¬G=i:=by omega
 have a9:(i:Int)<c:=by omega
 have an:¬((i:Int)=c):=by omega
 have ap:IntKind.i64.wrap ((c:Int)+1)=(c:Int)+1:=by rw[E4];omega
 have aq:IntKind.i64.wrap ((c:Int)+1-i)=(c:Int)+1-i:=by rw[E4];omega
 have a1:(uj xs i c G).length=G:=by simp[uj];omega
 have k:∀j v,[p][j]?=some v→W1.cell? ((⟨a,0,none⟩:Addr).add j)=some v:=by
  intro j u d;match j,d with
  |0,d=>simp at d;subst d;exact(Cn W1 a 0 _ _ _ N).trans rfl
 have O:(xs.drop i).length=c-i:=by rw[Dx,s]
 have a2:(vJ xs p i c G).length=G:=by simp[vJ];omega
 have ar:IntKind.i64.wrap ((i:Int)+1)=(i:Int)+1:=by rw[E4];omega
 have a3:[p].length=Nat.min 1 (c+1-i):=by show 1=min 1 (c+1-i);omega
 have x:i+[p].length≤(uj xs i c G).toArray.size:=by rw[Df,a1,CM];omega
 have y:∀v∈[p],v.oneCell'=true:=by simpa using hp
 have a4:(xs.drop i).length=Nat.min (c-i) (c-i):=by rw[O];show c-i=min (c-i) (c-i);omega
 have z:i+1+(xs.drop i).length≤(vJ xs p i c G).toArray.size:=by rw[Df,a2,O];omega
 go_enter func100,ntmps100;go_wp2_with (first
  |(at_builtin;refine Lib.wpList_append_run _ rfl _ _ _ _ rfl _ _ rfl rfl _ _ (m _) ?_)
  |(refine bC rfl (.tmp 43) (.tmp 44) 174 174 rfl 136 underlying174 fW w.heap.size i (c+1-i) (G-i) ⟨a,0,none⟩ 1 1 rfl rfl (uj xs i c G).toArray 136 o [p] a3 k x y (vJ xs p i c G) (BF xs p i c G s hi) ?_;intro T A))
 have Q:Fr (fun _=>False) w T:=by rw[A.out];exact f.setRow _ (fun h=>by omega) _
 have R:T.heap[w.heap.size]?=some (.cells (vJ xs p i c G).toArray 136 (0,0)):=by rw[A.out];exact CA _ _ _ _ _ _ o
 have au:(0:Int)≤(i:Int)+1:=by omega
 have av:((i:Int)+1).toNat=i+1:=by omega
 have ab:¬G=i+1:=by omega
 have ax:i≤c:=by omega
 clear A m k N a0 f o;try simp only[Act.put,aC,aB,aE]
 refine wp_region_still_tail 8 (by kernel_rfl) (by kernel_rfl) (Bx.out ?_);simp only[CW,Dc,CQ,D2];repeat(refine bu (fun K hK=>?_);go_simp;refine hK _ ?_;clear hK K)
 refine bI ?_;obtain⟨W3,q⟩:=aw T.drew;have B:Fr (fun _=>False) w W3:=by rw[q.out];exact Q.drew
 have C:W3.heap[w.heap.size]?=some (.cells (vJ xs p i c G).toArray 136 (0,0)):=by rw[q.out];exact R
 change wpList _ _ _ _ _ T.drew;rw[←q.out];clear q R Q;have l:∀j v,(xs.drop i)[j]?=some v→W3.cell? ((⟨g,i,none⟩:Addr).add j)=some v:=by intro j u d;rw[Addr.add_lit];rw[E3]at d;exact B.cell (I (i+j) u d) jI
 go_wp2_with (first
  |(refine bC rfl (.tmp 50) (.tmp 53) 174 174 rfl 136 underlying174 fW w.heap.size (i+1) (c-i) (G-(i+1)) ⟨g,i,none⟩ (c-i) (c-i) rfl rfl (vJ xs p i c G).toArray 136 C (xs.drop i) a4 l z (fun v S=>hx v (D8 S)) (AD xs p i c G) (Bv xs p i c G s hi) ?_;intro w4 D))
 have a5:Fr (fun _=>False) w w4:=by rw[D.out];exact B.setRow _ (fun h=>by omega) _
 have a6:w4.heap[w.heap.size]?=some (.cells (AD xs p i c G).toArray 136 (0,0)):=by rw[D.out];exact CA _ _ _ _ _ _ C
 clear D C B l;go_wp2;go_ret;refine⟨_,rfl,⟨?_,.inr ⟨w.heap.size,G,_,rfl,hb,a6,L,t,?_,?_⟩⟩,a5,fun b a7=>by cases a7;exact Cs _⟩
 ·simp;omega
 ·simp[AD];omega
 ·rw[FS,AD];exact EA (by simp;omega)
end
end
section
open Go.Lib
section
variable{w:World}{base n a:Nat}{ev p:Value}{xs:List Value}
theorem zH{w:World}{a:Nat}{p:Value}{t:TypeId}(c:w.heap[a]?=some (.cells #[p] t (0,0))):∀j v,[p][j]?=some v→w.cell? ((⟨a,0,none⟩:Addr).add j)=some v:=by
 intro j u b;match j,b with
 |0,b=>simp at b;subst b;exact(Cn w a 0 _ _ _ c).trans rfl
def yB(b xs:List Value)(i n:Nat):List Value:=b.take (i+1)++(xs.drop i++b.drop (n+1))
def Al(b xs:List Value)(p:Value)(i n:Nat):List Value:=xs.take i++p::xs.drop i++b.drop (n+1)
theorem BM(b xs:List Value)(p:Value)(i n:Nat)(c:b.take n=xs)(f:n<b.length)(hi:i<n):(yB b xs i n).take i++([p]++(yB b xs i n).drop (i+[p].length))=Al b xs p i n:=by
 have d:(b.take (i+1)).length=i+1:=by rw[Cy];omega
 have e:(b.take (i+1)).take i=xs.take i:=by rw[←c,EU,EU];congr 1;omega
 rw[yB,CM,List.drop_left' d,DH (by omega),e];simp[Al]
theorem ol{i d g:Nat}{c:Array Value}(hi:i<n)(G:base≤g)(H:w.heap[g]?=some (.cells c 136 (0,0)))(a9:n<d)(C:d≤maxLen)(f:c.size=d)(o:c.toList.take n=xs)(B:w.heap[a]?=some (.cells #[p] 136 (0,0)))(D:a≠g)(hp:p.oneCell'=true)(hx:∀v∈xs,v.oneCell'=true)(hn:n≤100000):Calls prog 100 #[.slice (some ⟨g,0,none⟩) n d,.int .i64 i,.slice (some ⟨a,0,none⟩) 1 1] w fun e w'=>∃I,e= .returned I∧w'.ownsRow base 136 1 I (n+1) (xs.take i++p::xs.drop i)∧Fr (fun b=>b=g) w w'∧I.ownBlock=some g:=by
 have J:xs.length=n:=by rw[←o,Cy,DM,f];omega
 have L:∀j v,xs[j]?=some v→w.cell? ⟨g,j,none⟩=some v:=fun j v q=>(Cn w g j _ _ _ H).trans (by
  rw[←o,DE]at q;split at q
  ·simpa using q
  ·cases q)
 have M:∀N O,(callFunc 147 #[.slice (some ⟨a,0,none⟩) 1 1,.slice (some ⟨g,i+1,none⟩) N O]).run prog w= .ok (.value (.bool false)) w:=fun N O=>by rw[run_callFunc_extern func147 (by kernel_rfl) (by kernel_rfl) (by kernel_rfl) (e:=Extern.SlicesOverlaps.overlaps #[174,174] #[4]) (by kernel_rfl),Lib.run_overlaps_apart w 174 4 136 underlying174 1 (fun _=>by kernel_rfl) ⟨a,0,none⟩ ⟨g,i+1,none⟩ 1 1 N O D 136 136 1 d (by simp[World.shape?,B]) (by simp[World.shape?,H,f]) (by omega) (CN w a 0 _ _ B) (CN w a 1 _ _ B)];rfl
 have r:(w.drew).heap[g]?=some (.cells c.toList.toArray 136 (0,0)):=by rw[gP,Array.toArray_toList];exact H
 have s:(xs.drop i).length=n-i:=by rw[Dx,J]
 have aa:c.toList.length=d:=by rw[DM,f]
 have P:(yB c.toList xs i n).length=d:=by simp[yB,f];omega
 have Q:(Al c.toList xs p i n).length=d:=by simp[Al,f];omega
 have a2:(d:Int)≤9223372036854775807:=by unfold maxLen at C;omega
 have a3:(i:Int)<n:=by omega
 have a4:¬((i:Int)=n):=by omega
 have ab:IntKind.i64.wrap ((n:Int)+1)=(n:Int)+1:=by rw[E4];omega
 have ad:IntKind.i64.wrap ((i:Int)+1)=(i:Int)+1:=by rw[E4];omega
 have ae:(0:Int)≤(n:Int)+1:=by omega
 have af:(0:Int)≤(i:Int)+1:=by omega
 have a5:((n:Int)+1).toNat=n+1:=by omega
 have ag:((i:Int)+1).toNat=i+1:=by omega
 have ah:¬d=i:=by omega
 have a6:¬d=i+1:=by omega
 have ai:i≤n:=by omega
 have R:n+1≤d:=by omega
 have a7:¬((d:Int)<(n:Int)+1):=by omega
 have a8:(n:Int)+1≤d:=by omega
 have aj:(i:Int)≤(n:Int)+1:=by omega
 have S:(xs.drop i).length=Nat.min (n+1-i) (n-i):=by rw[s];show n-i=min (n+1-i) (n-i);omega
 have t:i+1+(xs.drop i).length≤c.size:=by rw[s];omega
 have x:c.toList.take (i+1)++(xs.drop i++c.toList.drop (i+1+(xs.drop i).length))=yB c.toList xs i n:=by rw[s,show i+1+(n-i)=n+1 by omega];rfl
 have T:[p].length=Nat.min 1 (n+1-i):=by show 1=min 1 (n+1-i);omega
 have y:i+[p].length≤(yB c.toList xs i n).toArray.size:=by rw[Df,P,CM];omega
 have E:∀v∈[p],v.oneCell'=true:=by simpa using hp
 have z:=BM c.toList xs p i n o (by omega) hi;go_enter func100,ntmps100;go_wp2_with (simp only[M]);refine wp_region_still_tail 8 (by kernel_rfl) (by kernel_rfl) (Bx.out ?_);simp only[CW,Dc,CQ,D2];repeat(refine bu (fun K hK=>?_);go_simp;refine hK _ ?_;clear hK K)
 refine bI ?_;change wpList _ _ _ _ _ w.drew;obtain⟨W3,k⟩:=aw w.drew;have U:Fr (fun b=>b=g) w W3:=by rw[k.out];exact(Fr.refl _ _).drew
 have m:=eG k;rw[←k.out]at r⊢;clear k;have V:=m.keep B jI;have h:∀j v,(xs.drop i)[j]?=some v→W3.cell? ((⟨g,i,none⟩:Addr).add j)=some v:=by intro j u q;rw[Addr.add_lit];rw[E3]at q;exact m.cell (L (i+j) u q) jI
 go_wp2_with (first
  |(refine bC rfl (.tmp 73) (.tmp 76) 174 174 rfl 136 underlying174 fW g (i+1) (n-i) (d-(i+1)) ⟨g,i,none⟩ (n+1-i) (d-i) rfl rfl c.toList.toArray 136 r (xs.drop i) S h t (fun v B=>hx v (D8 B)) (yB c.toList xs i n) x ?_;intro W l;(have F:W.heap[g]?=some (.cells (yB c.toList xs i n).toArray 136 (0,0)):=by rw[l.out];exact CA _ _ _ _ _ _ r);(have X:W.heap[a]?=some (.cells #[p] 136 (0,0)):=by rw[l.out,DB _ _ _ _ D];exact V);(have Y:Fr (fun b=>b=g) w W:=by rw[l.out];exact U.setRow _ (fun _=>rfl) _);(have Z:=zH X);clear l h)
  |(refine bC rfl (.tmp 80) (.tmp 81) 174 174 rfl 136 underlying174 fW g i (n+1-i) (d-i) ⟨a,0,none⟩ 1 1 rfl rfl (yB c.toList xs i n).toArray 136 F [p] T Z y E (Al c.toList xs p i n) z ?_;intro w5 A;(have a0:w5.heap[g]?=some (.cells (Al c.toList xs p i n).toArray 136 (0,0)):=by rw[A.out];exact CA _ _ _ _ _ _ F);(have a1:Fr (fun b=>b=g) w w5:=by rw[A.out];exact Y.setRow _ (fun _=>rfl) _);clear A))
 go_ret;refine⟨_,rfl,⟨?_,.inr ⟨g,d,_,rfl,G,a0,R,C,?_,?_⟩⟩,a1,rfl⟩
 ·simp;omega
 ·rw[Df,Q];omega
 ·rw[FS,Al];exact EA (by simp;omega)
theorem vu{i:Nat}(hi:i≤n)(j:w.ownsRow base 136 1 ev n xs)(l:w.heap[a]?=some (.cells #[p] 136 (0,0)))(m:ev.ownBlock≠some a)(o:p.oneCell'=true)(C:∀v∈xs,v.oneCell'=true)(q:n≤100000)(D:base≤w.heap.size):Calls prog 100 #[ev,.int .i64 i,.slice (some ⟨a,0,none⟩) 1 1] w fun e k=>∃d,e= .returned d∧k.ownsRow base 136 1 d (n+1) (xs.take i++p::xs.drop i)∧Fr (fun b=>ev.ownBlock=some b) w k∧(∀b,d.ownBlock=some b→ev.ownBlock=some b∨w.heap.size≤b):=by
 have E:xs.length=n:=by have:=j.1;omega
 rcases FO hi with f|rfl
 ·obtain⟨g,F,G,rfl,r,H,s,t,u,x⟩:=pn j f;rcases FO s with I|rfl
  ·refine(ol f r H I t u x l (fun e=>m (by rw[e];rfl)) o C q).mono ?_;rintro e k ⟨d,y,z,A,B⟩;exact⟨d,y,z,A.mono (fun b _ h=>by rw[h];rfl),fun b c=> .inl (by rw[B]at c;exact c)⟩
  ·refine(pC f j ⟨_,rfl⟩ l o C q D).mono ?_;rintro e k ⟨d,y,z,A,B⟩;exact⟨d,y,z,A.mono (fun _ _ h=>h.elim),fun b c=> .inr (B b c)⟩
 ·rw[CO (by omega),CP (by omega)];exact rI j ((Cn w a 0 _ _ _ l).trans rfl) o q D
end
end
end Go.Proofs.YteebjgfalllbjaaGreatDoor
