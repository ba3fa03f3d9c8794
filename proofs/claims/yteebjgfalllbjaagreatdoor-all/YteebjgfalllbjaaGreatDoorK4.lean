import Derived.Test.YteebjgfalllbjaaGreatDoorK2
import Derived.Laws.AppendOwnNone
namespace Go.Proofs.YteebjgfalllbjaaGreatDoor
open Go.RowKit Go.Proofs.Tryz
set_option maxRecDepth 100000
set_option maxHeartbeats 2000000
theorem sU{a b:ByteArray}(h:a=b):(a.toList==b.toList)=true:=by rw[h];simp
theorem mV{a b:ByteArray}(h:¬a=b):(a.toList==b.toList)=false:=by
 rw[←beq_toListBytes];by_cases c:(a==b)=true
 ·exfalso;apply h;rw[beq_toListBytes,beq_iff_eq,FC,FC]at c;exact ByteArray.ext (Array.ext' c)
 ·simpa using c
theorem mo{w:World}{G H:Option Addr}{ca cb:Nat}{a b:List SS}(u:aY w G 2 (a.map dj))(v:aY w H 2 (b.map dj))(S:a.length≤1000000):Calls prog 122 #[.slice G a.length ca,.slice H b.length cb] w fun e L=>e= .returned (.bool (decide (a=b)))∧Fr (fun _=>False) w L:=by
 by_cases d:a.length=b.length
 ·have M:=af u;have N:=af v;have f:=af d;rw[←d];clear u v d;go_enter func122,ntmps122;go_wp2;go_loopw [5] (fun c wr=>∃i:Nat,i≤a.length∧c= .int .i64 i∧Hid (Fr (fun _=>False) w wr)∧Hid (a.take i=b.take i)) (fun c _=>a.length-(intOf c).toNat);case atStart=>exact⟨0,CH _,rfl,Fr.refl _ _,(by simp:a.take 0=b.take 0)⟩
  case round=>
   obtain⟨i,hi,rfl,j,I⟩:=hrel;by_cases x:i<a.length
   ·have n:(i:Int)<a.length:=by omega
    obtain⟨p,y⟩:∃p,a[i]?=some p:=⟨_,Cp x⟩;obtain⟨q,z⟩:∃q,b[i]?=some q:=⟨_,Cp (by have:=f.out;omega)⟩;obtain⟨g,off,rfl,A⟩:=M.out i (dj p) (by simp[y]);obtain⟨J,k,rfl,m⟩:=N.out i (dj q) (by simp[z]);obtain⟨B,C⟩:=p;obtain⟨D,E⟩:=q;have c0:wr.cell? ⟨g,off+i*2,none⟩=some (.string B):=j.out.cell (A 0 _ rfl) jI;have c1:wr.cell? ⟨g,off+i*2+1,none⟩=some (.string C):=j.out.cell (A 1 _ rfl) jI;have d0:wr.cell? ⟨J,k+i*2,none⟩=some (.string D):=j.out.cell (m 0 _ rfl) jI;have T:wr.cell? ⟨J,k+i*2+1,none⟩=some (.string E):=j.out.cell (m 1 _ rfl) jI;clear A m;have r:Hid (a[i]?=some (B,C)∧b[i]?=some (D,E)):=⟨y,z⟩;clear y z;by_cases s:B=D
    ·have O:=sU s;by_cases t:C=E
     ·have P:=sU t;have Q:Hid (a.take (i+1)=b.take (i+1)):=by show a.take (i+1)=b.take (i+1);rw[D1,D1,r.out.1,r.out.2,I.out,s,t]
      go_wp2;refine E5 (by kernel_rfl) (by kernel_rfl) (Bx.out ?_);repeat(refine bu (fun K l=>?_);go_simp;refine l _ ?_;clear l K)
      refine bI ?_;go_wp2;go_roundw;case rel=>exact⟨i+1,by omega,by go_num,j.out.drew,Q⟩
      case measure=>simp[intOf];omega
     ·have P:=mV t;go_wp2;refine E5 (by kernel_rfl) (by kernel_rfl) (Bx.out ?_);repeat(refine bu (fun K l=>?_);go_simp;refine l _ ?_;clear l K)
      refine bI ?_;go_wp2;go_ret;refine⟨?_,j.out.drew⟩;have:a≠b:=fun h=>by have:=r.out;rw[h]at this;rw[this.1]at this;simp at this;exact t this.2
      simp[this]
    ·have O:=mV s;go_wp2;refine E5 (by kernel_rfl) (by kernel_rfl) (Bx.out ?_);repeat(refine bu (fun K l=>?_);go_simp;refine l _ ?_;clear l K)
     refine bI ?_;go_wp2;go_ret;refine⟨?_,j.out.drew⟩;have:a≠b:=fun h=>by have:=r.out;rw[h]at this;rw[this.1]at this;simp at this;exact s this.1
     simp[this]
   ·have n:¬(i:Int)<a.length:=by omega
    go_wp2;go_ret;refine⟨?_,j.out⟩;have:=I.out;rw[CO (by omega),CO (by have:=f.out;omega)]at this;simp[this]
 ·have F:¬(a.length:Int)=b.length:=by omega
  have o:a≠b:=fun h=>d (by rw[h]);have R:Hid (decide (a=b)=false):=by simp[Hid,o]
  clear o u v;go_enter func122,ntmps122;go_wp2;go_ret;exact⟨by rw[R.out];rfl,Fr.refl _ _⟩
def aO(id:Int)(st:List SS):Bool:=decide (1≤id∧id≤1000∧1≤st.length∧st.length≤6∧∀p∈st,p.1.size≤8∧p.2.size≤8)
theorem uG{w:World}{q:Option Addr}{j:Nat}{st:List SS}(r:aY w q 2 (st.map dj))(id:Int):Calls prog 157 #[.int .i64 id,.slice q st.length j] w fun e u=>e= .returned (.bool (aO id st))∧Fr (fun _=>False) w u:=by
 have v:=af r;clear r;by_cases z:id<1
 ·have b:Hid (aO id st=false):=by simp[Hid,aO];omega
  go_enter func157,ntmps157;go_wp2;go_ret;exact⟨by rw[b.out];rfl,Fr.refl _ _⟩
 by_cases A:1000<id
 ·have b:Hid (aO id st=false):=by simp[Hid,aO];omega
  go_enter func157,ntmps157;go_wp2;go_ret;exact⟨by rw[b.out];rfl,Fr.refl _ _⟩
 by_cases B:(st.length:Int)<1
 ·have b:Hid (aO id st=false):=by simp[Hid,aO];omega
  go_enter func157,ntmps157;go_wp2;go_ret;exact⟨by rw[b.out];rfl,Fr.refl _ _⟩
 by_cases C:(6:Int)<st.length
 ·have b:Hid (aO id st=false):=by simp[Hid,aO];omega
  go_enter func157,ntmps157;go_wp2;go_ret;exact⟨by rw[b.out];rfl,Fr.refl _ _⟩
 have b:Hid ((∀p∈st,p.1.size≤8∧p.2.size≤8)→aO id st=true):=fun h=>by unfold aO;exact Dg ⟨by omega,by omega,by omega,by omega,h⟩
 have s:Hid (∀p,p∈st→¬(p.1.size≤8∧p.2.size≤8)→aO id st=false):=fun p a x=>by unfold aO;exact Dl (fun h=>x (h.2.2.2.2 p a))
 go_enter func157,ntmps157;go_wp2;go_loopw [5] (fun c wr=>∃i:Nat,i≤st.length∧c= .int .i64 i∧Hid (Fr (fun _=>False) w wr)∧Hid (∀p∈st.take i,p.1.size≤8∧p.2.size≤8)) (fun c _=>st.length-(intOf c).toNat);case atStart=>exact⟨0,CH _,rfl,Fr.refl _ _,(fun p a=>absurd a (by simp):∀p∈st.take 0,p.1.size≤8∧p.2.size≤8)⟩
 case round=>
  obtain⟨i,hi,rfl,d,t⟩:=hrel;by_cases k:i<st.length
  ·have f:(i:Int)<st.length:=by omega
   obtain⟨p,a⟩:∃p,st[i]?=some p:=⟨_,Cp k⟩;obtain⟨g,off,rfl,l⟩:=v.out i (dj p) (by simp[a]);obtain⟨m,n⟩:=p;have c0:wr.cell? ⟨g,off+i*2,none⟩=some (.string m):=d.out.cell (l 0 _ rfl) jI;have c1:wr.cell? ⟨g,off+i*2+1,none⟩=some (.string n):=d.out.cell (l 1 _ rfl) jI;clear l;have o:Hid (st[i]?=some (m,n)):=a;clear a;by_cases D:(8:Int)<m.size
   ·go_wp2;go_ret;exact⟨by rw[s.out _ (Cq o.out) (by simp;omega)];rfl,d.out⟩
   ·by_cases E:(8:Int)<n.size
    ·go_wp2;go_ret;exact⟨by rw[s.out _ (Cq o.out) (by simp;omega)];rfl,d.out⟩
    ·have y:Hid (∀p∈st.take (i+1),p.1.size≤8∧p.2.size≤8):=fun p a=>by
      rw[D1,o.out,Cv]at a;rcases a with a|a
      ·exact t.out p a
      ·simp at a;subst a;exact⟨by simp;omega,by simp;omega⟩
     go_wp2;go_roundw;case rel=>exact⟨i+1,by omega,by go_num,d,y⟩
     case measure=>simp[intOf];omega
  ·have f:¬(i:Int)<st.length:=by omega
   go_wp2;go_ret;have:=t.out;rw[CO (by omega)]at this;exact⟨by rw[b.out this];rfl,d.out⟩
theorem aN{w:World}{c e size n:Nat}{v:Value}{j:List Value}(h:w.ownsRow c e size v n j):∃i b,v= .slice i n b∧(i=none→n=0∧b=0)∧∀f,i=some f→f.off=0∧f.spot=none:=by
 rcases h.2 with⟨rfl,rfl⟩|⟨g,b,k,rfl,_⟩
 ·exact⟨none,0,rfl,fun _=>⟨rfl,rfl⟩,fun f h=>by cases h⟩
 ·refine⟨some ⟨g,0,none⟩,b,rfl,(fun h=>by cases h),(fun f h=>by cases h;exact⟨rfl,rfl⟩)⟩
theorem bY{S:Nat→Prop}{w j:World}{c e size n:Nat}{v:Value}{k:List Value}(h:w.ownsRow c e size v n k)(m:Fr S w j)(p:∀b,c≤b→¬S b):j.ownsRow c e size v n k:=by
 refine⟨h.1,?_⟩;rcases h.2 with q|⟨g,f,i,rfl,l,r,rest⟩
 ·exact .inl q
 ·exact .inr ⟨g,f,i,rfl,l,m.keep r (p g l),rest⟩
theorem bg{w:World}{b i e size n:Nat}{v:Value}{j:List Value}(h:w.ownsRow b e size v n j)(m:i≤b):w.ownsRow i e size v n j:=by
 refine⟨h.1,?_⟩;rcases h.2 with k|⟨g,c,f,l,p,rest⟩
 ·exact .inl k
 ·exact .inr ⟨g,c,f,l,by omega,rest⟩
theorem iY(size:Nat):∀(l:List (List Value)),(∀x∈l,x.length=size)→∀(i:Nat) (cs:List Value),l[i]?=some cs→∀j v,cs[j]?=some v→l.flatten[i*size+j]?=some v
 |[],_,i,cs,h,_,_,_=>by simp at h
 |x::r,c,0,cs,h,j,v,b=>by simp at h;subst h;rw[F5,D5,Ei,CI (Co.1 b).1];exact b
 |x::r,c,i+1,cs,h,j,v,b=>by
  have e:=c x (by simp);rw[Ei,CG (by rw[e];have:size≤(i+1)*size:=Nat.le_mul_of_pos_left _ (by omega);omega),e];have:(i+1)*size+j-size=i*size+j:=by rw[Nat.add_mul];omega
  rw[this];exact iY size r (fun y f=>c y (by simp[f])) i cs (by simpa using h) j v b
theorem fL{w:World}{b e size n:Nat}{k:Option Addr}{f:Nat}{l:List (List Value)}(h:w.ownsRow b e size (.slice k n f) n l.flatten)(p:∀x∈l,x.length=size)(r:l.length≤n):aY w k size l:=by intro i cs hi;have q:=(Co.1 hi).1;obtain⟨g,m,c,_,_⟩:=h.form (by omega);simp only[DW,FK]at c;obtain⟨rfl,rfl⟩:=c;refine⟨g,0,rfl,fun j v c=>?_⟩;have:=h.cells (g:=g) rfl (i*size+j) v (iY size l p i cs hi j v c);rw[DF,←Nat.add_assoc]at this;exact this
section
variable{P:Program}{w:World}{d:Array Oper}{rest:List Oper}{o:Oper}{a:Act}{Q:Exit→Act→World→Prop}
theorem cB(r:o.guard=none)(s x:Operand)(t:TypeId)(K:o.op= .call {callee:= .builtin .append,args:=#[s,x],argTypes:=#[t,t]})(b:Nat)(e:TypeId)(i:TypeInfo)(z:Value)(size bytes:Nat)(L:P.underlying t=some (.slice e))(hi:P.info? e=some i)(R:i.zero=some z)(l:i.size=size)(F:i.bytes=bytes)(G:z.cells.size=size)(H:0<size)(v:Value)(n:Nat)(C:List Value)(M:a.eval s=v)(g:w.ownsRow b e size v n C)(D:Option Addr)(m c:Nat)(f:List Value)(N:a.eval x= .slice D m c)(I:D=none→m=0∧c=0)(O:f.length=m*size)(p:∀y,D=some y→∀j u,f[j]?=some u→w.cell? (y.add j)=some u)(S:∀u∈f,u.oneCell'=true)(J:n+m≤maxLen)(k:(n+m)*bytes≤140737488355328)(q:b≤w.heap.size)(h:∀E A,A.ownsRow b e size E (n+m) (C++f)→w.grownBy A v.ownBlock→wpList P d Q rest (a.put o.dst E) A):wpList P d Q (o::rest) a w:=by
 cases D with
 |none=>
  obtain⟨rfl,rfl⟩:=I rfl;have B:=D3 (by simpa using O);subst B;refine wpList_append_own_none r s x t K b e i size L hi v n C M g N ?_;exact h v w (by simpa using g) ⟨rfl,rfl,rfl,Cs _,fun _ _ _=>rfl⟩
 |some y=>
  exact DD w r s x t K b e i z size bytes L hi R l F G H v n C M g y m c f N O (p y rfl) S J k q (fun E A T U _=>h E A T U)
end
def cQ(L:List RS)(k:Nat):Nat:=4+2*k+2+(L.map fun r=>2*r.st.length+2).sum
theorem qv{w:World}{h:Option Addr}{b:Nat}{L:List RS}(x:aY w h 7 (L.map RS.cs))(I:L.length≤1000000)(y:∀r∈L,r.st.length≤1000000)(t u:Int)(f:Bool)(n k:Nat)(J:k≤1000000):Calls prog 128 #[.agg #[.int .i64 t,.int .i64 u,.bool f,.slice h L.length b],.int .i64 n,.int .i64 k] w fun e D=>e= .returned (.bool (decide (cQ L k≤n)))∧Fr (fun _=>False) w D:=by
 have E:=af x;have F:=af y;have z:Hid (Fr (fun _=>False) w (w.alloc (.cells #[.int .i64 t,.int .i64 u,.bool f,.slice h L.length b] 109))):=(Fr.refl _ _).alloc _;clear x y;go_enter func128,ntmps128;go_wp2;go_loopw [7,8] (fun q c wr=>∃(i m:Nat),i≤L.length∧m≤3000000+i*3000000∧q= .int .i64 m∧c= .int .i64 i∧Hid (Fr (fun _=>False) (w.alloc (.cells #[.int .i64 t,.int .i64 u,.bool f,.slice h L.length b] 109)) wr)∧Hid (m=cQ (L.take i) k)) (fun _ c _=>L.length-(intOf c).toNat);case atStart=>exact⟨0,4+2*k+2,CH _,by omega,by go_num,rfl,Fr.refl _ _,(by simp[cQ]:4+2*k+2=cQ (L.take 0) k)⟩
 case round=>
  obtain⟨i,m,hi,K,rfl,rfl,p,A⟩:=hrel;have B:=p.out.keep (aa w _) jI;have M:wr.cell? ⟨w.heap.size,3,none⟩=some (.slice h L.length b):=by rw[Cn wr w.heap.size 3 _ _ _ B];rfl
  clear B;by_cases v:i<L.length
  ·have j:(i:Int)<L.length:=by omega
   obtain⟨r,s⟩:∃r,L[i]?=some r:=⟨_,Cp v⟩;obtain⟨g,off,rfl,l⟩:=E.out i r.cs (by simp[s]);have c1:=p.out.cell (z.out.cell (l 1 _ rfl) jI) jI;clear l;have G:=F.out r (Cq s);have H:Hid (m+2*r.st.length+2=cQ (L.take (i+1)) k):=by show m+2*r.st.length+2=cQ (L.take (i+1)) k;rw[D1,s,A.out];simp[cQ];omega
   clear s;go_wp2;go_roundw;case rel=>exact⟨i+1,m+2*r.st.length+2,by omega,by omega,by go_num,by go_num,p,H⟩
   case measure=>simp[intOf];omega
  ·have j:¬(i:Int)<L.length:=by omega
   obtain rfl:i=L.length:=by omega
   go_wp2;go_ret;have C:=A.out;rw[Dj]at C;refine⟨?_,z.out.trans p.out fI⟩;rw[←C];simp
def dL(f ok t same:Bool):Int×Bool:=if f then(4,false)else if !ok then(1,false)else if !t then(0,true)else if same then(0,false)else(2,false)
def BE(L:List RS)(f:Bool)(id:Int)(st:List SS)(w:World)(e:Ending)(a:World):Prop:=∃k t,fM L id k t∧(∀same,(∀r,L[k]?=some r→same=decide (r.st=st))→e= .returned (.tuple #[.int .i64 (dL f (aO id st) t same).1,.bool (dL f (aO id st) t same).2]))∧Fr (fun _=>False) w a
theorem qE(L:List RS)(id:Int):∃k t,fM L id k t:=by
 induction L with
 |nil=>exact⟨0,false,Cs _,(fun j r h=>absurd h (by omega)),(fun r h=>by simp at h),by simp⟩
 |cons a l c=>
  by_cases h:id≤a.id
  ·exact⟨0,decide (a.id=id),CH _,(fun j r h=>absurd h (by omega)),(fun r b=>by simp at b;subst b;exact h),by simp⟩
  ·obtain⟨k,t,d,e,f,g⟩:=c;refine⟨k+1,t,by simpa using d,?_,by simpa using f,by simpa using g⟩;intro j r i b;cases j with
   |zero=>simp at b;subst b;omega
   |succ j=>exact e j r (by omega) (by simpa using b)
theorem iA{w:World}{u R:Option Addr}{b W:Nat}{L:List RS}{st:List SS}(S:cO w u L)(X:L.length≤1000000)(j:aY w R 2 (st.map dj))(x y:Int)(f:Bool)(id:Int):Calls prog 125 #[.agg #[.int .i64 x,.int .i64 y,.bool f,.slice u L.length b],.int .i64 id,.slice R st.length W] w fun e Y=>BE L f id st w e Y:=by
 have M:Fr (fun _=>False) w (w.alloc (.cells #[.int .i64 x,.int .i64 y,.bool f,.slice u L.length b] 109)):=(Fr.refl _ _).alloc _;have T:=aa w (.cells #[.int .i64 x,.int .i64 y,.bool f,.slice u L.length b] 109);go_enter func125,ntmps125;go_wp2_with fail;refine(uG (j.frz M) id).mono ?_;rintro e i ⟨rfl,l⟩;have z:=M.trans l fI;have a:=l.keep T jI;have Z:i.cell? ⟨w.heap.size,0,none⟩=some (.int .i64 x):=by rw[Cn i w.heap.size 0 _ _ _ a];rfl
 have b1:i.cell? ⟨w.heap.size,1,none⟩=some (.int .i64 y):=by rw[Cn i w.heap.size 1 _ _ _ a];rfl
 have b2:i.cell? ⟨w.heap.size,2,none⟩=some (.bool f):=by rw[Cn i w.heap.size 2 _ _ _ a];rfl
 have b3:i.cell? ⟨w.heap.size,3,none⟩=some (.slice u L.length b):=by rw[Cn i w.heap.size 3 _ _ _ a];rfl
 obtain⟨ok,m⟩:∃ok,aO id st=ok:=⟨_,rfl⟩;rw[m];have d:=af m;have h:=af z;have I:=af S;have N:=af j;have O:=af a;clear M T l z m S j a;cases f
 ·cases ok
  ·go_wp2;go_ret2;obtain⟨k,t,v⟩:=qE L id;exact⟨k,t,v,fun same _=>by rw[d.out];rfl,h.out⟩
  ·go_wp2_with fail;refine(eK ((I.out.r).frz h.out) X x y false id).mono ?_;rintro e U ⟨k,t,rfl,v,o⟩;have c:=af (h.out.trans o fI);have J:=af v;have A:=o.keep O.out jI;have d3:U.cell? ⟨w.heap.size,3,none⟩=some (.slice u L.length b):=by rw[Cn U w.heap.size 3 _ _ _ A];rfl
   clear Z b1 b2 b3 v o A;cases t
   ·go_wp2;go_ret2;exact⟨k,false,J.out,fun same _=>by rw[d.out];rfl,c.out⟩
   ·obtain⟨r,B,P⟩:=J.out.2.2.2.1 rfl;obtain⟨g,off,rfl,C⟩:=(I.out.frz c.out).get B;have c1:=C 1 _ rfl;have a0:=(Co.1 B).1;have V:(k:Int)<L.length:=by omega
    have p:=Cq B;have HR:=af B;clear C B P;go_wp2_with fail;refine(mo (((I.out.s r p)).frz c.out) (N.out.frz c.out) (I.out.n r p)).mono ?_;rintro e w3 ⟨rfl,D⟩;have E:=af (c.out.trans D fI);obtain⟨K,q⟩:∃K,decide (r.st=st)=K:=⟨_,rfl⟩;rw[q];have Q:=af q;clear q D c1 d3 p;have F:∀same,(∀r,L[k]?=some r→same=decide (r.st=st))→same=K:=fun same G=>by rw[G r HR.out,Q.out]
    have H:=af F;clear F;cases K
    ·go_wp2;go_ret2;exact⟨k,true,J.out,fun same G=>by rw[H.out same G,d.out];rfl,E.out⟩
    ·go_wp2;go_ret2;exact⟨k,true,J.out,fun same G=>by rw[H.out same G,d.out];rfl,E.out⟩
 ·go_wp2;go_ret2;obtain⟨k,t,v⟩:=qE L id;exact⟨k,t,v,fun same _=>rfl,h.out⟩
end Go.Proofs.YteebjgfalllbjaaGreatDoor
