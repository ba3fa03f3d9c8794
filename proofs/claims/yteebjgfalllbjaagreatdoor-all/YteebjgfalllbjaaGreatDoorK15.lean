import Derived.Test.YteebjgfalllbjaaGreatDoorK10
import Derived.Test.YteebjgfalllbjaaGreatDoorK14
import Derived.RangeFuncNested
import Derived.RangeFuncBound
import Derived.RangeFuncCalls
import Derived.RangeFuncLeaves
import Derived.RangeFuncFrom
import Derived.Shelf.Abstract
import Derived.Shelf.RegionOpen
import Derived.OwnWalkIn
import Derived.TacticsInMore
import Derived.LoopNIn
import Derived.LoopIn
namespace Go.Proofs.YteebjgfalllbjaaGreatDoor
open Go.RowKit Go.Proofs.Tryz
set_option maxRecDepth 100000
set_option maxHeartbeats 1000000
def aX(w:World)(X J R:Nat)(clock pause:Int)(c:Value):Prop:=w.heap[X]?=some (.cells #[.pointer (some ⟨J,0,none⟩),.pointer (some ⟨R,0,none⟩),.bool false,.int .i64 clock,.int .i64 pause,c] 91 (0,0))
section
variable{w:World}{A B n:Nat}{a:Fn}{ca b:Array Value}{calls writes:Int}{bs:List Value}
theorem l9(p:Int)(j:p<1∨64<p):Calls prog 46 #[.iface 31 (.pointer (some ⟨A,0,none⟩)),.int .i64 p,.func a ca b] w fun e d=>∃v,e= .returned (.tuple #[.pointer none,v])∧bZ d v 8∧Fr (fun _=>False) w d:=by
 by_cases f:p<1
 ·have c:decide (p<1)=true:=by simpa using f
  go_enter func46,ntmps46;go_wp2_with fail;refine(cp _ 8 _).mono ?_;rintro e g ⟨rfl,rfl⟩;go_wp2;go_ret2;exact⟨_,rfl,Or.inr ⟨_,_,rfl,aa _ _,by decide⟩,(Fr.refl _ _).alloc _⟩
 ·have h:64<p:=by omega
  have c:decide (p<1)=false:=by simpa using f
  have i:decide (64<p)=true:=by simpa using h
  go_enter func46,ntmps46;go_wp2_with fail;refine(cp _ 8 _).mono ?_;rintro e g ⟨rfl,rfl⟩;go_wp2;go_ret2;exact⟨_,rfl,Or.inr ⟨_,_,rfl,aa _ _,by decide⟩,(Fr.refl _ _).alloc _⟩
theorem ny{c:Nat}{p:Int}{Q:Ending→World→Prop}(h:Calls prog 46 #[.iface 31 (.pointer (some ⟨A,0,none⟩)),.int .i64 p,.func (.func 47) #[.pointer (some ⟨c,0,none⟩)] #[]] w fun e d=>∃x v,e= .returned (.tuple #[x,v])∧Q e d):Calls prog 33 #[.pointer (some ⟨A,0,none⟩),.int .i64 p,.pointer (some ⟨c,0,none⟩)] w Q:=by have f:=re;go_enter func33,ntmps33;go_wp2_with fail;refine h.mono ?_;rintro e d ⟨x,v,rfl,g⟩;go_wp2;exact g
end
theorem tO(c n:Int)(w:World)(i: -9223372036854775808≤c)(j:c≤9223372036854775807)(d:0<n)(f:n≤1000000):Calls prog 50 #[.int .i64 c,.int .i64 n] w fun e g=>(∃r:Int,e= .returned (.int .i64 r)∧0≤r∧r<n)∧g=w:=by
 have b:¬n=0:=by omega
 by_cases k:c<0
 ·have a:0≤(-(c+1)).tmod n∧(-(c+1)).tmod n<n:=⟨Int.tmod_nonneg n (by omega),Int.tmod_lt_of_pos _ d⟩;have h:=af a;clear a;go_enter func50,ntmps50;go_wp2;go_ret;refine⟨⟨-(c+1).tmod n,rfl,?_⟩,rfl⟩;have:=h.out;rw[Int.neg_tmod]at this;exact this
 ·have a:0≤c%n∧c%n<n:=⟨Int.emod_nonneg _ b,Int.emod_lt_of_pos _ d⟩;go_enter func50,ntmps50;go_wp2;go_ret;exact⟨⟨c%n,rfl,a⟩,rfl⟩
def cR(a:Int):Nat:=if a<0 then 0 else(a%1000).toNat
theorem tZ(a:Int):cR a<1000:=by unfold cR;split<;>omega
theorem vQ(a:Int)(w:World):Calls prog 79 #[.int .i64 a] w fun e c=>e= .returned (.int .i64 (cR a))∧c=w:=by
 by_cases h:a<0
 ·have b:cR a=0:=by simp[cR,h]
  rw[b];clear b;go_enter func79,ntmps79;go_wp2;go_ret;exact⟨rfl,rfl⟩
 ·have b:((cR a:Nat):Int)=a%1000:=by simp[cR,h];omega
  rw[b];clear b;go_enter func79,ntmps79;go_wp2;go_ret;exact⟨rfl,rfl⟩
theorem me:(prog.info? 97).map (fun i=>(i.zero,i.size,i.bytes))=some (some (.agg bJ),128,128):=by kernel_rfl
theorem y4(n j:Nat)(h:j<n):(madeCells bJ n)[j]?=some (.int .u8 0):=by
 have a:j%128<128:=Nat.mod_lt _ (by decide);have b:bJ[j%128]! = .int .u8 0:=by rw[getElem!_pos bJ (j%128) (by rw[bV];exact a)];simp[bJ]
 simp[madeCells,h,bV,b]
theorem yT(n:Nat):(madeCells bJ n).toList=List.replicate n (.int .u8 0):=by
 apply DX;intro i;by_cases h:i<n
 ·rw[E9,CE h,Fl];exact y4 n i h
 ·rw[E9,Cz h,Da (by rw[DM,FN];omega)]
theorem vj{w:World}{a e size g n:Nat}{c:List Value}(h:w.ownsRow a e size (.slice (some ⟨g,0,none⟩) n n) n c):w.heap[g]?=some (.cells c.toArray e (0,0)):=by
 rcases h.2 with⟨b,_⟩|⟨k,f,d,b,l,i,_,_,m,j⟩
 ·cases b
 ·simp only[DW,Cu,Ec,ER,FK]at b;obtain⟨rfl,rfl⟩:=b;rw[i];have:d=c.toArray:=by rw[←j,CO (by simp;omega)]
  rw[this]
def l8(w:World)(a:Int)(e:Ending)(b:World):Prop:=∃A B,e= .returned (.pointer (some ⟨A,0,none⟩))∧w.heap.size≤A∧w.heap.size≤B∧ij b A B (cR a) (.slice none 0 0) 0 0∧cD b B (cR a) (List.replicate (cR a*128) (.int .u8 0))∧Fr (fun _=>False) w b
theorem s9(a:Int)(w:World):Calls prog 39 #[.int .i64 a] w fun e x=>l8 w a e x:=by
 have y:=tZ a;obtain⟨t,hi,d,f,g⟩:=Dn me;have i:∀b:World,b.ownsRow w.heap.size 97 128 (.slice (some ⟨w.heap.size,0,none⟩) (cR a) (cR a)) (cR a) (madeCells bJ (cR a*128)).toList→w.grownBy b none→w.heap.size≤b.heap.size∧ij (b.alloc (.cells (oG w.heap.size (cR a) (.slice none 0 0) 0 0) 96)) b.heap.size w.heap.size (cR a) (.slice none 0 0) 0 0∧cD (b.alloc (.cells (oG w.heap.size (cR a) (.slice none 0 0) 0 0) 96)) w.heap.size (cR a) (List.replicate (cR a*128) (.int .u8 0))∧Fr (fun _=>False) w (b.alloc (.cells (oG w.heap.size (cR a) (.slice none 0 0) 0 0) 96)):=by intro b j c;have m:=vj j;rw[yT]at m;have n:=lt_of_heap m;refine⟨c.size,aa _ _,⟨by rw[ai _ _ _ n];exact m,by simp,fun v u=>by rw[D6]at u;rw[u.2];rfl⟩,((Fr.refl _ _).grown c (fun _ _ h=>by cases h)).alloc _⟩
 have o:=i;clear i;by_cases h:a<0
 ·have k:cR a=0:=by simp[cR,h]
  have l:=af k;clear k;go_enter func39,ntmps39;go_wp2_with (first|(at_make;refine wpList_make_full w rfl (.tmp 6) (.tmp 6) 93 rfl w.heap.size 97 t (.agg bJ) 128 underlying93 hi d f .i64 .i64 0 0 0 rfl rfl rfl rfl ?_ ?_ ?_ ?_;(rw[g];decide);(unfold maxLen;decide);exact Cs _;intro b j c));go_ret;unfold l8;rw[show((cR a:Nat))=0 from l.out]at o⊢;obtain⟨p,q,r,s⟩:=o b j c;exact⟨_,_,rfl,p,Cs _,q,r,s⟩
 ·have k:a%1000=((cR a:Nat):Int):=by simp[cR,h];omega
  have l:=af k;clear k;go_enter func39,ntmps39;go_wp2_with (first|(at_make;refine wpList_make_full w rfl (.tmp 6) (.tmp 6) 93 rfl w.heap.size 97 t (.agg bJ) 128 underlying93 hi d f .i64 .i64 (a%1000) (a%1000) (cR a) rfl rfl l.out l.out ?_ ?_ ?_ ?_;(rw[g];omega);(unfold maxLen;omega);exact Cs _;intro b j c));go_ret;obtain⟨p,q,r,s⟩:=o b j c;exact⟨_,_,rfl,p,Cs _,q,r,s⟩
theorem lX:(prog.info? 3).map (fun i=>(i.zero,i.size,i.bytes))=some (some (.int .i64 0),1,8):=by kernel_rfl
def px(w:World)(r:Nat)(a:List Value)(e:Ending)(b:World):Prop:=∃c d,e= .returned (.pointer (some ⟨c,0,none⟩))∧w.heap.size≤c∧Ac b c d∧b.ownsRow w.heap.size 3 1 d r a∧Fr (fun _=>False) w b
theorem nf{w:World}{q r:Nat}{p:Value}{a:List Value}(f:w.ownsRow q 3 1 p r a)(s:∀v∈a,v.oneCell'=true)(E:r<1000000):Calls prog 18 #[p] w fun e t=>px w r a e t:=by
 obtain⟨u,hi,i,j,k⟩:=Dn lX;rcases f.2 with⟨rfl,rfl⟩|⟨g,l,x,rfl,F,G,y,z,A,H⟩
 ·go_enter func18,ntmps18;go_wp2;go_ret;have m:=D3 (by simpa using f.1);subst m;exact⟨_,_,rfl,Cs _,aa _ _,CT _ _ _ _,(Fr.refl _ _).alloc _⟩
 ·have B:=f.cells (g:=g) rfl;go_enter func18,ntmps18;go_wp2_with (first|(at_builtin;refine DD w rfl (.const (.slice none 0 0)) (.tmp 3) 24 rfl w.heap.size 3 u (.int .i64 0) 1 8 underlying24 hi i j k rfl (by decide) (.slice none 0 0) 0 [] rfl (CT _ _ _ _) ⟨g,0,none⟩ r l a rfl ?_ B s ?_ ?_ ?_ ?_;(have:=f.1;omega);(unfold maxLen;omega);omega;exact Cs _;intro C D b c _;obtain⟨n,nn,o,rfl⟩:∃n nn o,C= .slice n nn o:=by(rcases b.2 with⟨rfl,_⟩|⟨_,_,_,rfl,_⟩<;>exact⟨_,_,_,rfl⟩)));go_ret;have d:D.ownsRow w.heap.size 3 1 (.slice n nn o) r a:=by simpa using b
  exact⟨_,_,rfl,c.size,aa _ _,d.alloc _,((Fr.refl _ _).grown c (fun _ _ h=>by cases h)).alloc _⟩
section
theorem aU{S:Nat→Prop}{w w':World}{a e size n:Nat}{v:Value}{j:List Value}(h:w.ownsRow a e size v n j)(p:Fr S w w')(q:∀b c,w.heap[b]?=some (.cells c e (0,0))→v.ownBlock=some b→¬S b):w'.ownsRow a e size v n j:=by
 refine⟨h.1,?_⟩;rcases h.2 with s|⟨g,f,d,rfl,t,l,rest⟩
 ·exact .inl s
 ·exact .inr ⟨g,f,d,rfl,t,p.keep l (q g d l rfl),rest⟩
theorem zn{w:World}{a e size n:Nat}{v:Value}{f:List Value}(h:w.ownsRow a e size v n f){b:Nat}(c:v.ownBlock=some b):∃cs,w.heap[b]?=some (.cells cs e (0,0)):=by
 rcases h.2 with⟨rfl,_⟩|⟨g,j,d,rfl,_,l,_⟩
 ·cases c
 ·simp only[Value.ownBlock,Cu]at c;subst c;exact⟨d,l⟩
structure WI(w:World)(u W0:Nat)(H E J I fv:Value)(k r st m:Nat)(y i C:List Value)(M:List Nat)(o:List Value):Prop where
 hw:w.heap[W0]?=some (.cells #[H,E,J,I,fv] 80 (0,0))
 hk:w.ownsRow u 3 1 H k y
 hr:w.ownsRow u 3 1 E r i
 hs:w.ownsRow u 165 2 J st C
 hd:w.ownsRow u 105 1 I m (M.map fun D=>Value.pointer (some ⟨D,0,none⟩))
 hf:w.ownsRow u 4 1 fv m o
 ne:∀b,H.ownBlock=some b→E.ownBlock≠some b
 ro:∀v∈i,v.oneCell'=true
 so:∀v∈C,v.oneCell'=true
 w0:u≤W0
section
variable{w w':World}{u W0:Nat}{H E J I fv:Value}{k r st m:Nat}{y i C:List Value}{M:List Nat}{o:List Value}
theorem WI.c0(h:WI w u W0 H E J I fv k r st m y i C M o):w.cell? ⟨W0,0,none⟩=some H:=by rw[Cn w W0 0 _ _ _ h.hw];rfl
theorem WI.c1(h:WI w u W0 H E J I fv k r st m y i C M o):w.cell? ⟨W0,1,none⟩=some E:=by rw[Cn w W0 1 _ _ _ h.hw];rfl
theorem WI.c2(h:WI w u W0 H E J I fv k r st m y i C M o):w.cell? ⟨W0,2,none⟩=some J:=by rw[Cn w W0 2 _ _ _ h.hw];rfl
theorem WI.c3(h:WI w u W0 H E J I fv k r st m y i C M o):w.cell? ⟨W0,3,none⟩=some I:=by rw[Cn w W0 3 _ _ _ h.hw];rfl
theorem WI.c4(h:WI w u W0 H E J I fv k r st m y i C M o):w.cell? ⟨W0,4,none⟩=some fv:=by rw[Cn w W0 4 _ _ _ h.hw];rfl
theorem WI.fz(h:WI w u W0 H E J I fv k r st m y i C M o)(j:Nat):w.frozen? ⟨W0,j,none⟩=false:=CN w W0 j _ _ h.hw
theorem WI.fr{S:Nat→Prop}(h:WI w u W0 H E J I fv k r st m y i C M o)(d:Fr S w w')(e:∀b c t,w.heap[b]?=some (.cells c t (0,0))→t=80∨t=165∨t=105∨t=4→¬S b)(g:∀b,H.ownBlock=some b∨E.ownBlock=some b→¬S b):WI w' u W0 H E J I fv k r st m y i C M o:=⟨d.keep h.hw (e _ _ _ h.hw (by simp)),aU h.hk d (fun b c a f=>g b (.inl f)),aU h.hr d (fun b c a f=>g b (.inr f)),aU h.hs d (fun b c a _=>e _ _ _ a (by simp)),aU h.hd d (fun b c a _=>e _ _ _ a (by simp)),aU h.hf d (fun b c a _=>e _ _ _ a (by simp)),h.ne,h.ro,h.so,h.w0⟩
theorem WI.frz(h:WI w u W0 H E J I fv k r st m y i C M o)(a:Fr (fun _=>False) w w'):WI w' u W0 H E J I fv k r st m y i C M o:=h.fr a (fun _ _ _ _ _=>id) (fun _ _=>id)
end
structure DR where
 D:Nat
 A:Nat
 B:Nat
 Pp:Nat
 n:Nat
 nn:Bool
 x:Option Addr
 pause:Int
 clock:Int
 Lv:Value
 L:List RS
 F:Nat→Prop
 fl:Bool
structure AS where
 id:Int
 st:List SS
 S:SP
 tries:Int
 due:Int
def RS.a(r:RS):AS:=⟨r.id,r.st,r.S,r.tries,r.due⟩
structure DK where
 A:Nat
 B:Nat
 Pp:Nat
 n:Nat
 nn:Bool
 x:Option Addr
 pause:Int
 clock:Int
 L:List AS
 F:Nat→Prop
 fl:Bool
def DR.k(q:DR):DK:=⟨q.A,q.B,q.Pp,q.n,q.nn,q.x,q.pause,q.clock,q.L.map RS.a,q.F,q.fl⟩
def BG(t:TypeId):Prop:=t≠80∧t≠165∧t≠105∧t≠4∧t≠111∧t≠96∧t≠97∧t≠48∧t≠223∧t≠220∧t≠58∧t≠119∧t≠74
def rj(a:List Int):Prop:=a.length≤100000∧∀z∈a,-9223372036854775808≤z∧z≤9223372036854775807
structure AT where
 Dev:World→Nat→DK→List Value→Prop
 fr:∀{S:Nat→Prop} {w w':World} {s:Nat} {q:DK} {bs:List Value},Dev w s q bs→Fr S w w'→¬S q.A→¬S q.B→¬S q.Pp→(∀b,q.F b→¬S b)→Dev w' s q bs
 mono:∀{w:World} {s s':Nat} {q:DK} {bs:List Value},Dev w s q bs→s≤s'→Dev w s' q bs
 new:∀{w:World} {A B Pp n s b1:Nat} {F:Nat→Prop} {lv:Value} {rl:List Int},w.heap[Pp]?=some (.cells #[.slice none 0 0,.slice none 0 0,lv,.int .i64 0] 48 (0,0))→w.ownsRow b1 3 1 lv rl.length (rl.map fun x=>Value.int .i64 x)→b1≤w.heap.size→rj rl→(∀b,lv.ownBlock=some b→F b)→Dev w s ⟨A,B,Pp,n,true,none,0,0,[],F,false⟩ (List.replicate (n*128) (.int .u8 0))
def BV(G:AT)(w:World)(s:Nat)(k:DK):Prop:=∃calls writes a,ij w k.A k.B k.n (.slice none 0 0) calls writes∧cD w k.B k.n a∧0≤calls∧calls≤1000*(s:Int)∧0≤writes∧writes≤1000*(s:Int)∧G.Dev w s k a
variable{G:AT}
structure DI(G:AT)(w:World)(u s:Nat)(q:DR):Prop where
 l:Bg w q.D q.A q.Pp q.n q.nn (.pointer q.x) q.pause q.clock q.Lv
 p:∃lo lm lcap pe pl pa,w.heap[q.Pp]?=some (.cells #[.slice lo lm lcap,pe,pl,pa] 48 (0,0))
 d:BV G w s q.k
 a:Cm w u q.Lv q.L
 ln:q.L.length≤s
 ls:∀r∈q.L,r.S.1≠0∧aO r.id r.st=true
 lo:q.L.Pairwise (fun a b=>a.id<b.id)
 f:∀b,q.F b→u≤b∧∃c t,w.heap[b]?=some (.cells c t (0,0))∧BG t
 b:u≤q.D∧u≤q.A∧u≤q.B∧u≤q.Pp
 n:q.n<1000
def AN(p q:DR):Prop:=p.D≠q.D∧p.A≠q.A∧p.B≠q.B∧p.Pp≠q.Pp∧(∀b,p.F b→¬q.F b)∧∀b,p.Lv.ownBlock=some b→q.Lv.ownBlock≠some b
structure Cl(H E:Value)(i o:List Value)(qs:List DR)(fs:List Bool):Prop where
 pw:qs.Pairwise AN
 fx:o=fs.map Value.bool
 rx:∃rl:List Int,i=rl.map (fun x=>Value.int .i64 x)∧rj rl
 kr:∀q∈qs,∀b,q.F b→H.ownBlock≠some b∧E.ownBlock≠some b
def C1(G:AT)(w:World)(u W0 s:Nat)(a:List DR)(b:List Bool):Prop:=∃H E J I fv k r st y i ch o,WI w u W0 H E J I fv k r st a.length y i (an ch) (a.map DR.D) o∧ch.length=st∧k≤s∧r≤s∧st≤s∧a.length≤s∧(∀q∈a,DI G w u s q)∧Cl H E i o a b
def Inv(G:AT)(w:World)(u W0 s:Nat)(a:List DR):Prop:=C1 G w u W0 s a (a.map DR.fl)
theorem bH{w w':World}{u:Nat}(a:Fr (fun _=>False) w w')(b:u≤w.heap.size):Below u w w':=a.below b (fun _ h=>h.elim)
def fe(K X a b:Int)(s t:ByteArray):Array Value:=#[.int .i64 K,.int .i64 X,.int .i64 a,.int .i64 b,.string s,.string t]
theorem iM{w:World}{W0:Nat}(K X a b:Int)(S T:ByteArray)(c:K<1∨6<K):Calls prog 49 #[.pointer (some ⟨W0,0,none⟩),.agg (fe K X a b S T)] w fun e w'=>e= .returned (.bool false)∧Fr (fun _=>False) w w':=by
 have d:(K==1)=false:=by simp;omega
 have f:(K==2)=false:=by simp;omega
 have g:(K==3)=false:=by simp;omega
 have h:(K==4)=false:=by simp;omega
 have j:(K==5)=false:=by simp;omega
 have l:(K==6)=false:=by simp;omega
 unfold fe;go_enter func49,ntmps49;go_wp2;go_ret;exact⟨rfl,(Fr.refl _ _).alloc _⟩
end
def AS.zero(a:AS):AS:=⟨a.id,a.st,a.S,0,0⟩
def AS.told(a:AS):ST:=⟨a.id,a.S.1,a.S.2,a.st.length,a.tries,a.due⟩
def DK.opened(k:DK)(x:Option Addr)(p:Int)(F:Nat→Prop)(f:Bool):DK:=⟨k.A,k.B,k.Pp,k.n,false,x,p,0,k.L.map AS.zero,F,f⟩
def DK.with(k:DK)(L:List AS)(F:Nat→Prop):DK:=⟨k.A,k.B,k.Pp,k.n,k.nn,k.x,k.pause,k.clock,L,F,k.fl⟩
def dS(a:AS)(L:List AS):List AS:=L.takeWhile (fun b=>decide (b.id<a.id))++a::L.dropWhile (fun b=>decide (b.id<a.id))
def oh(L:List AS)(id:Int)(w:World)(e:Ending)(b:World):Prop:=∃s v,e= .returned (.tuple #[.agg s.cs.toArray,v])∧Fr (fun _=>False) w b∧((∃a∈L,a.id=id∧s=a.told∧bZ b v 0)∨((∀a∈L,a.id≠id)∧s=eR∧bZ b v 9))
def co(a:AS):List Value:=av a.id a.st.length (bz a.st)++a.told.cs
theorem pM(a:AS)(h:a.st.length≤6):(co a).length=20:=by rw[co,Cr,bD _ _ _ (bf _ h)];rfl
def mY(p:Nat×AS):Value:= .pointer (some ⟨p.1,0,none⟩)
structure aG(w:World)(R base:Nat)(room:Int)(ev:Value)(es:List (Nat×AS)):Prop where
 r:w.heap[R]?=some (.cells #[ev,.int .i64 room] 176 (0,0))
 o:w.ownsRow base 136 1 ev es.length (es.map mY)
 e:∀p∈es,base≤p.1∧w.heap[p.1]?=some (.cells (co p.2).toArray 140 (0,0))
def dc(R:Nat)(ev:Value)(es:List (Nat×AS))(b:Nat):Prop:=b=R∨ev.ownBlock=some b∨∃p∈es,b=p.1
section
variable{w w':World}{R base:Nat}{room:Int}{ev:Value}{es:List (Nat×AS)}
theorem aG.fr{S:Nat→Prop}(h:aG w R base room ev es)(a:Fr S w w')(c:∀b,dc R ev es b→¬S b):aG w' R base room ev es:=⟨a.keep h.r (c _ (.inl rfl)),aU h.o a (fun b _ _ f=>c b (.inr (.inl f))),fun p d=>⟨(h.e p d).1,a.keep (h.e p d).2 (c _ (.inr (.inr ⟨p,d,rfl⟩)))⟩⟩
theorem aG.frz(h:aG w R base room ev es)(a:Fr (fun _=>False) w w'):aG w' R base room ev es:=h.fr a (fun _ _=>id)
theorem aG.form(h:aG w R base room ev es):∃b a,ev= .slice b es.length a:=by
 rcases h.o.2 with⟨rfl,c⟩|⟨g,a,d,rfl,_⟩
 ·exact⟨none,0,by rw[c]⟩
 ·exact⟨_,_,rfl⟩
theorem aG.c0(h:aG w R base room ev es):w.cell? ⟨R,0,none⟩=some ev:=(Cn w R 0 _ _ _ h.r).trans rfl
theorem aG.c1(h:aG w R base room ev es):w.cell? ⟨R,1,none⟩=some (.int .i64 room):=(Cn w R 1 _ _ _ h.r).trans rfl
theorem jQ{w:World}{base n:Nat}{t:TypeId}{b:Option Addr}{a:Nat}{c:List Value}(h:w.ownsRow base t 1 (.slice b n a) n c){i:Nat}{v:Value}(hi:c[i]?=some v):∃g,b=some ⟨g,0,none⟩∧w.cell? ⟨g,i,none⟩=some v:=by
 rcases h.2 with⟨d,l⟩|⟨g,e,f,d,_,j,_,_,_,k⟩
 ·have:=h.1;have m:=(Co.1 hi).1;omega
 ·cases d
  refine⟨g,rfl,(Cn w g i _ _ _ j).trans ?_⟩;rw[←k]at hi;rw[DE]at hi;split at hi
  ·simpa using hi
  ·cases hi
theorem aG.ent{b:Option Addr}{a:Nat}(h:aG w R base room (.slice b es.length a) es):wO w b (es.map fun p=>(p.1,p.2.id)):=by intro i p c;rw[CK]at c;obtain⟨q,d,rfl⟩:=Do.1 c;obtain⟨g,f,j⟩:=jQ h.o (i:=i) (v:=mY q) (by rw[CK,d];rfl);refine⟨g,0,f,by rw[D5];exact j,(Cn w q.1 0 _ _ _ (h.e q (Cq d)).2).trans ?_⟩;simp[co,av]
end
section
variable{w:World}{R base:Nat}{room:Int}{ev:Value}{es:List (Nat×AS)}
def dC(es:List (Nat×AS)):List (Nat×Int):=es.map fun p=>(p.1,p.2.id)
def cd(es:List (Nat×AS)):Prop:=es.Pairwise (fun a b=>a.2.id<b.2.id)
theorem mj(h:cd es):(dC es).Pairwise (fun a b=>a.2<b.2):=by unfold dC;rw[Dw];exact h
theorem qp(h:aG w R base room ev es)(c:cd es)(d:es.length≤100000)(id:Int):Calls prog 99 #[.pointer (some ⟨R,0,none⟩),.int .i64 id] w fun e w'=>tD (dC es) id w e w':=by have f:=re;obtain⟨j,a,rfl⟩:=h.form;have c0:=h.c0;have b:=uW (cap:=a) (es:=dC es) h.ent (by simpa[dC]using d) (mj c) id;rw[show(dC es).length=es.length by simp[dC]]at b;go_enter func99,ntmps99;go_wp2_with fail;refine b.mono ?_;rintro e l ⟨k,t,rfl,g,i⟩;go_wp2;go_ret2;exact⟨k,t,rfl,g,i⟩
def AY(es:List (Nat×AS))(id:Int)(v:Value):Prop:=(∃p∈es,p.2.id=id∧v=mY p)∨((∀p∈es,p.2.id≠id)∧v= .pointer none)
theorem qX(g:cd es){id:Int}{k:Nat}(b:kw (dC es) id k false):∀p∈es,p.2.id≠id:=by
 intro p c e;obtain⟨j,d,rfl⟩:=DZ.1 c;have a:(dC es)[j]?=some (es[j].1,es[j].2.id):=by simp[dC,List.getElem?_eq_getElem d]
 rcases EJ j k with h|h|h
 ·have:=b.2.1 j _ h a;simp at this;omega
 ·subst h;have:=b.2.2.2.2 ⟨_,a,e⟩;simp at this
 ·have f:k<(dC es).length:=by simp[dC];omega
  have i:=b.2.2.1 _ (Cp f);have l:=D7.1 (mj g) k j f (by simp[dC];exact d) h;simp[dC]at i l;omega
theorem gy(h:aG w R base room ev es)(d:cd es)(n:es.length≤100000)(id:Int):Calls prog 67 #[.pointer (some ⟨R,0,none⟩),.int .i64 id] w fun e w'=>∃v,e= .returned v∧AY es id v∧Fr (fun _=>False) w w':=by
 go_enter func67,ntmps67;go_wp2_with fail;refine(qp h d n id).mono ?_;rintro e x ⟨k,t,rfl,f,b⟩;have j:=h.frz b;have c0:=j.c0;cases t
 ·go_wp2;go_ret;exact⟨_,rfl,.inr ⟨qX d f,rfl⟩,b⟩
 ·obtain⟨q,l,c⟩:=f.2.2.2.1 rfl;rw[dC,CK]at l;obtain⟨p,a,rfl⟩:=Do.1 l;obtain⟨y,r,rfl⟩:=h.form;obtain⟨g,rfl,s⟩:=jQ j.o (i:=k) (v:=mY p) (by rw[CK,a];rfl);have u:=(Co.1 a).1;have m:(k:Int)<es.length:=by omega
  unfold mY at s;go_wp2;go_ret;exact⟨_,rfl,.inl ⟨p,Cq a,c,rfl⟩,b⟩
end
theorem aF:(prog.info? 138).map (·.size)=some 6:=by kernel_rfl
section
variable{w:World}{R base:Nat}{room:Int}{ev:Value}{es:List (Nat×AS)}
theorem aG.saga{p:Nat×AS}(h:aG w R base room ev es)(b:p∈es):w.rangeAt p.1 0 (av p.2.id p.2.st.length (bz p.2.st)):=fun j v a=>(Cn w _ (0+j) _ _ _ (h.e p b).2).trans (by
 have c:=(Co.1 a).1;rw[D5,De,co,CI c];exact a)
theorem aG.stand{p:Nat×AS}(h:aG w R base room ev es)(a:p∈es)(b:p.2.st.length≤6):w.rangeAt p.1 14 p.2.told.cs:=fun j v c=>(Cn w _ (14+j) _ _ _ (h.e p a).2).trans (by
 have d:=bD p.2.id p.2.st.length _ (bf _ b);rw[De,co,CG (by omega),d,DJ];exact c)
theorem eJ{w:World}{g:Nat}{cs r:List Value}{t:TypeId}(b:w.heap[g]?=some (.cells cs.toArray t (0,0)))(c:cs.length=14)(a:r.length=14)(d:∀v∈r,v.oneCell'=true):(Instr.storeAt 122 (.pointer (some ⟨g,0,none⟩)) (.agg r.toArray)).run prog w= .ok () (w.setRow g r.toArray):=by have:=au (P:=prog) (o:=0) (ty:=122) (vs:=r) b (by omega) d (by rw[bK,a]);rwa[show splice cs 0 r=r from by simp[splice,a,c]]at this
theorem iS:iO.length=14:=bD _ _ _ (bf _ (by simp))
theorem is(h:aG w R base room ev es)(s:cd es)(t:es.length≤100000)(u:∀p∈es,p.2.st.length≤6)(id:Int):Calls prog 58 #[.pointer (some ⟨R,0,none⟩),.int .i64 id] w fun e x=>((∃p∈es,p.2.id=id∧e= .returned (.tuple #[.agg (av p.2.id p.2.st.length (bz p.2.st)).toArray,.bool true]))∨((∀p∈es,p.2.id≠id)∧e= .returned (.tuple #[.agg iO.toArray,.bool false])))∧Fr (fun _=>False) w x:=by
 have d:Fr (fun _=>False) w (w.alloc (.cells iO.toArray 122)):=(Fr.refl _ _).alloc _;have r:=gy (h.frz d) s t id;go_enter func58,ntmps58;go_wp2_with fail;refine r.mono ?_;rintro e k ⟨v,rfl,y,l⟩;have o:=(h.frz d).frz l;have hF:=d.trans l fI;have m:=l.keep (aa _ _) jI;clear d l r h;rcases y with⟨p,n,g,rfl⟩|⟨i,rfl⟩
 ·have z:=o.saga n;have q:=bD p.2.id p.2.st.length _ (bf _ (u p n));have b:=eJ m iS q (eD _ _ _);have c:=CA k w.heap.size _ (av p.2.id p.2.st.length (bz p.2.st)).toArray 122 (0,0) m;obtain⟨j,a⟩:=aw (k.setRow w.heap.size (av p.2.id p.2.st.length (bz p.2.st)).toArray);have f:Fr (fun _=>False) w j:=by rw[a.out];exact hF.setRow _ (fun h=>by omega) _
  rw[←a.out]at b c;have B:Hid (∃p∈es,p.2.id=id∧Ending.returned (.tuple #[.agg (av p.2.id p.2.st.length (bz p.2.st)).toArray,.bool true])=Ending.returned (.tuple #[.agg (av p.2.id p.2.st.length (bz p.2.st)).toArray,.bool true])):=⟨p,n,g,rfl⟩;unfold mY;clear a o hF;go_wp2_with (first|(refine CC rfl 122 _ rfl p.1 0 ?_ _ _ z underlying122 rfl ?_ ?_;rfl;(rw[bK,q]))|(refine ae 122 (w':=j) _ _ rfl rfl ?_ ?_;exact b));refine CJ (ay Tryz.results58 _ _ w.heap.size 122 _ (0,0) _ rfl c underlying122 rfl (by rw[bK,Df,q])) rfl ⟨.inl ⟨p,n,g,rfl⟩,f⟩
 ·have b:=eJ m iS iS (eD _ _ _);have c:=CA k w.heap.size _ iO.toArray 122 (0,0) m;obtain⟨j,a⟩:=aw (k.setRow w.heap.size iO.toArray);have f:Fr (fun _=>False) w j:=by rw[a.out];exact hF.setRow _ (fun h=>by omega) _
  rw[←a.out]at b c;have A:=af i;clear a o hF i;go_wp2_with (first|(refine ae 122 (w':=j) _ _ rfl rfl ?_ ?_;exact b));refine CJ (ay Tryz.results58 _ _ w.heap.size 122 _ (0,0) _ rfl c underlying122 rfl (by kernel_rfl)) rfl ⟨.inr ⟨A.out,rfl⟩,f⟩
theorem oS(id:Int)(st:List SS)(w:World)(f:st.length≤6):Calls prog 90 #[.agg (av id st.length (bz st)).toArray] w fun e b=>e= .returned (.int .i64 (2*st.length))∧Fr (fun _=>False) w b:=by
 have a:=aa w (.cells (av id st.length (bz st)).toArray 122);have c1:(w.alloc (.cells (av id st.length (bz st)).toArray 122)).cell? ⟨w.heap.size,1,none⟩=some (.int .i64 st.length):=(Cn _ _ 1 _ _ _ a).trans rfl;have c:Fr (fun _=>False) w (w.alloc (.cells (av id st.length (bz st)).toArray 122)):=(Fr.refl _ _).alloc _;have d:(st.length:Int)≤6:=by omega
 go_enter func90,ntmps90;go_wp2;go_ret;exact⟨by go_num,c⟩
theorem qk{ρ:Operand→Value}{o:Oper}{x y:Operand}{a b:Int}(c:o.op= .binOp .leq 3 x y 3)(d:ρ x= .int .i64 a)(e:ρ y= .int .i64 b)(w:World):(execOp ρ o).run prog w= .ok (.value (.bool (decide (a≤b)))) w:=by simp only[execOp,c,d,e];kernel_rfl
theorem dW{w:World}{g:Nat}{id:Int}{st:List SS}{t:TypeId}(h:w.heap[g]?=some (.cells (av id st.length (bz st)).toArray t (0,0)))(a:st.length≤6):(Instr.loadAt 122 (.pointer (some ⟨g,0,none⟩))).run prog w= .ok (.agg (av id st.length (bz st)).toArray) w:=Dq w g 0 122 (av id st.length (bz st)) _ (fun j v b=>(Cn w g (0+j) _ _ _ h).trans (by simpa using b)) underlying122 rfl (by rw[bK,bD _ _ _ (bf _ a)])
theorem oj(h:aG w R base room ev es)(id:Int)(st:List SS)(m:st.length≤6):Calls prog 59 #[.pointer (some ⟨R,0,none⟩),.agg (av id st.length (bz st)).toArray] w fun e f=>e= .returned (.bool (decide (2*(st.length:Int)≤room)))∧Fr (fun _=>False) w f:=by
 have g:=aa w (.cells (av id st.length (bz st)).toArray 122);have j:Fr (fun _=>False) w (w.alloc (.cells (av id st.length (bz st)).toArray 122)):=(Fr.refl _ _).alloc _;have n:=h.frz j;go_enter func59,ntmps59;go_wp2;obtain⟨W,k⟩:=aw ((w.alloc (.cells (av id st.length (bz st)).toArray 122)).drew);have a:Fr (fun _=>False) (w.alloc (.cells (av id st.length (bz st)).toArray 122)) W:=by rw[k.out];exact(Fr.refl _ _).drew
 let S:World→Prop:=fun f=>f.cell? ⟨R,1,none⟩=some (.int .i64 room)∧f.heap[w.heap.size]?=some (.cells (av id st.length (bz st)).toArray 122 (0,0))
 have b:S W:=⟨(n.frz a).c1,a.keep g jI⟩;refine dZ S k ?_;clear k;refine ig 0 5 122 3 (.agg (av id st.length (bz st)).toArray) ⟨w.heap.size,0,none⟩ rfl (fun _ l=>dW l.2 m) b ?_;refine bM 2 7 0 (.pointer (some ⟨R,0,none⟩)) rfl b ?_;refine d4 3 8 7 (.pointer (some ⟨R,0,none⟩)) rfl b ?_;refine bT 4 9 176 8 1 (.pointer (some ⟨R,1,none⟩)) rfl b ?_;refine cU 5 10 3 9 (.int .i64 room) ⟨R,1,none⟩ rfl (fun _ l=>l.1) underlying3 b ?_;simp only[Act.put,aC,aB,aE];refine dN 1 6 90 #[.tmp 5] #[.agg (av id st.length (bz st)).toArray] rfl ?_;refine(oS id st W m).mono ?_;rintro e o ⟨rfl,c⟩;have d:S o:=⟨c.cell b.1 jI,c.keep b.2 jI⟩;refine⟨_,rfl,d,?_⟩;simp only[Act.put,aC,aB,aE];refine eW (S:=S) (i:=6) (oi:=⟨some 11,.binOp .leq 3 (.tmp 6) (.tmp 10) 3,_,_,_,none⟩) (v:= .bool (decide (2*(st.length:Int)≤room))) rfl (Or.inl ⟨rfl,fun f _=>qk rfl rfl rfl f⟩) d ?_;refine mB 7 4 11 (.bool (decide (2*(st.length:Int)≤room))) rfl d ?_;simp only[Act.put,aC,aB,aE];refine dn ?_;go_wp2;go_ret;exact⟨rfl,(j.trans a fI).trans c fI⟩
theorem bx:(prog.info? 42).map (·.size)=some 6:=by kernel_rfl
theorem ST.len(s:ST):s.cs.length=6:=rfl
theorem ST.one(s:ST):∀v∈s.cs,v.oneCell'=true:=by intro v a;simp only[ST.cs,CF,Dy,EF]at a;rcases a with rfl|rfl|rfl|rfl|rfl|rfl<;>rfl
theorem bp{w:World}{g:Nat}{cs r:List Value}{t ty:TypeId}(b:w.heap[g]?=some (.cells cs.toArray t (0,0)))(c:cs.length=6)(a:r.length=6)(d:∀v∈r,v.oneCell'=true)(hi:(prog.info? ty).map (·.size)=some 6):(Instr.storeAt ty (.pointer (some ⟨g,0,none⟩)) (.agg r.toArray)).run prog w= .ok () (w.setRow g r.toArray):=by have:=au (P:=prog) (o:=0) (ty:=ty) (vs:=r) b (by omega) d (by rw[hi,a]);rwa[show splice cs 0 r=r from by simp[splice,a,c]]at this
theorem ni(h:aG w R base room ev es)(r:cd es)(s:es.length≤100000)(t:∀p∈es,p.2.st.length≤6)(id:Int):Calls prog 44 #[.pointer (some ⟨R,0,none⟩),.int .i64 id] w fun e u=>((∃p∈es,p.2.id=id∧e= .returned (.tuple #[.agg p.2.told.cs.toArray,.bool true]))∨((∀p∈es,p.2.id≠id)∧e= .returned (.tuple #[.agg eR.cs.toArray,.bool false])))∧Fr (fun _=>False) w u:=by
 have d:Fr (fun _=>False) w (w.alloc (.cells eR.cs.toArray 42)):=(Fr.refl _ _).alloc _;have q:=gy (h.frz d) r s id;go_enter func44,ntmps44;go_wp2_with fail;refine q.mono ?_;rintro e j ⟨v,rfl,x,k⟩;have m:=(h.frz d).frz k;have hF:=d.trans k fI;have l:=k.keep (aa _ _) jI;clear d k q h;rcases x with⟨p,n,o,rfl⟩|⟨g,rfl⟩
 ·have y:=m.stand n (t p n);have b:=bp (ty:=42) l rfl p.2.told.len p.2.told.one bx;have c:=CA j w.heap.size _ p.2.told.cs.toArray 42 (0,0) l;obtain⟨i,a⟩:=aw (j.setRow w.heap.size p.2.told.cs.toArray);have f:Fr (fun _=>False) w i:=by rw[a.out];exact hF.setRow _ (fun h=>by omega) _
  rw[←a.out]at b c;unfold mY;clear a m hF;go_wp2_with (first|(refine CC rfl 138 _ rfl p.1 14 ?_ _ _ y underlying138 rfl ?_ ?_;rfl;exact aF)|(refine ae 42 (w':=i) _ _ rfl rfl ?_ ?_;exact b));refine CJ (ay Tryz.results44 _ _ w.heap.size 42 _ (0,0) _ rfl c underlying42 rfl bx) rfl ⟨.inl ⟨p,n,o,rfl⟩,f⟩
 ·have z:=af g;have b:=bp (ty:=42) l rfl eR.len eR.one bx;have c:=CA j w.heap.size _ eR.cs.toArray 42 (0,0) l;obtain⟨i,a⟩:=aw (j.setRow w.heap.size eR.cs.toArray);have f:Fr (fun _=>False) w i:=by rw[a.out];exact hF.setRow _ (fun h=>by omega) _
  rw[←a.out]at b c;clear a m hF g;go_wp2_with (first|(refine ae 42 (w':=i) _ _ rfl rfl ?_ ?_;exact b));refine CJ (ay Tryz.results44 _ _ w.heap.size 42 _ (0,0) _ rfl c underlying42 rfl bx) rfl ⟨.inr ⟨z.out,rfl⟩,f⟩
end
section
open Go.Shelf
theorem aX.c{w:World}{X J R:Nat}{clock pause:Int}{a:Value}(h:aX w X J R clock pause a){i:Nat}{v:Value}(hi:#[Value.pointer (some ⟨J,0,none⟩),.pointer (some ⟨R,0,none⟩),.bool false,.int .i64 clock,.int .i64 pause,a][i]?=some v):w.cell? ⟨X,i,none⟩=some v:=(Cn w X i _ _ _ h).trans hi
theorem tK(x:Addr)(w:World):Calls prog 48 #[.pointer (some x)] w fun e a=>e= .returned (.func (.func 78) #[] #[.pointer (some ⟨w.heap.size,0,none⟩)])∧a=w.alloc (.cells #[.pointer (some x)] 32):=by have b:=re;go_enter func48,ntmps48;go_wp2;go_ret;exact⟨rfl,rfl⟩
theorem jJ{w a:World}(h:Fr (fun _=>False) w a):w.grownBy a none:=⟨h.os,h.tape,h.output,h.size,fun k b _=>h.block k b jI⟩
end
section
variable{w:World}{X J R base:Nat}{clock pause room:Int}{b ev:Value}{es:List (Nat×AS)}
theorem oa(I:w.cell? ⟨X,1,none⟩=some (.pointer (some ⟨R,0,none⟩)))(h:aG w R base room ev es)(L:cd es)(M:es.length≤100000)(N:∀p∈es,p.2.st.length≤6)(id:Int):Calls prog 24 #[.pointer (some ⟨X,0,none⟩),.int .i64 id] w fun e O=>oh (es.map (·.2)) id w e O:=by
 have n:Fr (fun _=>False) w (w.alloc (.cells eR.cs.toArray 42)):=(Fr.refl _ _).alloc _;have K:=ni (h.frz n) L M N id;have c1:(w.alloc (.cells #[.int .i64 0,.int .i64 0,.int .i64 0,.int .i64 0,.int .i64 0,.int .i64 0] 42)).cell? ⟨X,1,none⟩=some (.pointer (some ⟨R,0,none⟩)):=n.cell I jI;go_enter func24,ntmps24;go_wp2_with fail;refine K.mono ?_;rintro e i ⟨D,E⟩;have hF:=n.trans E fI;have u:=E.keep (aa _ _) jI;clear n E K h I c1;have k:(i.alloc (.cells eR.cs.toArray 42)).heap[i.heap.size]?=some (.cells eR.cs.toArray 42 (0,0)):=aa _ _;have c:Fr (fun _=>False) i (i.alloc (.cells eR.cs.toArray 42)):=(Fr.refl _ _).alloc _;have P:=lt_of_heap u;have l:∀s:ST,∃d x:World,(Instr.storeAt 42 (.pointer (some ⟨i.heap.size,0,none⟩)) (.agg s.cs.toArray)).run prog (i.alloc (.cells eR.cs.toArray 42))= .ok () d∧d.rangeAt i.heap.size 0 s.cs∧(Instr.storeAt 42 (.pointer (some ⟨w.heap.size,0,none⟩)) (.agg s.cs.toArray)).run prog d= .ok () x∧x.heap[w.heap.size]?=some (.cells s.cs.toArray 42 (0,0))∧Fr (fun _=>False) w x:=by
  intro s;have o:=bp (ty:=42) k rfl s.len s.one bx;have y:=CA (i.alloc (.cells eR.cs.toArray 42)) i.heap.size _ s.cs.toArray 42 (0,0) k;have C:((i.alloc (.cells eR.cs.toArray 42)).setRow i.heap.size s.cs.toArray).heap[w.heap.size]?=some (.cells eR.cs.toArray 42 (0,0)):=by rw[DB _ _ _ _ (by omega)];exact c.keep u jI
  refine⟨_,_,o,fun j v D=>(Cn _ _ (0+j) _ _ _ y).trans (by simpa using D),bp (ty:=42) C rfl s.len s.one bx,CA _ _ _ _ _ _ C,?_⟩;exact((hF.trans c fI).setRow _ (fun h=>by omega) _).setRow _ (fun h=>by omega) _
 have f:∀s:ST,∃d:World,(Instr.storeAt 42 (.pointer (some ⟨i.heap.size,0,none⟩)) (.agg s.cs.toArray)).run prog (i.alloc (.cells eR.cs.toArray 42))= .ok () d∧d.heap[w.heap.size]?=some (.cells eR.cs.toArray 42 (0,0))∧Fr (fun _=>False) w d:=by intro s;refine⟨_,bp (ty:=42) k rfl s.len s.one bx,?_,(hF.trans c fI).setRow _ (fun h=>by omega) _⟩;rw[DB _ _ _ _ (by omega)];exact c.keep u jI
 rcases D with⟨p,F,G,rfl⟩|⟨z,rfl⟩
 ·obtain⟨d,x,y,Q,C,q,r⟩:=l p.2.told;clear l f k c hF u;go_wp2_with (first|(refine ae 42 (w':=d) _ _ rfl rfl ?_ ?_;exact y)|(refine CC rfl 42 _ rfl i.heap.size 0 ?_ _ _ Q underlying42 rfl ?_ ?_;rfl;exact bx)|(refine ae 42 (w':=x) _ _ rfl rfl ?_ ?_;exact C));refine CJ (ay Tryz.results24 _ _ w.heap.size 42 _ (0,0) _ rfl q underlying42 rfl bx) rfl ⟨p.2.told,_,rfl,r,.inl ⟨p.2,Cx.2 ⟨p,F,rfl⟩,G,rfl,.inl ⟨rfl,rfl⟩⟩⟩
 ·have S:Hid (∀a∈es.map (·.2),a.id≠id):=by intro a T;obtain⟨p,F,rfl⟩:=Cx.1 T;exact z p F
  obtain⟨d,y,m,H⟩:=f eR;clear l f k c hF u z;have o:=bp (ty:=42) (w:=d.alloc (.cells #[.string ⟨#[83,116,97,116,117,115]⟩,.iface 59 (.int .i64 9)] 119)) (g:=w.heap.size) (cs:=eR.cs) (t:=42) (by rw[ai _ _ _ (lt_of_heap m)];exact m) rfl eR.len eR.one bx;have q:=CA (d.alloc (.cells #[.string ⟨#[83,116,97,116,117,115]⟩,.iface 59 (.int .i64 9)] 119)) w.heap.size _ eR.cs.toArray 42 (0,0) (by rw[ai _ _ _ (lt_of_heap m)];exact m);have A:((d.alloc (.cells #[.string ⟨#[83,116,97,116,117,115]⟩,.iface 59 (.int .i64 9)] 119)).setRow w.heap.size eR.cs.toArray).heap[d.heap.size]?=some (.cells #[.string ⟨#[83,116,97,116,117,115]⟩,.iface 59 (.int .i64 9)] 119 (0,0)):=by rw[DB _ _ _ _ (by have:=lt_of_heap m;omega)];exact aa _ _
  have r:Fr (fun _=>False) w ((d.alloc (.cells #[.string ⟨#[83,116,97,116,117,115]⟩,.iface 59 (.int .i64 9)] 119)).setRow w.heap.size eR.cs.toArray):=(H.alloc _).setRow _ (fun h=>by omega) _;obtain⟨U,B⟩:=aw ((d.alloc (.cells #[.string ⟨#[83,116,97,116,117,115]⟩,.iface 59 (.int .i64 9)] 119)).setRow w.heap.size eR.cs.toArray);rw[←B.out]at o q A r;clear B;go_wp2_with (first|(refine ae 42 (w':=d) _ _ rfl rfl ?_ ?_;exact y));refine(cp _ 9 _).mono ?_;rintro e V ⟨rfl,rfl⟩;go_wp2_with (first|(refine ae 42 (w':=U) _ _ rfl rfl ?_ ?_;exact o));refine CJ (ay Tryz.results24 _ _ w.heap.size 42 _ (0,0) _ rfl q underlying42 rfl bx) rfl ⟨eR,_,rfl,r,.inr ⟨S.out,rfl,.inr ⟨_,_,rfl,A,by decide⟩⟩⟩
theorem sQ(a:aX w X J R clock pause b)(h:aG w R base room ev es)(d:cd es)(f:es.length≤100000)(g:∀p∈es,p.2.st.length≤6)(id:Int):Calls prog 24 #[.pointer (some ⟨X,0,none⟩),.int .i64 id] w fun e j=>oh (es.map (·.2)) id w e j:=oa (a.c (i:=1) rfl) h d f g id
end
end Go.Proofs.YteebjgfalllbjaaGreatDoor
