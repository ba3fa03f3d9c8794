import Derived.Test.YteebjgfalllbjaaGreatDoorK1
import Derived.Test.YteebjgfalllbjaaGreatDoorK2
namespace Go.Proofs.YteebjgfalllbjaaGreatDoor
open Go.RowKit Go.Proofs.Tryz
set_option maxRecDepth 100000
set_option maxHeartbeats 4000000
section
open Go.Extern.Stop Go.Stop Go.Extern
theorem Bk(g b:Nat)(a:Addr)(k:Int)(c:Value)(w:World)(m:w.cell? a=some (.pointer (some ⟨b,0,none⟩)))(e:a.block<w.heap.size)(i:w.cell? ⟨g,1,none⟩=some (.iface 59 (.int .i64 k)))(f:w.cell? ⟨b,0,none⟩=some c)(n:w.frozen? ⟨b,0,none⟩=false):Calls prog 71 #[.iface 117 (.pointer (some ⟨g,0,none⟩)),.iface 99 (.pointer (some ⟨b,0,none⟩)),.agg #[.pointer (some ⟨4,99,none⟩),.pointer (some a),.int .u64 150],.iface 198 (.agg #[.pointer (some ⟨4,59,none⟩)])] w fun ev j=>ev= .returned (.bool true)∧j.cell? ⟨b,0,none⟩=some (.int .i64 k)∧Fr (· =b) w j:=by
 have o:=@run_callFunc_extern prog 68 _ (fun args=>ReflectliteValue.unpack (args.getD 0 (.tuple #[]))) func68 (by kernel_rfl) (by kernel_rfl) (by kernel_rfl) (by kernel_rfl);have p:=@run_callFunc_extern prog 106 _ ReflectliteType.typeOf func106 (by kernel_rfl) (by kernel_rfl) (by kernel_rfl) (by kernel_rfl);have l:=@run_callFunc_extern prog 217 _ (ReflectliteType.relation "AssignableTo" ReflectliteType.assignableTo) func217 (by kernel_rfl) (by kernel_rfl) (by kernel_rfl) (by kernel_rfl);have q:=@run_callFunc_extern prog 107 _ (ReflectliteValue.method (ReflectliteValue.valueError "reflectlite.Value.Elem" 0) ReflectliteValue.elem) func107 (by kernel_rfl) (by kernel_rfl) (by kernel_rfl) (by kernel_rfl);have r:=@run_callFunc_extern prog 108 _ ReflectliteValue.set func108 (by kernel_rfl) (by kernel_rfl) (by kernel_rfl) (by kernel_rfl);have t:=mg;have u:=lY;have v:=dF;have x:=lP;have y:=mO;have z:=kK;have A:=hU;have B:=gZ;have C:=kP;have h:g<w.heap.size:=Cw w _ i;have d:b<w.heap.size:=Cw w _ f;have s:(w.alloc (.cells #[.pointer (some ⟨4,99,none⟩),.pointer (some a),.int .u64 150] 144)).cell? ⟨g,1,none⟩=some (.iface 59 (.int .i64 k)):=by rw[CD _ _ ⟨g,1,none⟩ h];exact i
 have D:=nU a ⟨b,0,none⟩ (w.alloc (.cells #[.pointer (some ⟨4,99,none⟩),.pointer (some a),.int .u64 150] 144)) (by rw[CD _ _ a e];exact m);have st:=ua ⟨b,0,none⟩ ⟨w.heap.size+1,0,none⟩ k c ((w.alloc (.cells #[.pointer (some ⟨4,99,none⟩),.pointer (some a),.int .u64 150] 144)).alloc (.cells #[.int .i64 k] 59)) (by rw[Ft _ _ _ _ (by simp)];rfl) (by rw[CD _ _ ⟨b,0,none⟩ (by simp;omega),CD _ _ ⟨b,0,none⟩ d];exact f) (by rw[Dp _ _ ⟨b,0,none⟩ (by simp;omega),Dp _ _ ⟨b,0,none⟩ (Ff d)];exact n);go_enter func71,ntmps71;go_wp2;refine wp_loop_rounds 2 ?_;rw[Fu];go_wp2;rw[Fu];go_wp2;go_ret;refine⟨rfl,?_,?_⟩
 ·rw[CD _ _ _ (by simp;omega),CD _ _ _ (by simp;omega)];exact Ex _ _ _ f
 ·exact((Fr.set1 w b 0 _).alloc _).alloc _
theorem AR(g a:Nat)(k:Int)(b:Value)(w:World)(j:w.cell? ⟨0,0,none⟩=some (.iface 198 (.agg #[.pointer (some ⟨4,36,none⟩)])))(l:w.cell? ⟨g,1,none⟩=some (.iface 59 (.int .i64 k)))(m:w.cell? ⟨a,0,none⟩=some b)(y:w.frozen? ⟨a,0,none⟩=false):Calls prog 45 #[.iface 117 (.pointer (some ⟨g,0,none⟩)),.iface 99 (.pointer (some ⟨a,0,none⟩))] w fun ev n=>ev= .returned (.bool true)∧n.cell? ⟨a,0,none⟩=some (.int .i64 k)∧Fr (· =a) w n:=by
 have z:=@run_callFunc_extern prog 68 _ (fun args=>ReflectliteValue.unpack (args.getD 0 (.tuple #[]))) func68 (by kernel_rfl) (by kernel_rfl) (by kernel_rfl) (by kernel_rfl);have A:=@run_callFunc_extern prog 69 _ (ReflectliteValue.methodAny (ReflectliteValue.valueError "reflectlite.Value.Type" 0) (fun t _ _ _=>ReflectliteType.toType t)) func69 (by kernel_rfl) (by kernel_rfl) (by kernel_rfl) (by kernel_rfl);have B:=@run_callFunc_extern prog 70 _ (ReflectliteValue.method (ReflectliteValue.valueError "reflectlite.Value.IsNil" 0) ReflectliteValue.isNil) func70 (by kernel_rfl) (by kernel_rfl) (by kernel_rfl) (by kernel_rfl);have o:=@run_callFunc_extern prog 201 _ (ReflectliteType.abiMethod fun t=>do pure (.int .u8 (←Rtype.kind t))) func201 (by kernel_rfl) (by kernel_rfl) (by kernel_rfl) (by kernel_rfl);have p:=@run_callFunc_extern prog 219 _ (ReflectliteType.method ReflectliteType.elem) func219 (by kernel_rfl) (by kernel_rfl) (by kernel_rfl) (by kernel_rfl);have r:=@run_callFunc_extern prog 220 _ (ReflectliteType.relation "Implements" ReflectliteType.implements_) func220 (by kernel_rfl) (by kernel_rfl) (by kernel_rfl) (by kernel_rfl);have E:=kV;have F:=pN;have G:=gh;have H:=po;have I:=qm;have J:=gj;have K:=dG;have L:=py;have M:=iL;have C:g<w.heap.size:=Cw w _ l;have c:a<w.heap.size:=Cw w _ m;have d:0<w.heap.size:=Cw w _ j;have N:=nY ⟨w.heap.size,0,none⟩ ⟨a,0,none⟩ ((w.alloc (.cells #[.pointer (some ⟨a,0,none⟩)] 99)).alloc (.cells #[.pointer (some ⟨4,99,none⟩),.pointer (some ⟨w.heap.size,0,none⟩),.int .u64 150] 144)) (by simp)
 have D:((w.alloc (.cells #[.pointer (some ⟨a,0,none⟩)] 99)).alloc (.cells #[.pointer (some ⟨4,99,none⟩),.pointer (some ⟨w.heap.size,0,none⟩),.int .u64 150] 144)).cell? ⟨0,0,none⟩=some (.iface 198 (.agg #[.pointer (some ⟨4,36,none⟩)])):=by rw[CD _ _ ⟨0,0,none⟩ (by simp),CD _ _ ⟨0,0,none⟩ d];exact j
 have s:∀(q:Addr) (v:Value),w.cell? q=some v→((w.alloc (.cells #[.pointer (some ⟨a,0,none⟩)] 99)).alloc (.cells #[.pointer (some ⟨4,99,none⟩),.pointer (some ⟨w.heap.size,0,none⟩),.int .u64 150] 144)).cell? q=some v:=fun q v u=>by have f:=Cw w _ u;rw[CD _ _ q (by simp;omega),CD _ _ q f];exact u
 have x:=af s;clear s;go_enter func45,ntmps45;go_wp2_with fail;refine(Bk g a ⟨w.heap.size,0,none⟩ k b _ ?_ ?_ ?_ ?_ ?_).mono ?_
 ·simp
 ·simp;omega
 ·exact x.out _ _ l
 ·exact x.out _ _ m
 ·rw[Dp _ _ ⟨a,0,none⟩ (by simp;omega),Dp _ _ ⟨a,0,none⟩ (Ff c)];exact y
 rintro e O ⟨rfl,h,i⟩;go_wp2;go_ret;exact⟨rfl,h,((Fr.refl _ _).alloc _|>.alloc _).trans i fI⟩
theorem q8(w:World):Calls prog 29 #[.nilIface] w fun e a=>e= .returned (.int .i64 0)∧a=w:=by go_enter func29,ntmps29;go_wp2;go_ret;exact⟨rfl,rfl⟩
theorem xI(g:Nat)(k:Int)(w:World)(d:w.cell? ⟨0,0,none⟩=some (.iface 198 (.agg #[.pointer (some ⟨4,36,none⟩)])))(f:w.cell? ⟨g,1,none⟩=some (.iface 59 (.int .i64 k))):Calls prog 29 #[.iface 117 (.pointer (some ⟨g,0,none⟩))] w fun e i=>e= .returned (.int .i64 k)∧Fr (fun _=>False) w i:=by
 have a:g<w.heap.size:=Cw w _ f;have b:0<w.heap.size:=Cw w _ d;go_enter func29,ntmps29;go_wp2_with fail;refine(AR g w.heap.size k (.int .i64 0) _ ?_ ?_ ?_ ?_).mono ?_
 ·rw[CD _ _ ⟨0,0,none⟩ b];exact d
 ·rw[CD _ _ ⟨g,1,none⟩ a];exact f
 ·simp
 ·simp
 rintro e l ⟨rfl,j,c⟩;go_wp2;go_ret;exact⟨rfl,((Fr.refl _ _).alloc _).trans c (fun k m h=>by omega)⟩
end
def bZ(w:World)(v:Value)(k:Int):Prop:=(v= .nilIface∧k=0)∨(∃g s,v= .iface 117 (.pointer (some ⟨g,0,none⟩))∧w.heap[g]?=some (.cells #[.string s,.iface 59 (.int .i64 k)] 119 (0,0))∧k≠0)
theorem bZ.one{w:World}{v:Value}{k:Int}(h:bZ w v k):v.oneCell'=true:=by rcases h with⟨rfl,_⟩|⟨g,s,rfl,_⟩<;>rfl
theorem bZ.fr{S:Nat→Prop}{w a:World}{v:Value}{k:Int}(h:bZ w v k)(f:Fr S w a)(i:∀b c,w.heap[b]?=some (.cells c 119 (0,0))→¬S b):bZ a v k:=by
 rcases h with h|⟨g,s,e,d,j⟩
 ·exact .inl h
 ·exact .inr ⟨g,s,e,f.keep d (i g _ d),j⟩
theorem eS(k:Int)(w:World):Calls prog 80 #[.int .i64 k] w fun e a=>e= .returned (.int .i64 k)∧a=w:=by go_enter func80,ntmps80;go_wp2;go_ret;exact⟨rfl,rfl⟩
def cN(w:World):Prop:=w.cell? ⟨0,0,none⟩=some (.iface 198 (.agg #[.pointer (some ⟨4,36,none⟩)]))∧w.cell? ⟨1,2,none⟩=some (.int .u64 100)
def Gx(g:Nat):Prop:=g=0∨g=1
theorem Gx.le{g:Nat}(h:Gx g):g≤1:=by rcases h with rfl|rfl<;>decide
def NG(S:Nat→Prop):Prop:=∀g,Gx g→¬S g
theorem NG.mono{S T:Nat→Prop}(h:NG T)(a:∀b,S b→T b):NG S:=fun g c d=>h g c (a g d)
theorem ka:NG (fun _=>False):=fun _ _ h=>h
theorem cN.lt{w:World}(h:cN w):1<w.heap.size:=by have a:=Cw w _ h.1;have b:=Cw w _ h.2;simp only at a b;omega
theorem mG{w:World}{v:Value}{k:Int}(h:bZ w v k)(b:cN w):Calls prog 29 #[v] w fun e a=>e= .returned (.int .i64 k)∧Fr (fun _=>False) w a:=by
 rcases h with⟨rfl,rfl⟩|⟨g,s,rfl,c,d⟩
 ·refine(q8 w).mono ?_;rintro e a ⟨rfl,rfl⟩;exact⟨rfl,Fr.refl _ _⟩
 ·exact xI g k w b.1 (by rw[Cn w g 1 _ _ _ c];rfl)
theorem cN.fr{S:Nat→Prop}{w a:World}(h:cN w)(b:Fr S w a)(c:NG S):cN a:=⟨b.cell h.1 (c _ (.inl rfl)),b.cell h.2 (c _ (.inr rfl))⟩
theorem xZ:∀i:Fin 256,100≤i.1→7≤(Lib.len8tab[i.1]?.getD 0).toNat∧(Lib.len8tab[i.1]?.getD 0).toNat≤8:=by decide+kernel
theorem wg(p:Int)(f:100≤p)(g:p<400)(w:World):Calls prog 180 #[.int .u64 p] w fun e b=>∃k:Int,e= .returned (.int .i64 k)∧7≤k∧k≤9∧b=w:=by
 have h:0≤p:=by omega
 by_cases i:p<256
 ·go_enter func180,ntmps180;go_wp2;rename_i c;have d:Lib.len8tab[p.toNat]?.getD 0=(Lib.len8tab[p.toNat]'(by omega)):=by rw[getElem?_pos Lib.len8tab p.toNat (by omega)];rfl
  have a:=xZ ⟨p.toNat,by omega⟩ (by show 100≤p.toNat;omega);simp only at a;rw[d]at a;go_ret;refine⟨_,rfl,?_,?_,rfl⟩
  ·unfold wrap64;omega
  ·unfold wrap64;omega
 ·have j:p/256=1:=by omega
  go_enter func180,ntmps180;go_wp2;have e:Lib.len8 1=1:=by decide+kernel
  go_ret;refine⟨_,rfl,?_,?_,rfl⟩
  ·rw[e];unfold wrap64;omega
  ·rw[e];unfold wrap64;omega
theorem ve(k:Int)(b:7≤k)(c:k≤9)(w:World):Calls prog 181 #[.int .i64 k] w fun e a=>e= .returned (.int .i64 2)∧a=w:=by
 rcases(show k=7∨k=8∨k=9 by omega)with rfl|rfl|rfl
 ·go_enter func181,ntmps181;go_wp2;go_ret;exact⟨rfl,rfl⟩
 ·go_enter func181,ntmps181;go_wp2;go_ret;exact⟨rfl,rfl⟩
 ·go_enter func181,ntmps181;go_wp2;go_ret;exact⟨rfl,rfl⟩
theorem sE(w:World):Calls prog 182 #[.bool true] w fun e a=>e= .returned (.int .i64 1)∧a=w:=by go_enter func182,ntmps182;go_wp2;go_ret;exact⟨rfl,rfl⟩
theorem nb(p:Int)(c:100≤p)(d:p<400)(w:World)(f:cN w):Calls prog 176 #[.int .u64 p] w fun e a=>e= .returned (.int .i64 3)∧Fr (fun _=>False) w a:=by have b:=wg p c d w;have i:=f.2;go_enter func176,ntmps176;go_wp2_with fail;refine b.mono ?_;rintro e a ⟨k,rfl,g,h,rfl⟩;go_wp2_with fail;refine(ve k g h a).mono ?_;rintro e j ⟨rfl,rfl⟩;clear b;go_wp2_with fail;refine(sE _).mono ?_;rintro e l ⟨rfl,rfl⟩;go_wp2;go_ret;exact⟨rfl,Fr.refl _ _⟩
theorem sw(p:Int)(E:100≤p)(F:p<400)(w:World)(g:Nat)(cs:Array Value){ty:TypeId}(d:w.heap[g]?=some (.cells cs ty (0,0)))(c1 c2 c3:Int)(h:cs[1]?=some (.int .u8 c1))(l:cs[2]?=some (.int .u8 c2))(i:cs[3]?=some (.int .u8 c3))(m:Nat):Calls prog 177 #[.slice (some ⟨g,1,none⟩) 3 m,.int .u64 p] w fun e j=>e= .returned (.tuple #[])∧Fr (fun b=>b=g) w j∧∃a b c:Nat,a<256∧b<256∧c<256∧j.cell? ⟨g,1,none⟩=some (.int .u8 a)∧j.cell? ⟨g,2,none⟩=some (.int .u8 b)∧j.cell? ⟨g,3,none⟩=some (.int .u8 c):=by
 have t:=(Cn w g 1 _ _ _ d).trans h;have v:=(Cn w g 2 _ _ _ d).trans l;have x:=(Cn w g 3 _ _ _ d).trans i;have y:=CN w g 1 _ _ d;have z:=CN w g 2 _ _ d;have A:=CN w g 3 _ _ d;go_enter func177,ntmps177;go_wp2;go_loopw [1,4] (fun u B wr=>u= .int .u64 p∧B= .int .i64 3∧wr=w) (fun _ _ _=>0);case atStart=>exact⟨rfl,rfl,rfl⟩
 case round=>
  obtain⟨rfl,rfl,rfl⟩:=hrel;have G:p%100*2<200:=by omega
  have H:IntKind.u32.wrap (p%100*2+1)=p%100*2+1:=by simp[IntKind.wrap,IntKind.signed,IntKind.bits];omega
  have I:p%100*2+1<200:=by omega
  have J:0≤p%100*2:=by omega
  have K:0≤p%100*2+1:=by omega
  go_wp2;go_region;generalize (GetElem.getElem (coll:=ByteArray) (idx:=Nat) (elem:=UInt8) _ ((p%100*2+1).toNat) _)=A3;generalize (GetElem.getElem (coll:=ByteArray) (idx:=Nat) (elem:=UInt8) _ ((p%100*2).toNat) _)=A2;have q:=ag wr g 3 _ _ (.int .u8 (A3.toNat:Nat)) d;have r:=ag _ g 2 _ _ (.int .u8 (A2.toNat:Nat)) q;have f:Fr (fun b=>b=g) wr ((wr.setCell ⟨g,3,none⟩ (.int .u8 (A3.toNat:Nat))).setCell ⟨g,2,none⟩ (.int .u8 (A2.toNat:Nat))).drew:=((Fr.set1 _ _ _ _).trans (Fr.set1 _ _ _ _) fI).drew;obtain⟨W,n⟩:=aw (((wr.setCell ⟨g,3,none⟩ (.int .u8 (A3.toNat:Nat))).setCell ⟨g,2,none⟩ (.int .u8 (A2.toNat:Nat))).drew);have k:W.heap[g]?=some (.cells ((cs.setIfInBounds 3 (.int .u8 (A3.toNat:Nat))).setIfInBounds 2 (.int .u8 (A2.toNat:Nat))) ty (0,0)):=by rw[n.out];exact r
  rw[←n.out]at f⊢;have L:W.cell? ⟨g,1,none⟩=some (.int .u8 c1):=(Cn W g 1 _ _ _ k).trans (by
   rw[Fj (by decide),Fj (by decide)];exact h)
  have M:=CN W g 1 _ _ k;have s:Hid (Fr (fun b=>b=g) wr W∧W.heap[g]?=some (.cells ((cs.setIfInBounds 3 (.int .u8 (A3.toNat:Nat))).setIfInBounds 2 (.int .u8 (A2.toNat:Nat))) ty (0,0))):=⟨f,k⟩;clear q r k f n t v x y z A;go_wp2;go_end0;have C:=(Array.getElem?_eq_some_iff.1 i).1;have o:=ag W g 1 _ _ (.int .u8 (48+p/100)) s.out.2;have D:((48+p/100).toNat:Int)=48+p/100:=by omega
  refine⟨rfl,s.out.1.trans (Fr.set1 _ _ _ _) fI,(48+p/100).toNat,A2.toNat,A3.toNat,by omega,A2.toNat_lt,A3.toNat_lt,?_,?_,?_⟩
  ·refine(Cn _ g 1 _ _ _ o).trans ?_;rw[D];simp[Array.getElem?_setIfInBounds];omega
  ·refine(Cn _ g 2 _ _ _ o).trans ?_;simp[Array.getElem?_setIfInBounds];omega
  ·refine(Cn _ g 3 _ _ _ o).trans ?_;simp[Array.getElem?_setIfInBounds];omega
theorem mZ(p:Int)(v:100≤p)(x:p<400)(w:World)(D:cN w):Calls prog 170 #[.int .i64 p,.int .i64 10] w fun e E=>(∃s,e= .returned (.string s)∧s.size≤100)∧Fr (fun _=>False) w E:=by
 have N:decide ((0:Int)≤p)=true:=by simp;omega
 have O:decide (p<100)=false:=by simp;omega
 have P:¬p<0:=by omega
 obtain⟨W,o⟩:=aw (w.alloc (.cells #[.int .u8 0,.int .u8 0,.int .u8 0,.int .u8 0,.int .u8 0,.int .u8 0,.int .u8 0,.int .u8 0,.int .u8 0,.int .u8 0,.int .u8 0,.int .u8 0,.int .u8 0,.int .u8 0,.int .u8 0,.int .u8 0,.int .u8 0,.int .u8 0,.int .u8 0,.int .u8 0,.int .u8 0,.int .u8 0,.int .u8 0,.int .u8 0] 271));have d:=j9 o;have i:W.heap[w.heap.size]?=some (.cells #[.int .u8 0,.int .u8 0,.int .u8 0,.int .u8 0,.int .u8 0,.int .u8 0,.int .u8 0,.int .u8 0,.int .u8 0,.int .u8 0,.int .u8 0,.int .u8 0,.int .u8 0,.int .u8 0,.int .u8 0,.int .u8 0,.int .u8 0,.int .u8 0,.int .u8 0,.int .u8 0,.int .u8 0,.int .u8 0,.int .u8 0,.int .u8 0] 271 (0,0)):=by rw[o.out];exact aa _ _
 have y:=nb p v x W (D.fr d ka);go_enter func170,ntmps170;go_wp2_with fail;rw[←o.out];refine y.mono ?_;rintro e F ⟨rfl,f⟩;have k:=f.keep i jI;have q:=fun r=>sw p v x F w.heap.size _ k 0 0 0 rfl rfl rfl r;have l:=af (d.trans f fI);obtain⟨g,m⟩:=aw w.heap.size;rw[←m.out]at q⊢;clear y o d i f k;go_wp2_with fail;refine(q 23).mono ?_;rintro e t ⟨rfl,n,a,b,c,G,z,H,A,B,C⟩;have I:(convert 85 9 (.slice (some ⟨g,1,none⟩) 3 23)).run prog t= .ok (.string ⟨#[UInt8.ofNat a,UInt8.ofNat b,UInt8.ofNat c]⟩) t:=run_convert_bytes_back t 85 9 5 ⟨g,1,none⟩ 23 [UInt8.ofNat a,UInt8.ofNat b,UInt8.ofNat c] underlying85 underlying5 underlying9 (fun j J=>by
  have K:=FV G;have L:=FV z;have M:=FV H;rcases j with _|_|_|j
  ·simpa[Addr.add,K]using A
  ·simpa[Addr.add,L]using B
  ·simpa[Addr.add,M]using C
  ·simp at J;omega)
 have u:=af (l.out.trans n (fun b z h=>by have:=m.out;omega));clear q n l A B C;go_wp2;go_ret;exact⟨⟨_,rfl,by show 3≤100;decide⟩,u.out⟩
theorem wQ(p:Int)(h:100≤p)(i:p<400)(w:World)(j:cN w):Calls prog 143 #[.int .i64 p] w fun e b=>(∃s,e= .returned (.string s)∧s.size≤100)∧Fr (fun _=>False) w b:=by
 have d:=mZ p h i w j;have g:Calls prog 160 #[.int .i64 p] w fun e b=>(∃s,e= .returned (.string s)∧s.size≤100)∧Fr (fun _=>False) w b:=by go_enter func160,ntmps160;go_wp2_with fail;refine d.mono ?_;rintro e b ⟨⟨s,rfl,a⟩,c⟩;have f:=af c;clear c d;go_wp2;go_ret;exact⟨⟨_,rfl,a⟩,f.out⟩
 clear d;go_enter func143,ntmps143;go_wp2_with fail;refine g.mono ?_;rintro e b ⟨⟨s,rfl,a⟩,c⟩;have f:=af c;clear c g;go_wp2;go_ret;exact⟨⟨_,rfl,a⟩,f.out⟩
theorem nB(cs:List Value)(w:World):(Instr.box 130 (.agg cs.toArray)).run prog w= .ok (.pointer (some ⟨w.heap.size,0,none⟩)) (w.alloc (.cells cs.toArray 130)):=rfl
def mW:ByteArray:=⟨#[115,97,103,97,115,58,32,97,32,106,111,117,114,110,97,108,44,32,102,111,114,109,32,49]⟩
def je:List Value:=mW.toList.map (fun x=>Value.int .u8 x.toNat)
def bc(n:Nat):List Value:=[.int .u8 1,.int .u8 ((n:Int)/256),.int .u8 ((n:Int)%256)]++(je++List.replicate 101 (Value.int .u8 0))
def kY(n:Nat):List Value:=[.int .u8 1,.int .u8 ((n:Int)/256),.int .u8 ((n:Int)%256)]++List.replicate 125 (Value.int .u8 0)
theorem j5:je.length=24:=by kernel_rfl
theorem cr(n:Nat):(bc n).length=128:=by simp[bc,j5]
theorem nl(n:Nat):∀v∈bc n,v.oneCell'=true:=by intro v a;simp only[bc,je,Cv,CF,Dy,EF,Cx,D6]at a;rcases a with(rfl|rfl|rfl)|⟨_,_,rfl⟩|⟨_,rfl⟩<;>rfl
theorem eL(w:World):(Instr.alloc 130 true (.tuple #[])).run prog w= .ok (.pointer (some ⟨w.heap.size,0,none⟩)) (w.alloc (.cells bJ 130)):=by kernel_rfl
theorem aV:(prog.info? 130).map (·.size)=some 128:=by kernel_rfl
def mR:Array Value:=bJ.setIfInBounds 0 (.int .u8 1)
theorem BL(x y:Value):mR.toList.take 1++([x,y]++mR.toList.drop (1+[x,y].length))=[.int .u8 1,x,y]++List.replicate 125 (Value.int .u8 0):=by kernel_rfl
theorem BS(n:Nat):(kY n).toArray.toList.take 3++je++(kY n).toArray.toList.drop (3+je.length)=bc n:=by kernel_rfl
theorem n6(w:World)(g n:Nat)(e:w.heap[g]?=some (.cells (kY n).toArray 130 (0,0))):(Builtin.copy_ #[85,9] 3 #[.slice (some ⟨g,3,none⟩) 24 24,.string mW]).run prog w= .ok (.int .i64 24) (w.setRow g (bc n).toArray):=by
 have a:=FR prog g 3 130 je 0 (kY n).toArray w e (by rw[j5];simp[kY]) (fun v d=>by simp only[je,Cx]at d;obtain⟨_,_,rfl⟩:=d;rfl);have f:(Builtin.firstCells 1 24 (.string mW)).run prog w= .ok je.toArray w:=by kernel_rfl
 have b:(Builtin.lenOf (.string mW)).run prog w= .ok 24 w:=by kernel_rfl
 have c:(sizeOf 5).run prog w= .ok 1 w:=by kernel_rfl
 have h:Nat.min 24 24=24:=rfl;simp only[Nat.add_zero]at a;rw[BS]at a;simp only[Builtin.copy_,De,List.getElem?_cons_zero,EN,D9,Fe underlying85,CS,b,c,h,f,a,Du];rfl
theorem kB{b:Array Oper}{rest:List Oper}{c:Oper}{a:Act}{w:World}{Q:Exit→Act→World→Prop}(e:c.guard=none)(d:Operand)(i:c.op= .call {callee:= .builtin .copy,args:=#[d,.const (.string mW)],argTypes:=#[85,9]})(j:c.type=3)(g n:Nat)(k:w.heap[g]?=some (.cells (kY n).toArray 130 (0,0)))(l:a.eval d= .slice (some ⟨g,3,none⟩) 24 24)(h:∀f,Hid (f=w.setRow g (bc n).toArray)→wpList prog b Q rest (a.put c.dst (.int .i64 24)) f):wpList prog b Q (c::rest) a w:=FX e fun _ m=>by have o:=n6 w g n k;have p:a.eval (.const (.string mW))= .string mW:=rfl;unfold Oper.wp execOp;simp only[i,j,resolve,invoke,builtin,D9,Du,CS,EC,CY,Ed,l,p,o];exact m _ _ (h _ rfl)
theorem oK(w:World)(n:Nat)(z:n≤400):Calls prog 113 #[.int .i64 n] w fun e p=>e= .returned (.agg (bc n).toArray)∧Fr (fun _=>False) w p:=by
 have u:bJ[0]?=some (.int .u8 0):=by kernel_rfl
 go_enter func113,ntmps113;go_wp2_with (first
  |(refine bR 130 (v:= .pointer (some ⟨w.heap.size,0,none⟩)) (w':=w.alloc (.cells bJ 130)) rfl rfl ?_ ?_;exact eL w)
  |(refine bR 130 (v:= .pointer (some ⟨(w.alloc (.cells bJ 130)).heap.size,0,none⟩)) (w':=(w.alloc (.cells bJ 130)).alloc (.cells bJ 130)) rfl rfl ?_ ?_;exact eL _))
 refine(xJ _ _).mono ?_;rintro e p ⟨rfl,rfl⟩;obtain⟨N,A⟩:=aw w.heap.size;have d:∀o:Obj,(((w.alloc (.cells bJ 130)).alloc (.cells mR 130)).alloc o).heap[w.heap.size+1]?=some (.cells mR 130 (0,0)):=fun o=>by rw[ai _ _ _ (by simp)];exact Di w _ _
 have i:∀o:Obj,(((w.alloc (.cells bJ 130)).alloc (.cells mR 130)).alloc o).heap[w.heap.size+1+1]?=some o:=fun o=>by have:=aa ((w.alloc (.cells bJ 130)).alloc (.cells mR 130)) o;simpa using this
 have k:∀(o:Obj),(((w.alloc (.cells bJ 130)).alloc (.cells mR 130)).alloc o).heap[w.heap.size]?=some (.cells bJ 130 (0,0)):=fun o=>by rw[ai _ _ _ (by simp;omega),ai _ _ _ (by simp)];exact aa _ _
 have a:∀(o:Obj),Fr (fun _=>False) w (((w.alloc (.cells bJ 130)).alloc (.cells mR 130)).alloc o):=fun o=>(((Fr.refl _ _).alloc _).alloc _).alloc _;have t:bJ.setIfInBounds 0 (.int .u8 1)=mR:=rfl;go_wp2_with (first|(refine bC rfl (.tmp 5) (.tmp 11) 85 85 rfl 5 underlying85 ir (w.heap.size+1) 1 2 2 ⟨w.heap.size+1+1,0,none⟩ 2 2 rfl rfl mR 130 (d _) [.int .u8 ((n:Int)/256),.int .u8 ((n:Int)%256)] rfl ?_ ?_ ?_ (kY n) (BL _ _) ?_;exact CZ (i _);(simp[mR,bV]);(simp[Value.oneCell']);intro q b));have l:q.heap[w.heap.size+1]?=some (.cells (kY n).toArray 130 (0,0)):=by rw[b.out];exact CA _ _ _ _ _ _ (d _)
 have m:q.heap[w.heap.size]?=some (.cells bJ 130 (0,0)):=by rw[b.out,DB _ _ _ _ (by omega)];exact k _
 have r:Fr (fun _=>False) w q:=by rw[b.out];exact(a _).setRow _ (fun h=>by omega) _
 clear b d i k a;refine(y6 _ _).mono ?_;rintro e p ⟨rfl,rfl⟩;go_wp2_with (first
  |(refine kB rfl (.tmp 13) rfl rfl (w.heap.size+1) n l rfl ?_;intro g c;have s:g.rangeAt (w.heap.size+1) 0 (bc n):=by(rw[c.out];intro j v x;rw[cell_setRow_same _ _ _ _ _ _ _ l];simpa using x))
  |(refine CC rfl 130 (.tmp 3) rfl (w.heap.size+1) 0 ?_ (bc n) _ s underlying130 rfl ?_ ?_;rfl;(rw[aV,cr]))
  |(refine ae 130 (w':=g.setRow w.heap.size (bc n).toArray) (.tmp 2) (.tmp 15) rfl rfl ?_ ?_;(have f:g.heap[w.heap.size]?=some (.cells bJ.toList.toArray 130 (0,0)):=by(rw[c.out,DB _ _ _ _ (by omega)];simpa using m));(have:=au (P:=prog) (o:=0) (ty:=130) (vs:=bc n) f (by simp[cr,bV]) (nl n) (by rw[aV,cr]));(rw[show splice bJ.toList 0 (bc n)=bc n from by simp[splice,cr,bV]]at this);exact this))
 simp only[Act.put,aC,aB,aE];have f:g.heap[w.heap.size]?=some (.cells bJ 130 (0,0)):=by rw[c.out,DB _ _ _ _ (by omega)];exact m
 have y:=CA g w.heap.size bJ (bc n).toArray 130 (0,0) f;refine CJ (v:= .agg (bc n).toArray) (Dd Tryz.results113 _ _ w.heap.size 130 _ (0,0) _ rfl y underlying130 rfl (by rw[aV];simp[cr])) rfl ⟨rfl,?_⟩;have a:Fr (fun _=>False) w g:=by rw[c.out];exact r.setRow _ (fun h=>by omega) _
 exact a.setRow _ (fun h=>by omega) _
theorem qa(x:Int)(w:World):Calls prog 161 #[.int .i64 x] w fun e a=>e= .returned (.bool false)∧a=w:=by go_enter func161,ntmps161;go_wp2;go_ret;exact⟨rfl,rfl⟩
def j8(x y:Int):Int:=if x<y then-1 else if y<x then 1 else 0
theorem sW(x y:Int)(w:World):Calls prog 146 #[.int .i64 x,.int .i64 y] w fun e c=>e= .returned (.int .i64 (j8 x y))∧c=w:=by
 have a:Hid ((x<y→j8 x y= -1)∧(y<x→j8 x y=1)∧(x=y→j8 x y=0)):=by unfold Hid j8;refine⟨fun h=>by simp[h],fun h=>?_,fun h=>by simp[h]⟩;rw[Cz (by omega),CE h]
 go_enter func146,ntmps146;go_wp2_with fail;refine(qa x w).mono ?_;rintro e g ⟨rfl,rfl⟩;go_wp2_with fail;refine(qa y _).mono ?_;rintro e i ⟨rfl,rfl⟩;by_cases b:x<y
 ·have d:decide (x<y)=true:=by simpa using b
  go_wp2;go_ret;exact⟨by rw[a.out.1 b];rfl,rfl⟩
 ·by_cases f:y<x
  ·go_wp2;go_ret;exact⟨by rw[a.out.2.1 f];rfl,rfl⟩
  ·go_wp2;go_ret;exact⟨by rw[a.out.2.2 (by omega)];rfl,rfl⟩
theorem nZ{w:World}{a:Nat}{x:Int}(c:w.cell? ⟨a,0,none⟩=some (.int .i64 x))(y:Int):Calls prog 145 #[.pointer (some ⟨a,0,none⟩),.int .i64 y] w fun e b=>e= .returned (.int .i64 (j8 x y))∧b=w:=by go_enter func145,ntmps145;go_wp2_with fail;refine(sW x y w).mono ?_;rintro e d ⟨rfl,rfl⟩;go_wp2;go_ret;exact⟨rfl,rfl⟩
def wO(w:World)(a:Option Addr)(b:List (Nat×Int)):Prop:=∀i p,b[i]?=some p→∃g off,a=some ⟨g,off,none⟩∧w.cell? ⟨g,off+i,none⟩=some (.pointer (some ⟨p.1,0,none⟩))∧w.cell? ⟨p.1,0,none⟩=some (.int .i64 p.2)
def kw(a:List (Nat×Int))(id:Int)(k:Nat)(t:Bool):Prop:=k≤a.length∧(∀j p,j<k→a[j]?=some p→p.2<id)∧(∀p,a[k]?=some p→id≤p.2)∧(t=true↔∃p,a[k]?=some p∧p.2=id)
def tD(a:List (Nat×Int))(id:Int)(w:World)(e:Ending)(b:World):Prop:=∃k t,e= .returned (.tuple #[.int .i64 ((k:Nat):Int),.bool t])∧kw a id k t∧Fr (fun _=>False) w b
theorem uW{w:World}{H:Option Addr}{cap:Nat}{es:List (Nat×Int)}(I:wO w H es)(V:es.length≤100000)(J:es.Pairwise (fun a b=>a.2<b.2))(id:Int):Calls prog 144 #[.slice H es.length cap,.int .i64 id,.func (.func 145) #[] #[]] w fun e M=>tD es id w e M:=by
 have K:=af I;have N:=af J;clear I J;go_enter func144,ntmps144;go_wp2;go_loopw [9,10] (fun a b wr=>∃lo hi:Nat,a= .int .i64 lo∧b= .int .i64 hi∧lo≤hi∧hi≤es.length∧Hid (Fr (fun _=>False) w wr)∧Hid ((∀j p,j<lo→es[j]?=some p→p.2<id)∧(∀j p,hi≤j→es[j]?=some p→id≤p.2))) (fun a b _=>(intOf b).toNat-(intOf a).toNat);case atStart=>exact⟨0,es.length,rfl,rfl,CH _,Cs _,Fr.refl _ _,(⟨fun j _ r=>absurd r (by omega),fun j p r i=>by have:=(Co.1 i).1;omega⟩:(∀j p,j<0→es[j]?=some p→p.2<id)∧(∀j p,es.length≤j→es[j]?=some p→id≤p.2))⟩
 case round=>
  obtain⟨lo,hi,rfl,rfl,O,s,o,d⟩:=hrel;by_cases P:lo<hi
  ·have u:(lo:Int)<hi:=by omega
   obtain⟨m,C⟩:∃m:Nat,m=(lo+hi)/2:=⟨_,rfl⟩;have Q:((lo:Int)+hi)/2=m:=by omega
   have R:lo≤m∧m<hi:=by omega
   have S:(m:Int)<es.length:=by omega
   obtain⟨p,i⟩:∃p,es[m]?=some p:=⟨_,Cp (by omega)⟩;obtain⟨g,off,rfl,k,l⟩:=K.out m p i;have c1:=o.out.cell k jI;have c2:=o.out.cell l jI;have t:=af i;clear k l i C;go_wp2_with fail;refine(nZ c2 id).mono ?_;rintro e T ⟨rfl,v⟩;rw[v];clear v;have x:Hid (∀j q,es[j]?=some q→(j<m→q.2<p.2)∧(m<j→p.2<q.2)):=fun j q f=>by have y:=D7.1 N.out;obtain⟨r,rfl⟩:=Co.1 f;obtain⟨C,D⟩:=Co.1 t.out;rw[←D];exact⟨fun h=>y j m r C h,fun h=>y m j C r h⟩
   by_cases c:p.2<id
   ·have n:j8 p.2 id= -1:=by simp[j8,c]
    rw[n];have E:Hid ((∀j q,j<m+1→es[j]?=some q→q.2<id)∧(∀j q,hi≤j→es[j]?=some q→id≤q.2)):=⟨fun j q r f=>by
     by_cases e:j=m
     ·subst e;rw[t.out]at f;cases f;exact c
     ·have:=(x.out j q f).1 (by omega);omega,d.out.2⟩
    clear d c1 c2 n;go_wp2;go_roundw;case rel=>exact⟨m+1,hi,by go_num,rfl,by omega,s,o,E⟩
    case measure=>simp[intOf];omega
   ·have n:0≤j8 p.2 id:=by unfold j8;rw[Cz c];split<;>omega
    have F:¬j8 p.2 id<0:=by omega
    obtain⟨L,z⟩:∃L,j8 p.2 id=L:=⟨_,rfl⟩;rw[z]at n F⊢;have E:Hid ((∀j q,j<lo→es[j]?=some q→q.2<id)∧(∀j q,m≤j→es[j]?=some q→id≤q.2)):=⟨d.out.1,fun j q r f=>by
     by_cases e:j=m
     ·subst e;rw[t.out]at f;cases f;omega
     ·have:=(x.out j q f).2 (by omega);omega⟩
    clear d c1 c2 z;go_wp2;go_roundw;case rel=>exact⟨lo,m,rfl,rfl,by omega,by omega,o,E⟩
    case measure=>simp[intOf];omega
  ·have u:¬(lo:Int)<hi:=by omega
   obtain rfl:lo=hi:=by omega
   by_cases G:lo<es.length
   ·have A:(lo:Int)<es.length:=by omega
    obtain⟨p,i⟩:∃p,es[lo]?=some p:=⟨_,Cp G⟩;obtain⟨g,off,rfl,k,l⟩:=K.out lo p i;have c1:=o.out.cell k jI;have c2:=o.out.cell l jI;have t:=af i;clear k l i;go_wp2_with fail;refine(nZ c2 id).mono ?_;rintro e T ⟨rfl,v⟩;rw[v];clear v;have U:=d.out.2 lo p (Cs _) t.out;by_cases c:p.2=id
    ·have n:j8 p.2 id=0:=by simp[j8,c]
     rw[n];have B:Hid (kw es id lo true):=⟨s,d.out.1,fun q f=>d.out.2 _ q (Cs _) f,by simp[t.out,c]⟩;clear n c1 c2 d;go_wp2;go_ret2;exact⟨lo,true,rfl,B.out,o.out⟩
    ·have n:j8 p.2 id=1:=by unfold j8;rw[Cz (by omega),CE (by omega)]
     rw[n];have B:Hid (kw es id lo false):=⟨s,d.out.1,fun q f=>d.out.2 _ q (Cs _) f,by simp[t.out,c]⟩;clear n c1 c2 d;go_wp2;go_ret2;exact⟨lo,false,rfl,B.out,o.out⟩
   ·have A:¬(lo:Int)<es.length:=by omega
    obtain rfl:lo=es.length:=by omega
    have B:Hid (kw es id es.length false):=⟨Cs _,d.out.1,fun p i=>d.out.2 _ p (Cs _) i,by simp⟩;go_wp2;go_ret2;exact⟨es.length,false,rfl,B.out,o.out⟩
end Go.Proofs.YteebjgfalllbjaaGreatDoor
