import Derived.Test.YteebjgfalllbjaaGreatDoorK0
import Derived.Stop.Asserts
import Derived.RowKitTokens
import Derived.Lib.Walk
import Derived.Lib.BitFns
namespace Go.Proofs.YteebjgfalllbjaaGreatDoor
open Go.RowKit Go.Proofs.Tryz
set_option maxRecDepth 100000
set_option maxHeartbeats 4000000
section
open Go.Extern.Stop Go.Stop Go.Extern
theorem kV(t:Addr)(w:World):(ReflectliteValue.unpack (.iface 99 (.pointer (some t)))).run prog w= .ok (.agg #[.pointer (some ⟨4,99,none⟩),.pointer (some ⟨w.heap.size,0,none⟩),.int .u64 150]) (w.alloc (.cells #[.pointer (some t)] 99)):=by kernel_rfl
theorem pN(a:Addr)(w:World):(ReflectliteValue.methodAny (ReflectliteValue.valueError "reflectlite.Value.Type" 0) (fun t _ _ _=>ReflectliteType.toType t) #[.agg #[.pointer (some ⟨4,99,none⟩),.pointer (some a),.int .u64 150]]).run prog w= .ok (.iface 198 (.agg #[.pointer (some ⟨4,99,none⟩)])) w:=by kernel_rfl
theorem gh(h:Value)(w:World):(Go.method 410 198 (.agg #[h]) "Kind").run prog w= .ok (201,h) w:=by kernel_rfl
theorem po(w:World):((ReflectliteType.abiMethod fun t=>(fun a:Nat=>Value.int IntKind.u8 (a:Int))<$>Rtype.kind t) #[.pointer (some ⟨4,99,none⟩)]).run prog w= .ok (.int .u8 22) w:=by kernel_rfl
theorem qm(w:World):((ReflectliteType.abiMethod fun t=>(fun a:Nat=>Value.int IntKind.u8 (a:Int))<$>Rtype.kind t) #[.pointer (some ⟨4,59,none⟩)]).run prog w= .ok (.int .u8 2) w:=by kernel_rfl
theorem Bo(m:Array Value→Type)(v:Value)(a:(v:Value)→m #[v])(b:(y:Array Value)→m y):ReflectliteValue.method.match_2 m #[v] a b=a v:=rfl
theorem oc(a:Addr)(w:World):(ReflectliteValue.parts (.agg #[.pointer (some ⟨4,99,none⟩),.pointer (some a),.int .u64 150])).run prog w= .ok (some (99,a,150)) w:=by kernel_rfl
theorem nY(a p:Addr)(W:World)(b:W.cell? a=some (.pointer (some p))):(ReflectliteValue.method (ReflectliteValue.valueError "reflectlite.Value.IsNil" 0) ReflectliteValue.isNil #[.agg #[.pointer (some ⟨4,99,none⟩),.pointer (some a),.int .u64 150]]).run prog W= .ok (.bool false) W:=by delta ReflectliteValue.method;rw[Bo];simp only[D9,oc,Result.andThen];simp[ReflectliteValue.isNil,loadVar,isAgg,underlying,underlying99,b,Result.andThen]
theorem gj(h:Value)(w:World):(Go.method 410 198 (.agg #[h]) "Elem").run prog w= .ok (219,.agg #[h]) w:=by kernel_rfl
theorem dG(h:Value)(w:World):(Go.method 410 198 (.agg #[h]) "Implements").run prog w= .ok (220,.agg #[h]) w:=by kernel_rfl
theorem dF(h:Value)(w:World):(Go.method 410 198 (.agg #[h]) "AssignableTo").run prog w= .ok (217,.agg #[h]) w:=by kernel_rfl
theorem py(w:World):(ReflectliteType.method ReflectliteType.elem #[.agg #[.pointer (some ⟨4,99,none⟩)]]).run prog w= .ok (.iface 198 (.agg #[.pointer (some ⟨4,59,none⟩)])) w:=by kernel_rfl
theorem iL(w:World):(ReflectliteType.relation "Implements" ReflectliteType.implements_ #[.agg #[.pointer (some ⟨4,59,none⟩)],.iface 198 (.agg #[.pointer (some ⟨4,36,none⟩)])]).run prog w= .ok (.bool true) w:=by kernel_rfl
theorem mg(v:Value)(w:World):(ReflectliteType.typeOf #[.iface 117 v]).run prog w= .ok (.iface 198 (.agg #[.pointer (some ⟨4,117,none⟩)])) w:=by kernel_rfl
theorem lY(v:Value)(w:World):(ReflectliteType.typeOf #[.iface 59 v]).run prog w= .ok (.iface 198 (.agg #[.pointer (some ⟨4,59,none⟩)])) w:=by kernel_rfl
theorem lP(w:World):(ReflectliteType.relation "AssignableTo" ReflectliteType.assignableTo #[.agg #[.pointer (some ⟨4,117,none⟩)],.iface 198 (.agg #[.pointer (some ⟨4,59,none⟩)])]).run prog w= .ok (.bool false) w:=by kernel_rfl
theorem mO(w:World):(ReflectliteType.relation "AssignableTo" ReflectliteType.assignableTo #[.agg #[.pointer (some ⟨4,59,none⟩)],.iface 198 (.agg #[.pointer (some ⟨4,59,none⟩)])]).run prog w= .ok (.bool true) w:=by kernel_rfl
theorem kP(k:Int)(w:World):(ReflectliteValue.unpack (.iface 59 (.int .i64 k))).run prog w= .ok (.agg #[.pointer (some ⟨4,59,none⟩),.pointer (some ⟨w.heap.size,0,none⟩),.int .u64 130]) (w.alloc (.cells #[.int .i64 k] 59)):=by kernel_rfl
theorem rn(w:World):(Rtype.elem? 99).run prog w= .ok (some 59) w:=by kernel_rfl
theorem At(p:Addr)(w:World):(ReflectliteValue.mk 59 p ReflectliteValue.flagAddr).run prog w= .ok (.agg #[.pointer (some ⟨4,59,none⟩),.pointer (some p),.int .u64 386]) w:=by kernel_rfl
theorem nU(a p:Addr)(W:World)(b:W.cell? a=some (.pointer (some p))):(ReflectliteValue.method (ReflectliteValue.valueError "reflectlite.Value.Elem" 0) ReflectliteValue.elem #[.agg #[.pointer (some ⟨4,99,none⟩),.pointer (some a),.int .u64 150]]).run prog W= .ok (.agg #[.pointer (some ⟨4,59,none⟩),.pointer (some p),.int .u64 386]) W:=by delta ReflectliteValue.method;rw[Bo];simp only[D9,oc,Result.andThen];simp[ReflectliteValue.elem,loadVar,isAgg,underlying,underlying99,b,Result.andThen,rn,At]
theorem C2(m:Array Value→Type)(v x:Value)(a:(v x:Value)→m #[v,x])(b:(y:Array Value)→m y):ReflectliteValue.set.match_3 m #[v,x] a b=a v x:=rfl
theorem sV(a:Addr)(w:World):(ReflectliteValue.parts (.agg #[.pointer (some ⟨4,59,none⟩),.pointer (some a),.int .u64 386])).run prog w= .ok (some (59,a,386)) w:=by kernel_rfl
theorem wl(a:Addr)(w:World):(ReflectliteValue.parts (.agg #[.pointer (some ⟨4,59,none⟩),.pointer (some a),.int .u64 130])).run prog w= .ok (some (59,a,130)) w:=by kernel_rfl
theorem vC(w:World):(Rtype.directlyAssignable 59 59).run prog w= .ok true w:=by kernel_rfl
theorem ua(a b:Addr)(k:Int)(c:Value)(W:World)(d:W.cell? b=some (.int .i64 k))(e:W.cell? a=some c)(f:W.frozen? a=false):(ReflectliteValue.set #[.agg #[.pointer (some ⟨4,59,none⟩),.pointer (some a),.int .u64 386],.agg #[.pointer (some ⟨4,59,none⟩),.pointer (some b),.int .u64 130]]).run prog W= .ok (.tuple #[]) (W.setCell a (.int .i64 k)):=by delta ReflectliteValue.set;rw[C2];simp only[D9,sV,wl,Result.andThen];simp[ReflectliteValue.flagAddr,loadVar,isAgg,underlying,underlying59,d,Result.andThen,vC,storeVar,Value.cells,storeCells,Addr.add];rw[run_store prog W a _ _ (by rfl)];simp[e,f]
theorem kK(p:Addr)(w:World):(Instr.typeAssert (.iface 117 (.pointer (some p))) 36 203 true).run prog w= .ok (.tuple #[.nilIface,.bool false]) w:=run_typeAssert_lacksB underlying203 (by kernel_rfl) (by kernel_rfl) _ _ w
theorem hU(p:Addr)(w:World):(Instr.typeAssert (.iface 117 (.pointer (some p))) 36 206 true).run prog w= .ok (.tuple #[.iface 117 (.pointer (some p)),.bool true]) w:=run_typeAssert_hasB underlying206 (by kernel_rfl) _ _ w
theorem gZ(p:Addr)(w:World):(Go.method 410 117 (.pointer (some p)) "Unwrap").run prog w= .ok (212,.pointer (some p)) w:=by kernel_rfl
end
theorem wJ(w:World)(p:Int)(g:1≤p)(h:p≤64):Calls prog 180 #[.int .u64 p] w fun e b=>e= .returned (.int .i64 (Lib.bitLen p.toNat))∧b=w:=by
 have a:0≤p:=by omega
 have i:p<256:=by omega
 go_enter func180,ntmps180;go_wp2;rename_i c;have d:((Lib.len8tab[p.toNat]'(by omega)).toNat:Int)=Lib.len8 p:=by unfold Lib.len8;rw[getElem?_pos Lib.len8tab p.toNat (by omega)];rfl
 have f:=Lib.len8_of p a (by omega);have j:=Lib.bitLen_le8' p a (by omega);all_goals(go_ret;refine⟨Ej Ending.returned (Ej (Value.int IntKind.i64) ?_),rfl⟩)
 rw[d,f];unfold wrap64;omega
theorem sd(w:World)(p:Int)(b:1≤p)(c:p≤64):Calls prog 172 #[.int .u64 p] w fun e a=>e= .returned (.int .i64 (Lib.bitLen p.toNat))∧a=w:=by
 have d:=wJ w p b c;have f:p%18446744073709551616=p:=by omega
 go_enter func172,ntmps172;go_wp2_with fail;refine d.mono ?_;rintro e a ⟨rfl,rfl⟩;go_wp2;go_ret;exact⟨rfl,rfl⟩
structure DP where
 calls:Int
 writes:Int
 told:Int
 off:Int
 lo:Int
 hi:Int
 cap:Nat
def C4(B n:Nat)(a:Value)(d:DP):Array Value:=#[.slice (some ⟨B,0,none⟩) n d.cap,a,.int .i64 d.calls,.int .i64 d.writes,.int .i64 d.told,.int .i64 d.off,.int .i64 d.lo,.int .i64 d.hi]
def aP(w:World)(A B n:Nat)(a:Value)(d:DP):Prop:=w.heap[A]?=some (.cells (C4 B n a d) 96 (0,0))
def DP.bad(d:DP):Bool:=decide ((0≤d.off∧d.off≤d.calls)∨(d.lo≤d.calls∧d.calls<d.hi))
def DP.next(d:DP):DP:={d with calls:=d.calls+1,told:=if d.bad=true then d.told+1 else d.told}
def DP.wrote(d:DP):DP:={d with writes:=d.writes+1}
structure DP.Ok(d:DP):Prop where
 c0:0≤d.calls
 c1:d.calls<1000000000
 w0:0≤d.writes
 w1:d.writes<1000000000
 t0:0≤d.told
 t1:d.told<1000000000
section
variable{w w':World}{A B n:Nat}{a:Value}{d:DP}
theorem aP.of{calls writes:Int}(h:ij w A B n a calls writes):aP w A B n a ⟨calls,writes,0,-1,0,0,n⟩:=h
theorem aP.c(h:aP w A B n a d){i:Nat}{v:Value}(hi:(C4 B n a d)[i]?=some v):w.cell? ⟨A,i,none⟩=some v:=(Cn w A i _ _ _ h).trans hi
theorem aP.c0(h:aP w A B n a d):w.cell? ⟨A,0,none⟩=some (.slice (some ⟨B,0,none⟩) n d.cap):=h.c rfl
theorem aP.c1(h:aP w A B n a d):w.cell? ⟨A,1,none⟩=some a:=h.c rfl
theorem aP.c3(h:aP w A B n a d):w.cell? ⟨A,3,none⟩=some (.int .i64 d.writes):=h.c rfl
theorem aP.drew(h:aP w A B n a d):aP w.drew A B n a d:=h
theorem aP.fz(h:aP w A B n a d)(j:Nat):w.frozen? ⟨A,j,none⟩=false:=CN w A j _ _ h
theorem aP.lt(h:aP w A B n a d):A<w.heap.size:=lt_of_heap h
theorem aP.fr{S:Nat→Prop}(h:aP w A B n a d)(b:Fr S w w')(c:¬S A):aP w' A B n a d:=b.keep h c
theorem aP.alloc(h:aP w A B n a d)(o:Obj):aP (w.alloc o) A B n a d:=by unfold aP;rw[ai _ _ _ h.lt];exact h
theorem aP.set1(h:aP w A B n a d)(v:Value):aP (w.setCell ⟨A,1,none⟩ v) A B n v d:=ag w A 1 _ _ v h
theorem aP.set2(h:aP w A B n a d)(v:Int):aP (w.setCell ⟨A,2,none⟩ (.int .i64 v)) A B n a {d with calls:=v}:=ag w A 2 _ _ _ h
theorem aP.set3(h:aP w A B n a d)(v:Int):aP (w.setCell ⟨A,3,none⟩ (.int .i64 v)) A B n a {d with writes:=v}:=ag w A 3 _ _ _ h
theorem aP.set4(h:aP w A B n a d)(v:Int):aP (w.setCell ⟨A,4,none⟩ (.int .i64 v)) A B n a {d with told:=v}:=ag w A 4 _ _ _ h
theorem aP.set5(h:aP w A B n a d)(v:Int):aP (w.setCell ⟨A,5,none⟩ (.int .i64 v)) A B n a {d with off:=v}:=ag w A 5 _ _ _ h
theorem aP.set6(h:aP w A B n a d)(v:Int):aP (w.setCell ⟨A,6,none⟩ (.int .i64 v)) A B n a {d with lo:=v}:=ag w A 6 _ _ _ h
theorem aP.set7(h:aP w A B n a d)(v:Int):aP (w.setCell ⟨A,7,none⟩ (.int .i64 v)) A B n a {d with hi:=v}:=ag w A 7 _ _ _ h
theorem DP.bad_iff:d.bad=true↔(0≤d.off∧d.off≤d.calls)∨(d.lo≤d.calls∧d.calls<d.hi):=by simp[DP.bad]
theorem fi(h:aP w A B n a d)(k:d.Ok):Calls prog 208 #[.pointer (some ⟨A,0,none⟩)] w fun e w'=>e= .returned (.bool d.bad)∧aP w' A B n a d.next∧Fr (· =A) w w'∧w'.heap.size=w.heap.size:=by
 have r:=h.set2 (d.calls+1);have t:=r.set4 (d.told+1);have c2:w.cell? ⟨A,2,none⟩=some (.int .i64 d.calls):=h.c rfl;have c4:w.cell? ⟨A,4,none⟩=some (.int .i64 d.told):=h.c rfl;have c5:w.cell? ⟨A,5,none⟩=some (.int .i64 d.off):=h.c rfl;have c6:w.cell? ⟨A,6,none⟩=some (.int .i64 d.lo):=h.c rfl;have c7:w.cell? ⟨A,7,none⟩=some (.int .i64 d.hi):=h.c rfl;have G:=h.fz 2;have H:=h.fz 4;have x:=k.c0;have y:=k.c1;have z:=k.t0;have C:=k.t1;have s:Hid (∀b,((0≤d.off∧d.off≤d.calls)∨(d.lo≤d.calls∧d.calls<d.hi)↔b=true)→d.bad=b):=fun b i=>by
  cases b with
  |true=>exact DP.bad_iff.2 (i.2 rfl)
  |false=>
   cases D:d.bad with
   |false=>rfl
   |true=>exact absurd (i.1 (DP.bad_iff.1 D)) (by decide)
 have l:=af r;have m:Hid (aP ((w.setCell ⟨A,2,none⟩ (.int .i64 (d.calls+1))).setCell ⟨A,4,none⟩ (.int .i64 (d.told+1))) A B n a {d with calls:=d.calls+1,told:=d.told+1}):=t;have j:Hid (Fr (· =A) w (w.setCell ⟨A,2,none⟩ (.int .i64 (d.calls+1)))):=Fr.set1 _ _ _ _;have o:Hid (Fr (· =A) w ((w.setCell ⟨A,2,none⟩ (.int .i64 (d.calls+1))).setCell ⟨A,4,none⟩ (.int .i64 (d.told+1)))):=j.out.trans (Fr.set1 _ _ _ _) fI;clear h r t k;have good:d.bad=false→Hid (Ending.returned (.bool false)=Ending.returned (.bool d.bad)∧aP (w.setCell ⟨A,2,none⟩ (.int .i64 (d.calls+1))) A B n a d.next∧Fr (· =A) w (w.setCell ⟨A,2,none⟩ (.int .i64 (d.calls+1)))∧(w.setCell ⟨A,2,none⟩ (.int .i64 (d.calls+1))).heap.size=w.heap.size):=fun i=>by
  refine⟨by rw[i],?_,j.out,by simp⟩;have e:d.next={d with calls:=d.calls+1}:=by unfold DP.next;rw[i];simp
  rw[e];exact l.out
 have f:d.bad=true→Hid (Ending.returned (.bool true)=Ending.returned (.bool d.bad)∧aP ((w.setCell ⟨A,2,none⟩ (.int .i64 (d.calls+1))).setCell ⟨A,4,none⟩ (.int .i64 (d.told+1))) A B n a d.next∧Fr (· =A) w ((w.setCell ⟨A,2,none⟩ (.int .i64 (d.calls+1))).setCell ⟨A,4,none⟩ (.int .i64 (d.told+1)))∧((w.setCell ⟨A,2,none⟩ (.int .i64 (d.calls+1))).setCell ⟨A,4,none⟩ (.int .i64 (d.told+1))).heap.size=w.heap.size):=fun i=>by
  refine⟨by rw[i],?_,o.out,by simp⟩;have e:d.next={d with calls:=d.calls+1,told:=d.told+1}:=by unfold DP.next;rw[i];simp
  rw[e];exact m.out
 clear l m j o;by_cases I:0≤d.off∧d.off≤d.calls
 ·have g:=f (s.out true (by simp;omega));have p:decide (0≤d.off)=true:=by simp;omega
  have u:decide (d.off≤d.calls)=true:=by simp;omega
  clear good f;go_enter func208,ntmps208;go_wp2;go_ret;exact g.out
 ·by_cases J:d.lo≤d.calls∧d.calls<d.hi
  ·have g:=f (s.out true (by simp;omega));have q:decide (d.lo≤d.calls)=true:=by simp;omega
   have v:decide (d.calls<d.hi)=true:=by simp;omega
   clear good f;by_cases E:0≤d.off
   ·have p:decide (0≤d.off)=true:=by simp;omega
    have u:decide (d.off≤d.calls)=false:=by simp;omega
    go_enter func208,ntmps208;go_wp2;go_ret;exact g.out
   ·have p:decide (0≤d.off)=false:=by simp;omega
    go_enter func208,ntmps208;go_wp2;go_ret;exact g.out
  ·have g:=good (s.out false (by simp;omega));clear good f;by_cases E:0≤d.off
   ·have p:decide (0≤d.off)=true:=by simp;omega
    have u:decide (d.off≤d.calls)=false:=by simp;omega
    by_cases F:d.lo≤d.calls
    ·have q:decide (d.lo≤d.calls)=true:=by simp;omega
     have v:decide (d.calls<d.hi)=false:=by simp;omega
     go_enter func208,ntmps208;go_wp2;go_ret;exact g.out
    ·have q:decide (d.lo≤d.calls)=false:=by simp;omega
     go_enter func208,ntmps208;go_wp2;go_ret;exact g.out
   ·have p:decide (0≤d.off)=false:=by simp;omega
    by_cases F:d.lo≤d.calls
    ·have q:decide (d.lo≤d.calls)=true:=by simp;omega
     have v:decide (d.calls<d.hi)=false:=by simp;omega
     go_enter func208,ntmps208;go_wp2;go_ret;exact g.out
    ·have q:decide (d.lo≤d.calls)=false:=by simp;omega
     go_enter func208,ntmps208;go_wp2;go_ret;exact g.out
theorem qK(h:aP w A B n a d)(i:Int)(f:0≤i)(g:i<n):Calls prog 209 #[.pointer (some ⟨A,0,none⟩),.int .i64 i] w fun e w'=>e= .returned (.bool false)∧w'=w:=by
 have c0:w.cell? ⟨A,0,none⟩=some (.slice (some ⟨B,0,none⟩) n d.cap):=h.c rfl;have j:decide (i<0)=false:=by simp;omega
 have b:decide ((n:Int)≤i)=false:=by simp;omega
 clear h;go_enter func209,ntmps209;go_wp2;go_ret;exact⟨rfl,rfl⟩
end
def aZ(w:World)(V A n:Nat):Prop:=w.heap[V]?=some (.cells #[.iface 31 (.pointer (some ⟨A,0,none⟩)),.int .i64 n] 212 (0,0))
theorem aZ.c0{w:World}{V A n:Nat}(h:aZ w V A n):w.cell? ⟨V,0,none⟩=some (.iface 31 (.pointer (some ⟨A,0,none⟩))):=by rw[Cn w V 0 _ _ _ h];rfl
theorem aZ.c1{w:World}{V A n:Nat}(h:aZ w V A n):w.cell? ⟨V,1,none⟩=some (.int .i64 n):=by rw[Cn w V 1 _ _ _ h];rfl
theorem aZ.fr{S:Nat→Prop}{w a:World}{V A n:Nat}(h:aZ w V A n)(b:Fr S w a)(c:¬S V):aZ a V A n:=b.keep h c
theorem cJ{w:World}{V A n:Nat}(h:aZ w V A n):Calls prog 110 #[.pointer (some ⟨V,0,none⟩)] w fun e a=>e= .returned (.int .i64 n)∧a=w:=by have c1:=h.c1;clear h;go_enter func110,ntmps110;go_wp2;go_ret;exact⟨rfl,rfl⟩
theorem vf(C:Nat)(w:World):(Instr.sliceAt 130 (.pointer (some ⟨C,0,none⟩)) (some (.int .i64 0)) (some (.int .i64 128)) (some (.int .i64 128))).run prog w= .ok (.slice (some ⟨C,0,none⟩) 128 128) w:=by kernel_rfl
theorem qM(w:World)(C:Nat):Calls prog 141 #[.pointer (some ⟨C,0,none⟩),.int .i64 0,.int .i64 128] w fun e a=>e= .returned (.slice (some ⟨C,0,none⟩) 128 128)∧a=w:=by go_enter func141,ntmps141;go_wp2_with (refine aR 130 (.tmp 8) (some (.tmp 9)) (some (.tmp 12)) (some (.tmp 15)) (v:= .slice (some ⟨C,0,none⟩) 128 128) (w':=w) rfl rfl ?_ ?_;exact vf C w);go_ret;exact⟨rfl,rfl⟩
theorem uP(C:Nat)(w:World):(Instr.sliceAt 130 (.pointer (some ⟨C,0,none⟩)) (some (.int .i64 1)) (some (.int .i64 3)) (some (.int .i64 3))).run prog w= .ok (.slice (some ⟨C,1,none⟩) 2 2) w:=by kernel_rfl
theorem xJ(w:World)(C:Nat):Calls prog 141 #[.pointer (some ⟨C,0,none⟩),.int .i64 1,.int .i64 2] w fun e a=>e= .returned (.slice (some ⟨C,1,none⟩) 2 2)∧a=w:=by go_enter func141,ntmps141;go_wp2_with (refine aR 130 (.tmp 8) (some (.tmp 9)) (some (.tmp 12)) (some (.tmp 15)) (v:= .slice (some ⟨C,1,none⟩) 2 2) (w':=w) rfl rfl ?_ ?_;exact uP C w);go_ret;exact⟨rfl,rfl⟩
theorem vD(C:Nat)(w:World):(Instr.sliceAt 130 (.pointer (some ⟨C,0,none⟩)) (some (.int .i64 3)) (some (.int .i64 27)) (some (.int .i64 27))).run prog w= .ok (.slice (some ⟨C,3,none⟩) 24 24) w:=by kernel_rfl
theorem y6(w:World)(C:Nat):Calls prog 141 #[.pointer (some ⟨C,0,none⟩),.int .i64 3,.int .i64 24] w fun e a=>e= .returned (.slice (some ⟨C,3,none⟩) 24 24)∧a=w:=by go_enter func141,ntmps141;go_wp2_with (refine aR 130 (.tmp 8) (some (.tmp 9)) (some (.tmp 12)) (some (.tmp 15)) (v:= .slice (some ⟨C,3,none⟩) 24 24) (w':=w) rfl rfl ?_ ?_;exact vD C w);go_ret;exact⟨rfl,rfl⟩
end Go.Proofs.YteebjgfalllbjaaGreatDoor
