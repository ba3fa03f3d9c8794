import Derived.Test.YteebjgfalllbjaaGreatDoorCWiGd0Va
import Derived.Test.YteebjgfalllbjaaGreatDoorCVbNeIx
import Derived.Test.YteebjgfalllbjaaGreatDoorCTjTmKa
import Derived.Test.YteebjgfalllbjaaGreatDoorCPaAs1Kd
import Derived.Test.YteebjgfalllbjaaGreatDoorCLnLpOwn
import Derived.Test.YteebjgfalllbjaaGreatDoorCVfVgVc
import Derived.Test.YteebjgfalllbjaaGreatDoorCAsTlLm
import Derived.BigQuiet
namespace Go.Proofs.YteebjgfalllbjaaGreatDoor
open Go.RowKit
variable {G : Prg}

structure OR where
 K : Int
 X : Int
 a : Int
 b : Int
 S : ByteArray
 T : ByteArray
def OR.cs (o : OR) : List Value := [.int .i64 o.K, .int .i64 o.X, .int .i64 o.a, .int .i64 o.b, .string o.S, .string o.T]
def i64ok (z : Int) : Prop := -9223372036854775808 ≤ z ∧ z ≤ 9223372036854775807
def OR.ok (o : OR) : Prop := i64ok o.K ∧ i64ok o.X ∧ i64ok o.a ∧ i64ok o.b
theorem OR.len (o : OR) : o.cs.length = 6 := rfl



end Go.Proofs.YteebjgfalllbjaaGreatDoor
namespace Go.Proofs.YteebjgfalllbjaaGreatDoor
open Go.RowKit
variable {G : Prg}

def keep (ks : List Int) (o : OR) : Bool := decide (o.K < 7) || ks.any (fun k => decide (o.K = k))


end Go.Proofs.YteebjgfalllbjaaGreatDoor
namespace Go.Proofs.YteebjgfalllbjaaGreatDoor
open Go.RowKit Go.Extern.Stop Go.Stop Go.Extern
theorem rt_valueOfP (t : Addr) (w : World) : (ReflectliteValue.unpack (.iface 259 (.pointer (some t)))).run Tryz.prog w
  = .ok (.agg #[.pointer (some ⟨4, 259, none⟩), .pointer (some ⟨w.heap.size, 0, none⟩), .int .u64 150]) (w.alloc (.cells #[.pointer (some t)] 259)) := by kernel_rfl
theorem rt_typeP (a : Addr) (w : World) : (ReflectliteValue.methodAny (ReflectliteValue.valueError "reflectlite.Value.Type" 0) (fun t _ _ _ => ReflectliteType.toType t) #[.agg #[.pointer (some ⟨4, 259, none⟩), .pointer (some a), .int .u64 150]]).run Tryz.prog w
  = .ok (.iface 198 (.agg #[.pointer (some ⟨4, 259, none⟩)])) w := by kernel_rfl
theorem rt_kindP (w : World) : ((ReflectliteType.abiMethod fun t => (fun a : Nat => Value.int IntKind.u8 (a : Int)) <$> Rtype.kind t) #[.pointer (some ⟨4, 259, none⟩)]).run Tryz.prog w = .ok (.int .u8 22) w := by kernel_rfl
theorem rt_kindE (w : World) : ((ReflectliteType.abiMethod fun t => (fun a : Nat => Value.int IntKind.u8 (a : Int)) <$> Rtype.kind t) #[.pointer (some ⟨4, 258, none⟩)]).run Tryz.prog w = .ok (.int .u8 22) w := by kernel_rfl
theorem rt_partsP (a : Addr) (w : World) : (ReflectliteValue.parts (.agg #[.pointer (some ⟨4, 259, none⟩), .pointer (some a), .int .u64 150])).run Tryz.prog w = .ok (some (259, a, 150)) w := by kernel_rfl
theorem rt_isNilP (a p : Addr) (W : World) (ha : W.cell? a = some (.pointer (some p))) :
  (ReflectliteValue.method (ReflectliteValue.valueError "reflectlite.Value.IsNil" 0) ReflectliteValue.isNil #[.agg #[.pointer (some ⟨4, 259, none⟩), .pointer (some a), .int .u64 150]]).run Tryz.prog W = .ok (.bool false) W := by
 delta ReflectliteValue.method
 rw [rlm]
 simp only [Sem.run_bind, rt_partsP, Result.andThen]
 simp [ReflectliteValue.isNil, loadVar, isAgg, underlying, Tryz.underlying259, ha, Result.andThen]
theorem rt_elemP (w : World) : (ReflectliteType.method ReflectliteType.elem #[.agg #[.pointer (some ⟨4, 259, none⟩)]]).run Tryz.prog w = .ok (.iface 198 (.agg #[.pointer (some ⟨4, 258, none⟩)])) w := by kernel_rfl
theorem rt_implementsE (w : World) : (ReflectliteType.relation "Implements" ReflectliteType.implements_ #[.agg #[.pointer (some ⟨4, 258, none⟩)], .iface 198 (.agg #[.pointer (some ⟨4, 36, none⟩)])]).run Tryz.prog w = .ok (.bool true) w := by kernel_rfl
theorem rt_typeOfE (v : Value) (w : World) : (ReflectliteType.typeOf #[.iface 258 v]).run Tryz.prog w = .ok (.iface 198 (.agg #[.pointer (some ⟨4, 258, none⟩)])) w := by kernel_rfl
theorem rt_assignE (w : World) : (ReflectliteType.relation "AssignableTo" ReflectliteType.assignableTo #[.agg #[.pointer (some ⟨4, 258, none⟩)], .iface 198 (.agg #[.pointer (some ⟨4, 258, none⟩)])]).run Tryz.prog w = .ok (.bool true) w := by kernel_rfl
theorem rt_valueOfE (pp : Addr) (w : World) : (ReflectliteValue.unpack (.iface 258 (.pointer (some pp)))).run Tryz.prog w
  = .ok (.agg #[.pointer (some ⟨4, 258, none⟩), .pointer (some ⟨w.heap.size, 0, none⟩), .int .u64 150]) (w.alloc (.cells #[.pointer (some pp)] 258)) := by kernel_rfl
theorem rt_elemOfP (w : World) : (Rtype.elem? 259).run Tryz.prog w = .ok (some 258) w := by kernel_rfl
theorem rt_mkE (p : Addr) (w : World) : (ReflectliteValue.mk 258 p ReflectliteValue.flagAddr).run Tryz.prog w = .ok (.agg #[.pointer (some ⟨4, 258, none⟩), .pointer (some p), .int .u64 406]) w := by kernel_rfl
theorem rt_elemVP (a p : Addr) (W : World) (ha : W.cell? a = some (.pointer (some p))) :
  (ReflectliteValue.method (ReflectliteValue.valueError "reflectlite.Value.Elem" 0) ReflectliteValue.elem #[.agg #[.pointer (some ⟨4, 259, none⟩), .pointer (some a), .int .u64 150]]).run Tryz.prog W
   = .ok (.agg #[.pointer (some ⟨4, 258, none⟩), .pointer (some p), .int .u64 406]) W := by
 delta ReflectliteValue.method
 rw [rlm]
 simp only [Sem.run_bind, rt_partsP, Result.andThen]
 simp [ReflectliteValue.elem, loadVar, isAgg, underlying, Tryz.underlying259, ha, Result.andThen, rt_elemOfP, rt_mkE]
theorem rt_partsEa (a : Addr) (w : World) : (ReflectliteValue.parts (.agg #[.pointer (some ⟨4, 258, none⟩), .pointer (some a), .int .u64 406])).run Tryz.prog w = .ok (some (258, a, 406)) w := by kernel_rfl
theorem rt_partsE (a : Addr) (w : World) : (ReflectliteValue.parts (.agg #[.pointer (some ⟨4, 258, none⟩), .pointer (some a), .int .u64 150])).run Tryz.prog w = .ok (some (258, a, 150)) w := by kernel_rfl
theorem rt_direct (w : World) : (Rtype.directlyAssignable 258 258).run Tryz.prog w = .ok true w := by kernel_rfl
theorem rt_setE (ta b : Addr) (pp : Addr) (old : Value) (W : World) (hb : W.cell? b = some (.pointer (some pp))) (ht : W.cell? ta = some old) (hf : W.frozen? ta = false) :
  (ReflectliteValue.set #[.agg #[.pointer (some ⟨4, 258, none⟩), .pointer (some ta), .int .u64 406], .agg #[.pointer (some ⟨4, 258, none⟩), .pointer (some b), .int .u64 150]]).run Tryz.prog W
   = .ok (.tuple #[]) (W.setCell ta (.pointer (some pp))) := by
 delta ReflectliteValue.set
 rw [rls]
 simp only [Sem.run_bind, rt_partsEa, rt_partsE, Result.andThen]
 simp [ReflectliteValue.flagAddr, loadVar, isAgg, underlying, Tryz.underlying258, hb, Result.andThen, rt_direct, storeVar, Value.cells, storeCells, Addr.add]
 rw [run_store Tryz.prog W ta _ _ (by rfl)]
 simp [ht, hf]
set_option maxRecDepth 100000 in
set_option maxHeartbeats 4000000 in
theorem asT_ok (g tb : Nat) (a : Addr) (old : Value) (w : World) (ha : w.cell? a = some (.pointer (some ⟨tb, 0, none⟩))) (hal : a.block < w.heap.size)
  (ht : w.cell? ⟨tb, 0, none⟩ = some old) (hf : w.frozen? ⟨tb, 0, none⟩ = false) :
  Calls Tryz.prog 71 #[.iface 258 (.pointer (some ⟨g, 0, none⟩)), .iface 259 (.pointer (some ⟨tb, 0, none⟩)), .agg #[.pointer (some ⟨4, 259, none⟩), .pointer (some a), .int .u64 150], .iface 198 (.agg #[.pointer (some ⟨4, 258, none⟩)])] w
   fun ev w' => ev = .returned (.bool true) ∧ w'.cell? ⟨tb, 0, none⟩ = some (.pointer (some ⟨g, 0, none⟩)) ∧ Fr (· = tb) w w' := by
 have h66 := @run_callFunc_extern Tryz.prog 68 _ (fun args => ReflectliteValue.unpack (args.getD 0 (.tuple #[]))) Tryz.func68 (by kernel_rfl) (by kernel_rfl) (by kernel_rfl) (by kernel_rfl)
 have h83 := @run_callFunc_extern Tryz.prog 106 _ ReflectliteType.typeOf Tryz.func106 (by kernel_rfl) (by kernel_rfl) (by kernel_rfl) (by kernel_rfl)
 have h138 := @run_callFunc_extern Tryz.prog 217 _ (ReflectliteType.relation "AssignableTo" ReflectliteType.assignableTo) Tryz.func217 (by kernel_rfl) (by kernel_rfl) (by kernel_rfl) (by kernel_rfl)
 have h84 := @run_callFunc_extern Tryz.prog 107 _ (ReflectliteValue.method (ReflectliteValue.valueError "reflectlite.Value.Elem" 0) ReflectliteValue.elem) Tryz.func107 (by kernel_rfl) (by kernel_rfl) (by kernel_rfl) (by kernel_rfl)
 have h85 := @run_callFunc_extern Tryz.prog 108 _ ReflectliteValue.set Tryz.func108 (by kernel_rfl) (by kernel_rfl) (by kernel_rfl) (by kernel_rfl)
 have f2 := rt_typeOfE
 have f3 := rl_methodAssignable
 have f5 := rt_assignE
 have f9 := rt_valueOfE
 have htl : tb < w.heap.size := World.block_lt_of_cell? w _ ht
 have el := rt_elemVP a ⟨tb, 0, none⟩ (w.alloc (.cells #[.pointer (some ⟨4, 259, none⟩), .pointer (some a), .int .u64 150] 144)) (by rw [World.cell?_alloc_lt _ _ a hal]; exact ha)
 have st := rt_setE ⟨tb, 0, none⟩ ⟨w.heap.size + 1, 0, none⟩ ⟨g, 0, none⟩ old ((w.alloc (.cells #[.pointer (some ⟨4, 259, none⟩), .pointer (some a), .int .u64 150] 144)).alloc (.cells #[.pointer (some ⟨g, 0, none⟩)] 258))
  (by rw [World.cell?_alloc_at _ _ _ _ (by simp)]; rfl)
  (by rw [World.cell?_alloc_lt _ _ ⟨tb, 0, none⟩ (by simp; omega), World.cell?_alloc_lt _ _ ⟨tb, 0, none⟩ htl]; exact ht)
  (by rw [World.frozen?_alloc_old _ _ ⟨tb, 0, none⟩ (by simp; omega), World.frozen?_alloc_old _ _ ⟨tb, 0, none⟩ (Nat.ne_of_lt htl)]; exact hf)
 go_enter Tryz.func71, Tryz.ntmps71
 go_wp2
 refine wp_loop_rounds 1 ?_
 rw [rounds_succ]
 go_wp2
 go_ret
 refine ⟨rfl, ?_, ?_⟩
 ·rw [World.cell?_alloc_lt _ _ _ (by simp; omega), World.cell?_alloc_lt _ _ _ (by simp; omega)]
  exact World.cell?_setCell_same _ _ _ ht
 ·exact ((Fr.set1 w tb 0 _).alloc _).alloc _

set_option maxRecDepth 100000 in
set_option maxHeartbeats 4000000 in
theorem AsT_ok (g tb : Nat) (old : Value) (w : World) (hG : w.cell? ⟨0, 0, none⟩ = some (.iface 198 (.agg #[.pointer (some ⟨4, 36, none⟩)])))
  (ht : w.cell? ⟨tb, 0, none⟩ = some old) (hf : w.frozen? ⟨tb, 0, none⟩ = false) :
  Calls Tryz.prog 45 #[.iface 258 (.pointer (some ⟨g, 0, none⟩)), .iface 259 (.pointer (some ⟨tb, 0, none⟩))] w
   fun ev w' => ev = .returned (.bool true) ∧ w'.cell? ⟨tb, 0, none⟩ = some (.pointer (some ⟨g, 0, none⟩)) ∧ Fr (· = tb) w w' := by
 have h66 := @run_callFunc_extern Tryz.prog 68 _ (fun args => ReflectliteValue.unpack (args.getD 0 (.tuple #[]))) Tryz.func68 (by kernel_rfl) (by kernel_rfl) (by kernel_rfl) (by kernel_rfl)
 have h67 := @run_callFunc_extern Tryz.prog 69 _ (ReflectliteValue.methodAny (ReflectliteValue.valueError "reflectlite.Value.Type" 0) (fun t _ _ _ => ReflectliteType.toType t)) Tryz.func69 (by kernel_rfl) (by kernel_rfl) (by kernel_rfl) (by kernel_rfl)
 have h68 := @run_callFunc_extern Tryz.prog 70 _ (ReflectliteValue.method (ReflectliteValue.valueError "reflectlite.Value.IsNil" 0) ReflectliteValue.isNil) Tryz.func70 (by kernel_rfl) (by kernel_rfl) (by kernel_rfl) (by kernel_rfl)
 have h122 := @run_callFunc_extern Tryz.prog 201 _ (ReflectliteType.abiMethod fun t => do pure (.int .u8 (← Rtype.kind t))) Tryz.func201 (by kernel_rfl) (by kernel_rfl) (by kernel_rfl) (by kernel_rfl)
 have h140 := @run_callFunc_extern Tryz.prog 219 _ (ReflectliteType.method ReflectliteType.elem) Tryz.func219 (by kernel_rfl) (by kernel_rfl) (by kernel_rfl) (by kernel_rfl)
 have h141 := @run_callFunc_extern Tryz.prog 220 _ (ReflectliteType.relation "Implements" ReflectliteType.implements_) Tryz.func220 (by kernel_rfl) (by kernel_rfl) (by kernel_rfl) (by kernel_rfl)
 have f1 := rt_valueOfP
 have f2 := rt_typeP
 have f3 := rl_methodKind
 have f4 := rt_kindP
 have f5 := rt_kindE
 have f6 := rl_methodElem
 have f7 := rl_methodImplements
 have f8 := rt_elemP
 have f9 := rt_implementsE
 have htl : tb < w.heap.size := World.block_lt_of_cell? w _ ht
 have hGl : 0 < w.heap.size := World.block_lt_of_cell? w _ hG
 have n8 := rt_isNilP ⟨w.heap.size, 0, none⟩ ⟨tb, 0, none⟩ ((w.alloc (.cells #[.pointer (some ⟨tb, 0, none⟩)] 259)).alloc (.cells #[.pointer (some ⟨4, 259, none⟩), .pointer (some ⟨w.heap.size, 0, none⟩), .int .u64 150] 144)) (by simp)
 have hG2 : ((w.alloc (.cells #[.pointer (some ⟨tb, 0, none⟩)] 259)).alloc (.cells #[.pointer (some ⟨4, 259, none⟩), .pointer (some ⟨w.heap.size, 0, none⟩), .int .u64 150] 144)).cell? ⟨0, 0, none⟩ = some (.iface 198 (.agg #[.pointer (some ⟨4, 36, none⟩)])) := by
  rw [World.cell?_alloc_lt _ _ ⟨0, 0, none⟩ (by simp), World.cell?_alloc_lt _ _ ⟨0, 0, none⟩ hGl]; exact hG
 have cc : ∀ (q : Addr) (v : Value), w.cell? q = some v → ((w.alloc (.cells #[.pointer (some ⟨tb, 0, none⟩)] 259)).alloc (.cells #[.pointer (some ⟨4, 259, none⟩), .pointer (some ⟨w.heap.size, 0, none⟩), .int .u64 150] 144)).cell? q = some v := fun q v hq => by
  have hql := World.block_lt_of_cell? w _ hq
  rw [World.cell?_alloc_lt _ _ q (by simp; omega), World.cell?_alloc_lt _ _ q hql]; exact hq
 have HC : Hid (∀ (q : Addr) (v : Value), w.cell? q = some v → ((w.alloc (.cells #[.pointer (some ⟨tb, 0, none⟩)] 259)).alloc (.cells #[.pointer (some ⟨4, 259, none⟩), .pointer (some ⟨w.heap.size, 0, none⟩), .int .u64 150] 144)).cell? q = some v) := cc
 clear cc
 go_enter Tryz.func45, Tryz.ntmps45
 go_wp2_with fail
 refine (asT_ok g tb ⟨w.heap.size, 0, none⟩ old _ ?_ ?_ ?_ ?_).mono ?_
 ·simp
 ·simp; omega
 ·exact HC.out _ _ ht
 ·rw [World.frozen?_alloc_old _ _ ⟨tb, 0, none⟩ (by simp; omega), World.frozen?_alloc_old _ _ ⟨tb, 0, none⟩ (Nat.ne_of_lt htl)]; exact hf
 rintro e w2 ⟨rfl, hc2, hf2⟩
 go_wp2
 go_ret
 exact ⟨rfl, hc2, ((Fr.refl _ _).alloc _ |>.alloc _).trans hf2 (fun _ _ h => h)⟩

end Go.Proofs.YteebjgfalllbjaaGreatDoor
