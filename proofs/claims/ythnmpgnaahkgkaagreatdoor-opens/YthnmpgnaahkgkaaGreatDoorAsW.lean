import Derived.Test.YthnmpgnaahkgkaaGreatDoorAs
namespace Go.Proofs.YthnmpgnaahkgkaaGreatDoor
open Go.RowKit Go.Extern.Stop Go.Stop Go.Extern

set_option maxRecDepth 100000 in
set_option maxHeartbeats 4000000 in
theorem as_ok (g tb : Nat) (a : Addr) (k : Int) (old : Value) (w : World) (ha : w.cell? a = some (.pointer (some ⟨tb, 0, none⟩))) (hal : a.block < w.heap.size)
    (hg : w.cell? ⟨g, 1, none⟩ = some (.iface 70 (.int .i64 k))) (ht : w.cell? ⟨tb, 0, none⟩ = some old) (hf : w.frozen? ⟨tb, 0, none⟩ = false) :
    Calls Tryz.prog 69 #[.iface 155 (.pointer (some ⟨g, 0, none⟩)), .iface 85 (.pointer (some ⟨tb, 0, none⟩)), .agg #[.pointer (some ⟨4, 85, none⟩), .pointer (some a), .int .u64 150], .iface 159 (.agg #[.pointer (some ⟨4, 70, none⟩)])] w
      fun ev w' => ev = .returned (.bool true) ∧ w'.cell? ⟨tb, 0, none⟩ = some (.int .i64 k) ∧ Fr (· = tb) w w' := by
  have h66 := @run_callFunc_extern Tryz.prog 66 _ (fun args => ReflectliteValue.unpack (args.getD 0 (.tuple #[]))) Tryz.func66 (by kernel_rfl) (by kernel_rfl) (by kernel_rfl) (by kernel_rfl)
  have h83 := @run_callFunc_extern Tryz.prog 83 _ ReflectliteType.typeOf Tryz.func83 (by kernel_rfl) (by kernel_rfl) (by kernel_rfl) (by kernel_rfl)
  have h138 := @run_callFunc_extern Tryz.prog 138 _ (ReflectliteType.relation "AssignableTo" ReflectliteType.assignableTo) Tryz.func138 (by kernel_rfl) (by kernel_rfl) (by kernel_rfl) (by kernel_rfl)
  have h84 := @run_callFunc_extern Tryz.prog 84 _ (ReflectliteValue.method (ReflectliteValue.valueError "reflectlite.Value.Elem" 0) ReflectliteValue.elem) Tryz.func84 (by kernel_rfl) (by kernel_rfl) (by kernel_rfl) (by kernel_rfl)
  have h85 := @run_callFunc_extern Tryz.prog 85 _ ReflectliteValue.set Tryz.func85 (by kernel_rfl) (by kernel_rfl) (by kernel_rfl) (by kernel_rfl)
  have f1 := rl_typeOfF
  have f2 := rl_typeOfE
  have f3 := rl_methodAssignable
  have f4 := rl_assignF
  have f5 := rl_assignE
  have f6 := rl_assertAs
  have f7 := rl_assertUnwrap
  have f8 := rl_methodUnwrap
  have f9 := rl_valueOfE
  have hgl : g < w.heap.size := World.block_lt_of_cell? w _ hg
  have htl : tb < w.heap.size := World.block_lt_of_cell? w _ ht
  have hg1 : (w.alloc (.cells #[.pointer (some ⟨4, 85, none⟩), .pointer (some a), .int .u64 150] 132)).cell? ⟨g, 1, none⟩ = some (.iface 70 (.int .i64 k)) := by rw [World.cell?_alloc_lt _ _ ⟨g, 1, none⟩ hgl]; exact hg
  have el := rl_elemVP a ⟨tb, 0, none⟩ (w.alloc (.cells #[.pointer (some ⟨4, 85, none⟩), .pointer (some a), .int .u64 150] 132)) (by rw [World.cell?_alloc_lt _ _ a hal]; exact ha)
  have st := rl_setE ⟨tb, 0, none⟩ ⟨w.heap.size + 1, 0, none⟩ k old ((w.alloc (.cells #[.pointer (some ⟨4, 85, none⟩), .pointer (some a), .int .u64 150] 132)).alloc (.cells #[.int .i64 k] 70))
    (by rw [World.cell?_alloc_at _ _ _ _ (by simp)]; rfl)
    (by rw [World.cell?_alloc_lt _ _ ⟨tb, 0, none⟩ (by simp; omega), World.cell?_alloc_lt _ _ ⟨tb, 0, none⟩ htl]; exact ht)
    (by rw [World.frozen?_alloc_old _ _ ⟨tb, 0, none⟩ (by simp; omega), World.frozen?_alloc_old _ _ ⟨tb, 0, none⟩ (Nat.ne_of_lt htl)]; exact hf)
  go_enter Tryz.func69, Tryz.ntmps69
  go_wp2
  refine wp_loop_rounds 2 ?_
  rw [rounds_succ]
  go_wp2
  rw [rounds_succ]
  go_wp2
  go_ret
  refine ⟨rfl, ?_, ?_⟩
  · rw [World.cell?_alloc_lt _ _ _ (by simp; omega), World.cell?_alloc_lt _ _ _ (by simp; omega)]
    exact World.cell?_setCell_same _ _ _ ht
  · exact ((Fr.set1 w tb 0 _).alloc _).alloc _

set_option maxRecDepth 100000 in
set_option maxHeartbeats 4000000 in
theorem As_ok (g tb : Nat) (k : Int) (old : Value) (w : World) (hG : w.cell? ⟨0, 0, none⟩ = some (.iface 159 (.agg #[.pointer (some ⟨4, 68, none⟩)])))
    (hg : w.cell? ⟨g, 1, none⟩ = some (.iface 70 (.int .i64 k))) (ht : w.cell? ⟨tb, 0, none⟩ = some old) (hf : w.frozen? ⟨tb, 0, none⟩ = false) :
    Calls Tryz.prog 39 #[.iface 155 (.pointer (some ⟨g, 0, none⟩)), .iface 85 (.pointer (some ⟨tb, 0, none⟩))] w
      fun ev w' => ev = .returned (.bool true) ∧ w'.cell? ⟨tb, 0, none⟩ = some (.int .i64 k) ∧ Fr (· = tb) w w' := by
  have h66 := @run_callFunc_extern Tryz.prog 66 _ (fun args => ReflectliteValue.unpack (args.getD 0 (.tuple #[]))) Tryz.func66 (by kernel_rfl) (by kernel_rfl) (by kernel_rfl) (by kernel_rfl)
  have h67 := @run_callFunc_extern Tryz.prog 67 _ (ReflectliteValue.methodAny (ReflectliteValue.valueError "reflectlite.Value.Type" 0) (fun t _ _ _ => ReflectliteType.toType t)) Tryz.func67 (by kernel_rfl) (by kernel_rfl) (by kernel_rfl) (by kernel_rfl)
  have h68 := @run_callFunc_extern Tryz.prog 68 _ (ReflectliteValue.method (ReflectliteValue.valueError "reflectlite.Value.IsNil" 0) ReflectliteValue.isNil) Tryz.func68 (by kernel_rfl) (by kernel_rfl) (by kernel_rfl) (by kernel_rfl)
  have h122 := @run_callFunc_extern Tryz.prog 122 _ (ReflectliteType.abiMethod fun t => do pure (.int .u8 (← Rtype.kind t))) Tryz.func122 (by kernel_rfl) (by kernel_rfl) (by kernel_rfl) (by kernel_rfl)
  have h140 := @run_callFunc_extern Tryz.prog 140 _ (ReflectliteType.method ReflectliteType.elem) Tryz.func140 (by kernel_rfl) (by kernel_rfl) (by kernel_rfl) (by kernel_rfl)
  have h141 := @run_callFunc_extern Tryz.prog 141 _ (ReflectliteType.relation "Implements" ReflectliteType.implements_) Tryz.func141 (by kernel_rfl) (by kernel_rfl) (by kernel_rfl) (by kernel_rfl)
  have f1 := rl_valueOfP
  have f2 := rl_typeP
  have f3 := rl_methodKind
  have f4 := rl_kindP
  have f5 := rl_kindE
  have f6 := rl_methodElem
  have f7 := rl_methodImplements
  have f8 := rl_elemP
  have f9 := rl_implementsE
  have hgl : g < w.heap.size := World.block_lt_of_cell? w _ hg
  have htl : tb < w.heap.size := World.block_lt_of_cell? w _ ht
  have hGl : 0 < w.heap.size := World.block_lt_of_cell? w _ hG
  have n8 := rl_isNilP ⟨w.heap.size, 0, none⟩ ⟨tb, 0, none⟩ ((w.alloc (.cells #[.pointer (some ⟨tb, 0, none⟩)] 85)).alloc (.cells #[.pointer (some ⟨4, 85, none⟩), .pointer (some ⟨w.heap.size, 0, none⟩), .int .u64 150] 132)) (by simp)
  have hG2 : ((w.alloc (.cells #[.pointer (some ⟨tb, 0, none⟩)] 85)).alloc (.cells #[.pointer (some ⟨4, 85, none⟩), .pointer (some ⟨w.heap.size, 0, none⟩), .int .u64 150] 132)).cell? ⟨0, 0, none⟩ = some (.iface 159 (.agg #[.pointer (some ⟨4, 68, none⟩)])) := by
    rw [World.cell?_alloc_lt _ _ ⟨0, 0, none⟩ (by simp), World.cell?_alloc_lt _ _ ⟨0, 0, none⟩ hGl]; exact hG
  have cc : ∀ (q : Addr) (v : Value), w.cell? q = some v → ((w.alloc (.cells #[.pointer (some ⟨tb, 0, none⟩)] 85)).alloc (.cells #[.pointer (some ⟨4, 85, none⟩), .pointer (some ⟨w.heap.size, 0, none⟩), .int .u64 150] 132)).cell? q = some v := fun q v hq => by
    have hql := World.block_lt_of_cell? w _ hq
    rw [World.cell?_alloc_lt _ _ q (by simp; omega), World.cell?_alloc_lt _ _ q hql]; exact hq
  have HC : Hid (∀ (q : Addr) (v : Value), w.cell? q = some v → ((w.alloc (.cells #[.pointer (some ⟨tb, 0, none⟩)] 85)).alloc (.cells #[.pointer (some ⟨4, 85, none⟩), .pointer (some ⟨w.heap.size, 0, none⟩), .int .u64 150] 132)).cell? q = some v) := cc
  clear cc
  go_enter Tryz.func39, Tryz.ntmps39
  go_wp2_with fail
  refine (as_ok g tb ⟨w.heap.size, 0, none⟩ k old _ ?_ ?_ ?_ ?_ ?_).mono ?_
  · simp
  · simp; omega
  · exact HC.out _ _ hg
  · exact HC.out _ _ ht
  · rw [World.frozen?_alloc_old _ _ ⟨tb, 0, none⟩ (by simp; omega), World.frozen?_alloc_old _ _ ⟨tb, 0, none⟩ (Nat.ne_of_lt htl)]; exact hf
  rintro e w2 ⟨rfl, hc2, hf2⟩
  go_wp2
  go_ret
  exact ⟨rfl, hc2, ((Fr.refl _ _).alloc _ |>.alloc _).trans hf2 (fun _ _ h => h)⟩

theorem Told_nil (w : World) : Calls Tryz.prog 27 #[.nilIface] w fun e w' => e = .returned (.int .i64 0) ∧ w' = w := by
  go_enter Tryz.func27, Tryz.ntmps27
  go_wp2
  go_ret
  exact ⟨rfl, rfl⟩
theorem Told_err (g : Nat) (k : Int) (w : World) (hG : w.cell? ⟨0, 0, none⟩ = some (.iface 159 (.agg #[.pointer (some ⟨4, 68, none⟩)])))
    (hg : w.cell? ⟨g, 1, none⟩ = some (.iface 70 (.int .i64 k))) :
    Calls Tryz.prog 27 #[.iface 155 (.pointer (some ⟨g, 0, none⟩))] w fun e w' => e = .returned (.int .i64 k) ∧ Fr (fun _ => False) w w' := by
  have hgl : g < w.heap.size := World.block_lt_of_cell? w _ hg
  have hGl : 0 < w.heap.size := World.block_lt_of_cell? w _ hG
  go_enter Tryz.func27, Tryz.ntmps27
  go_wp2_with fail
  refine (As_ok g w.heap.size k (.int .i64 0) _ ?_ ?_ ?_ ?_).mono ?_
  · rw [World.cell?_alloc_lt _ _ ⟨0, 0, none⟩ hGl]; exact hG
  · rw [World.cell?_alloc_lt _ _ ⟨g, 1, none⟩ hgl]; exact hg
  · simp
  · simp
  rintro e w2 ⟨rfl, hc2, hf2⟩
  go_wp2
  go_ret
  exact ⟨rfl, ((Fr.refl _ _).alloc _).trans hf2 (fun k hk h => by omega)⟩
end Go.Proofs.YthnmpgnaahkgkaaGreatDoor
