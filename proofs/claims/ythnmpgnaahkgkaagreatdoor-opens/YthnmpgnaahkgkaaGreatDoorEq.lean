import Derived.Test.YthnmpgnaahkgkaaGreatDoorLay
namespace Go.Proofs.YthnmpgnaahkgkaaGreatDoor
open Go.RowKit

/-- What a look for a journal tells. -/
def ferr (b : Bool) : Value := if b then .iface 70 (.int .i64 6) else .nilIface
/-- An array of bytes is equal to itself. -/
theorem equal_self (d : Nat) (xs : Array Value) (w : World) (hi : ∀ i, i < 128 → ∃ z : Int, xs[i]? = some (.int .u8 z)) :
    (Op.equalIn (d + 2) 153 (.agg xs) (.agg xs)).run Tryz.prog w = .ok true w := by
  have hsz : (sizeOf 5).run Tryz.prog w = .ok 1 w := by kernel_rfl
  unfold Op.equalIn
  simp only [Sem.run_bind, run_underlying Tryz.underlying153, Result.andThen_ok, hsz, Std.Legacy.Range.forIn_eq_forIn_range', Std.Legacy.Range.size, Nat.sub_zero, Nat.add_sub_cancel, Nat.div_one]
  have hsub : ∀ i ∈ List.range' 0 128, i < 128 := by intro i h; simp at h; omega
  generalize List.range' 0 128 = l at hsub
  induction l with
  | nil => simp
  | cons i l ih =>
    obtain ⟨z, hz⟩ := hi i (hsub i (by simp))
    have hp : (part 5 xs (i * 1)).run Tryz.prog w = .ok (.int .u8 z) w := by
      have ha : (isAgg 5).run Tryz.prog w = .ok false w := by kernel_rfl
      simp [part, Sem.run_bind, ha, hz]
    simp only [List.forIn_cons, Sem.run_bind, hp, Result.andThen_ok, run_equalIn_int w d 5 .u8 .u8 z z Tryz.underlying5, beq_self_eq_true, Bool.not_true, Bool.false_eq_true, if_false, Sem.run_pure]
    exact ih (fun j hj => hsub j (by simp [hj]))

theorem headB_ints (n : Nat) : ∀ i, i < 128 → ∃ z : Int, (headB n).toArray[i]? = some (.int .u8 z) := by
  intro i hi
  have hl := headB_len n
  have hm : ∀ v ∈ headB n, ∃ z : Int, v = .int .u8 z := by
    intro v hv
    simp only [headB, markB, List.mem_append, List.mem_cons, List.not_mem_nil, or_false, List.mem_map, List.mem_replicate] at hv
    rcases hv with (rfl | rfl | rfl) | ⟨_, _, rfl⟩ | ⟨_, rfl⟩ <;> exact ⟨_, rfl⟩
  have hlt : i < (headB n).length := by omega
  obtain ⟨z, hz⟩ := hm _ (List.getElem_mem hlt)
  exact ⟨z, by simp [List.getElem?_eq_getElem hlt, hz]⟩
theorem neq_head (n : Nat) (w : World) : (binOp .neq 153 (.agg (headB n).toArray) (.agg (headB n).toArray)).run Tryz.prog w = .ok (.bool false) w := by
  rw [run_neq_struct]
  have := equal_self 9998 (headB n).toArray w (headB_ints n)
  rw [this]; rfl
theorem neq_zero (n : Nat) (w : World) : (binOp .neq 153 (.agg zB.toArray) (.agg (headB n).toArray)).run Tryz.prog w = .ok (.bool true) w := by
  rw [run_neq_struct]
  have hsz : (sizeOf 5).run Tryz.prog w = .ok 1 w := by kernel_rfl
  have h0 : (Op.equalIn 10000 153 (.agg zB.toArray) (.agg (headB n).toArray)).run Tryz.prog w = .ok false w := by
    show (Op.equalIn (9998 + 2) 153 (.agg zB.toArray) (.agg (headB n).toArray)).run Tryz.prog w = .ok false w
    unfold Op.equalIn
    simp only [Sem.run_bind, run_underlying Tryz.underlying153, Result.andThen_ok, hsz, Std.Legacy.Range.forIn_eq_forIn_range', Std.Legacy.Range.size, Nat.sub_zero, Nat.add_sub_cancel, Nat.div_one]
    have hr : List.range' 0 128 = 0 :: List.range' 1 127 := rfl
    have hp1 : (part 5 zB.toArray (0 * 1)).run Tryz.prog w = .ok (.int .u8 0) w := by kernel_rfl
    have hp2 : (part 5 (headB n).toArray (0 * 1)).run Tryz.prog w = .ok (.int .u8 1) w := by kernel_rfl
    rw [hr]
    simp only [List.forIn_cons, Sem.run_bind, hp1, hp2, Result.andThen_ok, run_equalIn_int w 9998 5 .u8 .u8 0 1 Tryz.underlying5]
    simp
  rw [h0]; rfl
section
variable {P : Program} {ρ : Operand → Value} {o : Oper} {w w' : World} {v : Value}
theorem exec_neq_block {x y : Operand} {xs ys : Array Value} (ho : o.op = .binOp .neq 153 x y 153) (hx : ρ x = .agg xs) (hy : ρ y = .agg ys) {b : Bool} (hr : (binOp .neq 153 (.agg xs) (.agg ys)).run Tryz.prog w = .ok (.bool b) w) : (execOp ρ o).run Tryz.prog w = .ok (.value (.bool b)) w := by
  have hg := run_eqGuard_agg (P := Tryz.prog) w .neq 153 x y xs ys (by kernel_rfl)
  simp only [execOp, ho, hx, hy, Sem.run_bind, hg, hr, Result.andThen_ok, Sem.run_pure]
end
end Go.Proofs.YthnmpgnaahkgkaaGreatDoor
