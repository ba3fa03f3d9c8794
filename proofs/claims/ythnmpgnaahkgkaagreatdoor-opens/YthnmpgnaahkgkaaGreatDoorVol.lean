import Derived.Test.YthnmpgnaahkgkaaGreatDoorRead
import Derived.Test.YthnmpgnaahkgkaaGreatDoorBs
namespace Go.Proofs.YthnmpgnaahkgkaaGreatDoor
open Go.RowKit

/-- A volume over the disk at A lies at V. -/
def VolAt (w : World) (V A n : Nat) : Prop := w.heap[V]? = some (.cells #[.iface 39 (.pointer (some ⟨A, 0, none⟩)), .int .i64 n] 150 (0, 0))
theorem VolAt.c0 {w : World} {V A n : Nat} (h : VolAt w V A n) : w.cell? ⟨V, 0, none⟩ = some (.iface 39 (.pointer (some ⟨A, 0, none⟩))) := by rw [cell_of_row w V 0 _ _ _ h]; rfl
theorem VolAt.c1 {w : World} {V A n : Nat} (h : VolAt w V A n) : w.cell? ⟨V, 1, none⟩ = some (.int .i64 n) := by rw [cell_of_row w V 1 _ _ _ h]; rfl
theorem VolAt.fr {S : Nat → Prop} {w w' : World} {V A n : Nat} (h : VolAt w V A n) (hf : Fr S w w') (hn : ¬ S V) : VolAt w' V A n := hf.keep h hn
theorem VolAt.ne {w : World} {V A B n m : Nat} {c : Value} {x y : Int} (h : VolAt w V A n) (hd : DiskAt w m B n c x y) : V ≠ m := by
  intro e; subst e
  have := h.symm.trans hd
  simp [dcells] at this

theorem vBlocks_ok {w : World} {V A n : Nat} (h : VolAt w V A n) :
    Calls Tryz.prog 81 #[.pointer (some ⟨V, 0, none⟩)] w fun e w' => e = .returned (.int .i64 n) ∧ w' = w := by
  have c1 := h.c1
  clear h
  go_enter Tryz.func81, Tryz.ntmps81
  go_wp2
  go_ret
  exact ⟨rfl, rfl⟩


theorem Part0_cut (C : Nat) (w : World) : (Instr.sliceAt 153 (.pointer (some ⟨C, 0, none⟩)) (some (.int .i64 0)) (some (.int .i64 128)) (some (.int .i64 128))).run Tryz.prog w = .ok (.slice (some ⟨C, 0, none⟩) 128 128) w := by kernel_rfl
theorem Part0_ok (w : World) (C : Nat) :
    Calls Tryz.prog 92 #[.pointer (some ⟨C, 0, none⟩), .int .i64 0, .int .i64 128] w fun e w' => e = .returned (.slice (some ⟨C, 0, none⟩) 128 128) ∧ w' = w := by
  go_enter Tryz.func92, Tryz.ntmps92
  go_wp2_with (refine wpList_sliceAt 153 (.tmp 8) (some (.tmp 9)) (some (.tmp 12)) (some (.tmp 15)) (v := .slice (some ⟨C, 0, none⟩) 128 128) (w' := w) rfl rfl ?_ ?_; exact Part0_cut C w)
  go_ret
  exact ⟨rfl, rfl⟩

theorem Part1_cut (C : Nat) (w : World) : (Instr.sliceAt 153 (.pointer (some ⟨C, 0, none⟩)) (some (.int .i64 1)) (some (.int .i64 3)) (some (.int .i64 3))).run Tryz.prog w = .ok (.slice (some ⟨C, 1, none⟩) 2 2) w := by kernel_rfl
theorem Part1_ok (w : World) (C : Nat) :
    Calls Tryz.prog 92 #[.pointer (some ⟨C, 0, none⟩), .int .i64 1, .int .i64 2] w fun e w' => e = .returned (.slice (some ⟨C, 1, none⟩) 2 2) ∧ w' = w := by
  go_enter Tryz.func92, Tryz.ntmps92
  go_wp2_with (refine wpList_sliceAt 153 (.tmp 8) (some (.tmp 9)) (some (.tmp 12)) (some (.tmp 15)) (v := .slice (some ⟨C, 1, none⟩) 2 2) (w' := w) rfl rfl ?_ ?_; exact Part1_cut C w)
  go_ret
  exact ⟨rfl, rfl⟩

theorem Part3_cut (C : Nat) (w : World) : (Instr.sliceAt 153 (.pointer (some ⟨C, 0, none⟩)) (some (.int .i64 3)) (some (.int .i64 27)) (some (.int .i64 27))).run Tryz.prog w = .ok (.slice (some ⟨C, 3, none⟩) 24 24) w := by kernel_rfl
theorem Part3_ok (w : World) (C : Nat) :
    Calls Tryz.prog 92 #[.pointer (some ⟨C, 0, none⟩), .int .i64 3, .int .i64 24] w fun e w' => e = .returned (.slice (some ⟨C, 3, none⟩) 24 24) ∧ w' = w := by
  go_enter Tryz.func92, Tryz.ntmps92
  go_wp2_with (refine wpList_sliceAt 153 (.tmp 8) (some (.tmp 9)) (some (.tmp 12)) (some (.tmp 15)) (v := .slice (some ⟨C, 3, none⟩) 24 24) (w' := w) rfl rfl ?_ ?_; exact Part3_cut C w)
  go_ret
  exact ⟨rfl, rfl⟩
end Go.Proofs.YthnmpgnaahkgkaaGreatDoor
