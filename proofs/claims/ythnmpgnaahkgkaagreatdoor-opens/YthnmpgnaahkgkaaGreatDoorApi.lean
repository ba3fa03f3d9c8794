import Derived.Test.YthnmpgnaahkgkaaGreatDoorProg
import Derived.Test.YthnmpgnaahkgkaaGreatDoorFr
import Derived.WalkSpells
import Derived.WalkLawsBesides
namespace Go.Proofs.YthnmpgnaahkgkaaGreatDoor
open Go.RowKit

/-- The cells of a disk in memory. -/
def dcells (B n : Nat) (cache : Value) (calls writes : Int) : Array Value :=
  #[.slice (some ⟨B, 0, none⟩) n n, cache, .int .i64 calls, .int .i64 writes, .int .i64 0, .int .i64 (-1), .int .i64 0, .int .i64 0]
/-- A disk lies at block A: its blocks at B, n of them. -/
def DiskAt (w : World) (A B n : Nat) (cache : Value) (calls writes : Int) : Prop :=
  w.heap[A]? = some (.cells (dcells B n cache calls writes) 62 (0, 0))

section
variable {w : World} {A B n : Nat} {cache : Value} {calls writes : Int}
theorem DiskAt.c0 (h : DiskAt w A B n cache calls writes) : w.cell? ⟨A, 0, none⟩ = some (.slice (some ⟨B, 0, none⟩) n n) := by rw [cell_of_row w A 0 _ _ _ h]; rfl
theorem DiskAt.c1 (h : DiskAt w A B n cache calls writes) : w.cell? ⟨A, 1, none⟩ = some cache := by rw [cell_of_row w A 1 _ _ _ h]; rfl
theorem DiskAt.c2 (h : DiskAt w A B n cache calls writes) : w.cell? ⟨A, 2, none⟩ = some (.int .i64 calls) := by rw [cell_of_row w A 2 _ _ _ h]; rfl
theorem DiskAt.c3 (h : DiskAt w A B n cache calls writes) : w.cell? ⟨A, 3, none⟩ = some (.int .i64 writes) := by rw [cell_of_row w A 3 _ _ _ h]; rfl
theorem DiskAt.c4 (h : DiskAt w A B n cache calls writes) : w.cell? ⟨A, 4, none⟩ = some (.int .i64 0) := by rw [cell_of_row w A 4 _ _ _ h]; rfl
theorem DiskAt.c5 (h : DiskAt w A B n cache calls writes) : w.cell? ⟨A, 5, none⟩ = some (.int .i64 (-1)) := by rw [cell_of_row w A 5 _ _ _ h]; rfl
theorem DiskAt.c6 (h : DiskAt w A B n cache calls writes) : w.cell? ⟨A, 6, none⟩ = some (.int .i64 0) := by rw [cell_of_row w A 6 _ _ _ h]; rfl
theorem DiskAt.c7 (h : DiskAt w A B n cache calls writes) : w.cell? ⟨A, 7, none⟩ = some (.int .i64 0) := by rw [cell_of_row w A 7 _ _ _ h]; rfl
theorem DiskAt.fz (h : DiskAt w A B n cache calls writes) (j : Nat) : w.frozen? ⟨A, j, none⟩ = false := frozen_of_row w A j _ _ h
theorem DiskAt.lt (h : DiskAt w A B n cache calls writes) : A < w.heap.size := lt_of_heap h
theorem DiskAt.set1 (h : DiskAt w A B n cache calls writes) (v : Value) : DiskAt (w.setCell ⟨A, 1, none⟩ v) A B n v calls writes := heap_setCell_at w A 1 _ _ v h
theorem DiskAt.set2 (h : DiskAt w A B n cache calls writes) (v : Int) : DiskAt (w.setCell ⟨A, 2, none⟩ (.int .i64 v)) A B n cache v writes := heap_setCell_at w A 2 _ _ _ h
theorem DiskAt.set3 (h : DiskAt w A B n cache calls writes) (v : Int) : DiskAt (w.setCell ⟨A, 3, none⟩ (.int .i64 v)) A B n cache calls v := heap_setCell_at w A 3 _ _ _ h
theorem DiskAt.drew (h : DiskAt w A B n cache calls writes) : DiskAt w.drew A B n cache calls writes := h
theorem DiskAt.alloc (h : DiskAt w A B n cache calls writes) (o : Obj) : DiskAt (w.alloc o) A B n cache calls writes := by
  unfold DiskAt; rw [heap_alloc_lt w o A h.lt]; exact h
theorem DiskAt.setCell (h : DiskAt w A B n cache calls writes) (p : Addr) (v : Value) (hp : A ≠ p.block) : DiskAt (w.setCell p v) A B n cache calls writes := by
  unfold DiskAt; rw [heap_setCell_ne w p A v hp]; exact h
theorem DiskAt.fr {S : Nat → Prop} {w' : World} (h : DiskAt w A B n cache calls writes) (hf : Fr S w w') (hn : ¬ S A) : DiskAt w' A B n cache calls writes := hf.keep h hn
end

theorem fails_ok {w : World} {A B n : Nat} {cache : Value} {calls writes : Int} (h : DiskAt w A B n cache calls writes) (h0 : 0 ≤ calls) (h1 : calls < 1000000000) :
    Calls Tryz.prog 129 #[.pointer (some ⟨A, 0, none⟩)] w fun e w' => e = .returned (.bool false) ∧ DiskAt w' A B n cache (calls + 1) writes ∧ Fr (· = A) w w' ∧ w'.heap.size = w.heap.size := by
  have hq := h.set2 (calls + 1)
  have c2 := h.c2
  have c5 := h.c5
  have c6 := h.c6
  have c7 := h.c7
  have f2 := h.fz 2
  have hd : decide (calls < 0) = false := by simp; omega
  clear h
  go_enter Tryz.func129, Tryz.ntmps129
  go_wp2
  go_ret
  exact ⟨rfl, hq, Fr.set1 _ _ _ _, by simp⟩

theorem none_ok {w : World} {A B n : Nat} {cache : Value} {calls writes : Int} (h : DiskAt w A B n cache calls writes) (i : Int) (h0 : 0 ≤ i) (h1 : i < n) :
    Calls Tryz.prog 130 #[.pointer (some ⟨A, 0, none⟩), .int .i64 i] w fun e w' => e = .returned (.bool false) ∧ w' = w := by
  have c0 := h.c0
  have hd : decide (i < 0) = false := by simp; omega
  have hd2 : decide ((n : Int) ≤ i) = false := by simp; omega
  clear h
  go_enter Tryz.func130, Tryz.ntmps130
  go_wp2
  go_ret
  exact ⟨rfl, rfl⟩

theorem dTold_ok {w : World} {A B n : Nat} {cache : Value} {calls writes : Int} (h : DiskAt w A B n cache calls writes) :
    Calls Tryz.prog 25 #[.pointer (some ⟨A, 0, none⟩)] w fun e w' => e = .returned (.int .i64 0) ∧ w' = w := by
  have c4 := h.c4
  clear h
  go_enter Tryz.func25, Tryz.ntmps25
  go_wp2
  go_ret
  exact ⟨rfl, rfl⟩
theorem Writes_ok {w : World} {A B n : Nat} {cache : Value} {calls writes : Int} (h : DiskAt w A B n cache calls writes) :
    Calls Tryz.prog 30 #[.pointer (some ⟨A, 0, none⟩)] w fun e w' => e = .returned (.int .i64 writes) ∧ w' = w := by
  have c3 := h.c3
  clear h
  go_enter Tryz.func30, Tryz.ntmps30
  go_wp2
  go_ret
  exact ⟨rfl, rfl⟩
theorem Pending_ok {w : World} {A B n : Nat} {calls writes : Int} (h : DiskAt w A B n (.slice none 0 0) calls writes) :
    Calls Tryz.prog 18 #[.pointer (some ⟨A, 0, none⟩)] w fun e w' => e = .returned (.int .i64 0) ∧ w' = w := by
  have c1 := h.c1
  clear h
  go_enter Tryz.func18, Tryz.ntmps18
  go_wp2
  go_ret
  exact ⟨rfl, rfl⟩
theorem dBlocks_ok {w : World} {A B n : Nat} {cache : Value} {calls writes : Int} (h : DiskAt w A B n cache calls writes) :
    Calls Tryz.prog 125 #[.pointer (some ⟨A, 0, none⟩)] w fun e w' => e = .returned (.int .i64 n) ∧ w' = w := by
  have c0 := h.c0
  clear h
  go_enter Tryz.func125, Tryz.ntmps125
  go_wp2
  go_ret
  exact ⟨rfl, rfl⟩
end Go.Proofs.YthnmpgnaahkgkaaGreatDoor
