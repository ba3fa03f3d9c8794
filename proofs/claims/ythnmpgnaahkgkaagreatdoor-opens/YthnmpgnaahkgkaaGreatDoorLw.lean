import Derived.Test.YthnmpgnaahkgkaaGreatDoorFmt
import Derived.Test.YthnmpgnaahkgkaaGreatDoorAsW
import Derived.Test.YthnmpgnaahkgkaaGreatDoorAll
namespace Go.Proofs.YthnmpgnaahkgkaaGreatDoor
open Go.RowKit

/-- The cells of a disk of the script. -/
def lc (A Pp n : Nat) (nn : Bool) (x : Value) (pause : Int) : Array Value :=
  #[.pointer (some ⟨A, 0, none⟩), .pointer (some ⟨Pp, 0, none⟩), .int .i64 n, .bool nn, .bool false, x, .int .i64 pause, .int .i64 0, .bool false, .slice none 0 0]
def LawAt (w : World) (D A Pp n : Nat) (nn : Bool) (x : Value) (pause : Int) : Prop := w.heap[D]? = some (.cells (lc A Pp n nn x pause) 46 (0, 0))
def PartAt (w : World) (Pp : Nat) (l : Value) : Prop := w.heap[Pp]? = some (.cells #[.slice none 0 0, .slice none 0 0, l, .int .i64 0] 76 (0, 0))
section
variable {w : World} {D A Pp n : Nat} {nn : Bool} {x : Value} {pause : Int}
theorem LawAt.c0 (h : LawAt w D A Pp n nn x pause) : w.cell? ⟨D, 0, none⟩ = some (.pointer (some ⟨A, 0, none⟩)) := by rw [cell_of_row w D 0 _ _ _ h]; rfl
theorem LawAt.c1 (h : LawAt w D A Pp n nn x pause) : w.cell? ⟨D, 1, none⟩ = some (.pointer (some ⟨Pp, 0, none⟩)) := by rw [cell_of_row w D 1 _ _ _ h]; rfl
theorem LawAt.c2 (h : LawAt w D A Pp n nn x pause) : w.cell? ⟨D, 2, none⟩ = some (.int .i64 n) := by rw [cell_of_row w D 2 _ _ _ h]; rfl
theorem LawAt.c3 (h : LawAt w D A Pp n nn x pause) : w.cell? ⟨D, 3, none⟩ = some (.bool nn) := by rw [cell_of_row w D 3 _ _ _ h]; rfl
theorem LawAt.c4 (h : LawAt w D A Pp n nn x pause) : w.cell? ⟨D, 4, none⟩ = some (.bool false) := by rw [cell_of_row w D 4 _ _ _ h]; rfl
theorem LawAt.c5 (h : LawAt w D A Pp n nn x pause) : w.cell? ⟨D, 5, none⟩ = some x := by rw [cell_of_row w D 5 _ _ _ h]; rfl
theorem LawAt.c6 (h : LawAt w D A Pp n nn x pause) : w.cell? ⟨D, 6, none⟩ = some (.int .i64 pause) := by rw [cell_of_row w D 6 _ _ _ h]; rfl
theorem LawAt.c7 (h : LawAt w D A Pp n nn x pause) : w.cell? ⟨D, 7, none⟩ = some (.int .i64 0) := by rw [cell_of_row w D 7 _ _ _ h]; rfl
theorem LawAt.c8 (h : LawAt w D A Pp n nn x pause) : w.cell? ⟨D, 8, none⟩ = some (.bool false) := by rw [cell_of_row w D 8 _ _ _ h]; rfl
theorem LawAt.c9 (h : LawAt w D A Pp n nn x pause) : w.cell? ⟨D, 9, none⟩ = some (.slice none 0 0) := by rw [cell_of_row w D 9 _ _ _ h]; rfl
theorem LawAt.fz (h : LawAt w D A Pp n nn x pause) (j : Nat) : w.frozen? ⟨D, j, none⟩ = false := frozen_of_row w D j _ _ h
theorem LawAt.set5 (h : LawAt w D A Pp n nn x pause) (v : Value) : LawAt (w.setCell ⟨D, 5, none⟩ v) D A Pp n nn v pause := heap_setCell_at w D 5 _ _ v h
theorem LawAt.set3 (h : LawAt w D A Pp n nn x pause) (b : Bool) : LawAt (w.setCell ⟨D, 3, none⟩ (.bool b)) D A Pp n b x pause := heap_setCell_at w D 3 _ _ _ h
theorem LawAt.set4 (h : LawAt w D A Pp n nn x pause) : LawAt (w.setCell ⟨D, 4, none⟩ (.bool false)) D A Pp n nn x pause := heap_setCell_at w D 4 _ _ _ h
theorem LawAt.set6 (h : LawAt w D A Pp n nn x pause) (p : Int) : LawAt (w.setCell ⟨D, 6, none⟩ (.int .i64 p)) D A Pp n nn x p := heap_setCell_at w D 6 _ _ _ h
theorem LawAt.set7 (h : LawAt w D A Pp n nn x pause) : LawAt (w.setCell ⟨D, 7, none⟩ (.int .i64 0)) D A Pp n nn x pause := heap_setCell_at w D 7 _ _ _ h
theorem LawAt.set8 (h : LawAt w D A Pp n nn x pause) : LawAt (w.setCell ⟨D, 8, none⟩ (.bool false)) D A Pp n nn x pause := heap_setCell_at w D 8 _ _ _ h
theorem LawAt.set9 (h : LawAt w D A Pp n nn x pause) : LawAt (w.setCell ⟨D, 9, none⟩ (.slice none 0 0)) D A Pp n nn x pause := heap_setCell_at w D 9 _ _ _ h
end

/-- A disk of the script, at rest. -/
structure Whole (w : World) (D A B Pp n : Nat) (nn : Bool) (x : Value) (pause calls writes : Int) (bs : List Value) : Prop where
  l : LawAt w D A Pp n nn x pause
  p : ∃ lv, PartAt w Pp lv
  d : DiskAt w A B n (.slice none 0 0) calls writes
  r : RowsAt w B n bs
theorem Whole.ne {w : World} {D A B Pp n : Nat} {nn : Bool} {x : Value} {pause calls writes : Int} {bs : List Value} (h : Whole w D A B Pp n nn x pause calls writes bs) : D ≠ A ∧ D ≠ B ∧ D ≠ Pp ∧ Pp ≠ A ∧ Pp ≠ B ∧ A ≠ B := by
  obtain ⟨lv, hp⟩ := h.p
  refine ⟨?_, ?_, ?_, ?_, ?_, ?_⟩ <;> intro e <;> subst e
  · have := h.l.symm.trans h.d; simp at this
  · have := h.l.symm.trans h.r.1; simp at this
  · have := h.l.symm.trans hp; simp at this
  · have := hp.symm.trans h.d; simp at this
  · have := hp.symm.trans h.r.1; simp at this
  · have := h.d.symm.trans h.r.1; simp at this
theorem Whole.set {w : World} {D A B Pp n : Nat} {nn nn' : Bool} {x x' : Value} {pause pause' calls writes : Int} {bs : List Value} (h : Whole w D A B Pp n nn x pause calls writes bs) {i : Nat} {v : Value} (hl : LawAt (w.setCell ⟨D, i, none⟩ v) D A Pp n nn' x' pause') :
    Whole (w.setCell ⟨D, i, none⟩ v) D A B Pp n nn' x' pause' calls writes bs := by
  obtain ⟨n1, n2, n3, n4, n5, n6⟩ := h.ne
  obtain ⟨lv, hp⟩ := h.p
  exact ⟨hl, ⟨lv, by unfold PartAt; rw [heap_setCell_ne _ _ _ _ n3.symm]; exact hp⟩, h.d.setCell _ _ n1.symm, by rw [heap_setCell_ne _ _ _ _ n2.symm]; exact h.r.1, h.r.2⟩
theorem Whole.fr {S : Nat → Prop} {w w' : World} {D A B Pp n : Nat} {nn : Bool} {x : Value} {pause calls writes calls' writes' : Int} {bs bs' : List Value} (h : Whole w D A B Pp n nn x pause calls writes bs) (hf : Fr S w w') (hD : ¬ S D) (hP : ¬ S Pp) (hd : DiskAt w' A B n (.slice none 0 0) calls' writes') (hr : RowsAt w' B n bs') :
    Whole w' D A B Pp n nn x pause calls' writes' bs' := by
  obtain ⟨lv, hp⟩ := h.p
  exact ⟨hf.keep h.l hD, ⟨lv, hf.keep hp hP⟩, hd, hr⟩
theorem Whole.frz {w w' : World} {D A B Pp n : Nat} {nn : Bool} {x : Value} {pause calls writes : Int} {bs : List Value} (h : Whole w D A B Pp n nn x pause calls writes bs) (hf : Fr (fun _ => False) w w') : Whole w' D A B Pp n nn x pause calls writes bs :=
  h.fr hf id id (h.d.fr hf id) ⟨hf.keep h.r.1 id, h.r.2⟩

theorem num_ok (k : Int) (w : World) : Calls Tryz.prog 28 #[.int .i64 k] w fun e w' => e = .returned (.int .i64 k) ∧ w' = w := by
  go_enter Tryz.func28, Tryz.ntmps28
  go_wp2
  go_ret
  exact ⟨rfl, rfl⟩
def inB (n : Nat) : Bool := decide (8 ≤ n ∧ n ≤ 400)
theorem fits_ok {w : World} {D A Pp n : Nat} {nn : Bool} {x : Value} {pause : Int} (h : LawAt w D A Pp n nn x pause) : Calls Tryz.prog 29 #[.pointer (some ⟨D, 0, none⟩)] w fun e w' => e = .returned (.bool (inB n)) ∧ w' = w := by
  have c2 := h.c2
  by_cases h8 : 8 ≤ n
  · have h8' : decide ((8 : Int) ≤ n) = true := by simp; omega
    by_cases h4 : n ≤ 400
    · have hi : inB n = true := by simp [inB, h8, h4]
      have h4' : decide ((n : Int) ≤ 400) = true := by simp; omega
      rw [hi]
      clear hi
      go_enter Tryz.func29, Tryz.ntmps29
      go_wp2
      go_ret
      exact ⟨rfl, rfl⟩
    · have hi : inB n = false := by simp [inB, h4]
      have h4' : decide ((n : Int) ≤ 400) = false := by simp; omega
      rw [hi]
      clear hi
      go_enter Tryz.func29, Tryz.ntmps29
      go_wp2
      go_ret
      exact ⟨rfl, rfl⟩
  · have h8' : decide ((8 : Int) ≤ n) = false := by simp; omega
    have hi : inB n = false := by simp [inB, h8]
    rw [hi]
    clear hi
    go_enter Tryz.func29, Tryz.ntmps29
    go_wp2
    go_ret
    exact ⟨rfl, rfl⟩

def GOk (w : World) : Prop := w.cell? ⟨0, 0, none⟩ = some (.iface 159 (.agg #[.pointer (some ⟨4, 68, none⟩)]))
theorem Told_any {w : World} {v : Value} {k : Int} (h : ErrAt w v k) (hG : GOk w) : Calls Tryz.prog 27 #[v] w fun e w' => e = .returned (.int .i64 k) ∧ Fr (fun _ => False) w w' := by
  rcases h with ⟨rfl, rfl⟩ | ⟨g, s, rfl, hg, hk⟩
  · refine (Told_nil w).mono ?_
    rintro e w' ⟨rfl, rfl⟩
    exact ⟨rfl, Fr.refl _ _⟩
  · exact Told_err g k w hG (by rw [cell_of_row w g 1 _ _ _ hg]; rfl)
theorem GOk.fr {S : Nat → Prop} {w w' : World} (h : GOk w) (hf : Fr S w w') (hn : ¬ S 0) : GOk w' := hf.cell h hn
end Go.Proofs.YthnmpgnaahkgkaaGreatDoor
