import Derived.Test.YthnmpgnaahkgkaaGreatDoorPl
namespace Go.Proofs.YthnmpgnaahkgkaaGreatDoor
open Go.RowKit

theorem Lies.below {w w' : World} {ao : Option Addr} {l : List OR} (h : Lies w ao l) (hb : Below w.heap.size w w') : Lies w' ao l := by
  intro i o ho
  obtain ⟨g, off, e, hr⟩ := h i o ho
  exact ⟨g, off, e, fun j u hu => by
    have hc := hr j u hu
    rw [hb.cell (World.block_lt_of_cell? w _ hc)]; exact hc⟩

set_option maxRecDepth 100000 in
set_option maxHeartbeats 2000000 in
theorem opens_ok {w : World} {ao : Option Addr} {cap : Nat} {l : List OR} (hl : Lies w ao l) (hok : ∀ o ∈ l, o.ok) (hG : GOk w) (hg : 0 < w.heap.size) :
    Calls Tryz.prog 3 #[.slice ao l.length cap] w fun e w' => e = .returned (.bool true) ∧ Below w.heap.size w w' := by
  have hB : Below w.heap.size w (w.alloc (.cells #[.int .i64 10, .int .i64 11] 3)) := (Below.refl _ _).alloc (Nat.le_refl _) _
  have HU := plays_ok (cap := cap) (gk := w.heap.size) (hl.below hB) hok (by rw [cell_of_row _ _ 0 _ _ _ (heap_alloc_at _ _)]; rfl) (by rw [cell_of_row _ _ 1 _ _ _ (heap_alloc_at _ _)]; rfl) (hG.below hB hg) (Nat.lt_of_lt_of_le hg hB.size)
  go_enter Tryz.func3, Tryz.ntmps3
  go_wp2_with fail
  refine HU.mono ?_
  rintro e w2 ⟨rfl, hb2⟩
  have HE : Hid (Below w.heap.size w w2) := hB.trans (hb2.mono hB.size)
  clear hb2 HU hB
  go_wp2
  go_ret
  exact ⟨rfl, HE.out⟩
end Go.Proofs.YthnmpgnaahkgkaaGreatDoor
