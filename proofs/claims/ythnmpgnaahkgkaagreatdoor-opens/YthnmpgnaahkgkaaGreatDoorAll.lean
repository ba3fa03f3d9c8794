import Derived.RangeFuncNested
import Derived.RangeFuncBound
import Derived.RangeFuncCalls
import Derived.RangeFuncLeaves
import Derived.RangeFuncFrom
import Derived.Shelf.Abstract
import Derived.Shelf.RegionOpen
import Derived.WalkKit
import Derived.OwnWalkIn
import Derived.TacticsInMore
import Derived.LoopNIn
import Derived.LoopIn
import Derived.Test.YthnmpgnaahkgkaaGreatDoorFr
import Derived.Test.YthnmpgnaahkgkaaGreatDoorProg
namespace Go.Proofs.YthnmpgnaahkgkaaGreatDoor
open Go.RowKit Go.Shelf

theorem eAll_ok (x : Value) (w : World) : Calls Tryz.prog 72 #[x] w fun e w' => e = .returned (.func (.func 88) #[] #[]) ∧ w' = w := by
  go_enter Tryz.func72, Tryz.ntmps72
  go_wp2
  go_ret
  exact ⟨rfl, rfl⟩

theorem eAll1_in (F : Fence) (n : Nat) (hF : F.fn 88) (hro : F.round = none) (y : Value) (w : World) : CallsIn F n Tryz.prog 88 #[y] w fun e w' => e = .returned (.tuple #[]) ∧ w' = w := by
  refine callsIn_of_wp Tryz.func88 rfl hF ?_ hro
  simp only [Tryz.ntmps88, List.size_toArray, List.length_cons, List.length_nil, Nat.reduceAdd, Nat.reduceSub, Array.replicate_succ, Array.replicate_zero, List.push_toArray, List.append_toArray, List.nil_append, List.cons_append]
  gi_wp2
  go_end0
  exact ⟨rfl, rfl⟩

theorem none_stops (F : Fence) (n : Nat) (hF : F.fn 88) (hro : F.round = none) (w : World) : SeqStopsK (α := Empty) F n Tryz.prog 88 #[] (fun x => nomatch x) (Below w.heap.size) (fun _ => True) (fun _ => False) 0 w := by
  intro l J Jx W hB hJ hJx hY h0
  refine (eAll1_in F n hF hro _ W).mono ?_
  rintro e w' ⟨rfl, rfl⟩
  exact ⟨⟨_, rfl⟩, .inl ⟨[], trivial, h0⟩⟩

set_option maxRecDepth 100000 in
set_option maxHeartbeats 1000000 in
theorem pAll_in (x : Value) (w : World) : CallsIn Fence.wide 3 Tryz.prog 42 #[x, .int .i64 1048576] w fun e w' => e = .returned (.slice none 0 0) ∧ Below w.heap.size w w' := by
  have hro : Fence.wide.round = none := rfl
  refine callsIn_of_wp_marks Tryz.func42 rfl trivial ?_ hro
  simp only [Tryz.ntmps42, List.size_toArray, List.length_cons, List.length_nil, Nat.reduceAdd, Nat.reduceSub, Array.replicate_succ, Array.replicate_zero, List.push_toArray, List.append_toArray, List.nil_append, List.cons_append]
  gi_wp2_with (refine ⟨trivial, ?_⟩; gi_at_call 72; refine (callsIn_wide.2 (eAll_ok _ _)).mono ?_; rintro e w' ⟨rfl, rfl⟩)
  have hsz : ((w.alloc (.cells #[.int .i64 1048576] 3)).alloc (.cells #[.slice none 0 0] 88)).heap.size = w.heap.size + 2 := by simp
  refine wpIn_rangeFunc_ownF hro (by decide) (gf := 88) (lb := #[]) rfl trivial (enters_of Tryz.func88 (by kernel_rfl) rfl)
    (none_stops Fence.wide _ trivial hro _) belowK_t (belowK_b (Nat.le_refl _)) (Below.refl _ _) (fun x => nomatch x)
    (fun _ W => W.cell? ⟨w.heap.size + 1, 0, none⟩ = some (.slice none 0 0) ∧ Below w.heap.size w W)
    (fun _ _ _ => False)
    (OwnFrom.and (Own.from (fun s A B row hs hg hr => cell_kept hs hg hr) _) (ownFrom_below (Nat.le_refl _) (by simp; omega)))
    (fun _ _ _ _ _ hs _ _ => hs)
    ⟨?h0a, ((Below.refl _ w).alloc (Nat.le_refl _) _).alloc (by simp) _⟩
    (fun x => nomatch x) (fun _ x => nomatch x) (fun _ _ x => nomatch x) ?done ?stop
  case h0a =>
    have := cell_of_row ((w.alloc (.cells #[.int .i64 1048576] 3)).alloc (.cells #[.slice none 0 0] 88)) (w.heap.size + 1) 0 #[.slice none 0 0] 88 (0, 0) (heap_alloc2_new w _ _)
    rw [this]; rfl
  case done =>
    rintro D ys W hD _ ⟨hc, hB⟩ hK
    gi_wp2
    refine ⟨by simp, .inl ⟨_, _, rfl, run_takeDeferred hK, ?_⟩⟩
    exact ⟨_, results_tmp rfl _ _ _, rfl, hB.trans (belowK_b (w := w) (Nat.le_refl _) W D _ _ (by simp at hD; omega) hK rfl rfl)⟩
  case stop =>
    rintro D c pre W _ h _ _
    exact h.elim

theorem pAll_ok (x : Value) (w : World) : Calls Tryz.prog 42 #[x, .int .i64 1048576] w fun e w' => e = .returned (.slice none 0 0) ∧ Fr (fun _ => False) w w' :=
  ((callsIn_wide (n := 3)).1 (pAll_in x w)).mono (fun _ _ h => ⟨h.1, ⟨h.2.os, h.2.tape, h.2.output, h.2.size, fun k hk _ => h.2.block k hk⟩⟩)
end Go.Proofs.YthnmpgnaahkgkaaGreatDoor
