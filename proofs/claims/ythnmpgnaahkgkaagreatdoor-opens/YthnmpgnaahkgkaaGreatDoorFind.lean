import Derived.Test.YthnmpgnaahkgkaaGreatDoorEq
namespace Go.Proofs.YthnmpgnaahkgkaaGreatDoor
open Go.RowKit

set_option maxRecDepth 100000 in
set_option maxHeartbeats 2000000 in
theorem Find1_ok {w : World} {X V A B n : Nat} {calls writes : Int} {bs : List Value} (h : Held w X V A B n (.slice none 0 0) calls writes bs) (h0 : 0 ≤ calls) (h1 : calls < 100000000) (hn8 : 8 ≤ n) (hn : n ≤ 400)
    (b : Bool) (hq : ∀ w, (binOp .neq 153 (.agg (bs.take 128).toArray) (.agg (headB n).toArray)).run Tryz.prog w = .ok (.bool b) w) :
    Calls Tryz.prog 86 #[.pointer (some ⟨X, 0, none⟩)] w fun e w' => e = .returned (ferr b) ∧ Held w' X V A B n (.slice none 0 0) (calls + 1) writes bs ∧ Fr (fun b => b = A) w w' := by
  obtain ⟨nXA, nXB, nVA, nVB, nAB⟩ := h.ne
  go_enter Tryz.func86, Tryz.ntmps86
  go_wp2_with fail
  have hlift : Tryz.prog.follows .mixedOrders = true := by kernel_rfl
  obtain ⟨W, HW⟩ : ∃ W, Hid (W = w.drew) := ⟨_, rfl⟩
  have hhW : Held W X V A B n (.slice none 0 0) calls writes bs := by rw [HW.out]; exact ⟨h.x, h.v, h.d, h.r⟩
  have hFW : Fr (fun b => b = A) w W := by rw [HW.out]; exact (Fr.refl _ _).drew
  let S : World → Prop := fun w' => w'.cell? ⟨X, 0, none⟩ = some (.pointer (some ⟨V, 0, none⟩))
  have hS : S W := hhW.cx
  refine wp_region_held (S := S) hlift ?_
  change wpAnyH _ _ _ _ S _ _ _ (World.drew _)
  rw [← HW.out]
  refine wpAnyH_take (S := S) (i := 0) (oi := ⟨some 2, .load 124 (.tmp 0), _, _, _, none⟩) (v := .pointer (some ⟨V, 0, none⟩)) rfl (by kernel_rfl) (by kernel_rfl) (by kernel_rfl) (fun _ _ _ h => h) (Or.inl ⟨rfl, fun w' hs => exec_load 124 (.tmp 0) rfl ⟨X, 0, none⟩ rfl (run_loadAt_one hs Tryz.underlying124 rfl)⟩) hS ?_
  simp only [Act.put, List.setIfInBounds_toArray, List.set_cons_zero, List.set_cons_succ]
  refine wpAnyH_take (S := S) (i := 2) (oi := ⟨some 4, .load 124 (.tmp 0), _, _, _, none⟩) (v := .pointer (some ⟨V, 0, none⟩)) rfl (by kernel_rfl) (by kernel_rfl) (by kernel_rfl) (fun _ _ _ h => h) (Or.inl ⟨rfl, fun w' hs => exec_load 124 (.tmp 0) rfl ⟨X, 0, none⟩ rfl (run_loadAt_one hs Tryz.underlying124 rfl)⟩) hS ?_
  simp only [Act.put, List.setIfInBounds_toArray, List.set_cons_zero, List.set_cons_succ]
  refine wpAnyH_all (rs := [1]) (by kernel_rfl) (by simp) ?_
  intro i1 hi1
  obtain rfl : i1 = 1 := by simpa using hi1
  refine wpOp_call (o := ⟨some 3, .call { callee := .value (.func 87), args := #[.tmp 2, .const (.int .i64 0)], argTypes := _ }, _, _, _, none⟩) (f := 87) (args := #[.pointer (some ⟨V, 0, none⟩), .int .i64 0]) rfl rfl (by kernel_rfl) ?_
  refine (Load_ok hhW.v hhW.d hhW.r h0 (by omega) 0 (by omega)).mono ?_
  rintro e w2 ⟨rfl, hd2, hf2⟩
  have hh2 : Held w2 X V A B n (.slice none 0 0) (calls + 1) writes bs := ⟨hf2.keep hhW.x nXA, hf2.keep hhW.v nVA, hd2, hf2.keep hhW.r.1 nAB.symm, hhW.r.2⟩
  have hF2 : Fr (fun b => b = A) w w2 := hFW.trans hf2 (fun _ _ h => h)
  refine ⟨_, rfl, hh2.cx, ?_⟩
  simp only [Act.put, List.setIfInBounds_toArray, List.set_cons_zero, List.set_cons_succ]
  refine wpAnyH_all (rs := [3]) (by kernel_rfl) (by simp) ?_
  intro i3 hi3
  obtain rfl : i3 = 3 := by simpa using hi3
  refine wpOp_call (o := ⟨some 5, .call { callee := .value (.func 81), args := #[.tmp 4], argTypes := _ }, _, _, _, none⟩) (f := 81) (args := #[.pointer (some ⟨V, 0, none⟩)]) rfl rfl (by kernel_rfl) ?_
  refine (vBlocks_ok hh2.v).mono ?_
  rintro e w' ⟨rfl, rfl⟩
  refine ⟨_, rfl, hh2.cx, ?_⟩
  simp only [Act.put, List.setIfInBounds_toArray, List.set_cons_zero, List.set_cons_succ]
  refine wpAnyH_all (rs := [4]) (by kernel_rfl) (by simp) ?_
  intro i4 hi4
  obtain rfl : i4 = 4 := by simpa using hi4
  refine wpOp_call (o := ⟨some 6, .call { callee := .value (.func 82), args := #[.tmp 5], argTypes := _ }, _, _, _, none⟩) (f := 82) (args := #[.int .i64 n]) rfl rfl (by kernel_rfl) ?_
  refine (Head_ok _ n hn).mono ?_
  rintro e w3 ⟨rfl, hf3⟩
  have hh3 : Held w3 X V A B n (.slice none 0 0) (calls + 1) writes bs := ⟨hf3.keep hh2.x id, hf3.keep hh2.v id, hh2.d.fr hf3 id, hf3.keep hh2.r.1 id, hh2.r.2⟩
  have hF3 : Fr (fun b => b = A) w w3 := hF2.trans hf3 (fun _ _ h => h.elim)
  have hS3 : S w3 := hh3.cx
  refine ⟨_, rfl, hh3.cx, ?_⟩
  simp only [Act.put, List.setIfInBounds_toArray, List.set_cons_zero, List.set_cons_succ]
  refine wpAnyH_take (S := S) (i := 5) (oi := ⟨some 7, .binOp .neq 153 (.tmp 3) (.tmp 6) 153, _, _, _, none⟩) (v := .bool b) rfl (by kernel_rfl) (by kernel_rfl) (by kernel_rfl) (fun _ _ _ h => h) (Or.inl ⟨rfl, fun w' _ => exec_neq_block rfl rfl rfl (hq w')⟩) hS3 ?_
  simp only [Act.put, List.setIfInBounds_toArray, List.set_cons_zero, List.set_cons_succ]
  refine wpAnyH_done (by kernel_rfl) ?_ _
  clear hS hS3
  cases b
  · go_wp2
    go_ret
    exact ⟨rfl, hh3, hF3⟩
  · go_wp2
    go_ret
    exact ⟨rfl, hh3, hF3⟩
end Go.Proofs.YthnmpgnaahkgkaaGreatDoor
