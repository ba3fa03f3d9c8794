import Derived.Test.YthnmpgnaahkgkaaGreatDoorLf
namespace Go.Proofs.YthnmpgnaahkgkaaGreatDoor
open Go.RowKit

set_option maxRecDepth 100000 in
set_option maxHeartbeats 1000000 in
theorem found_ok {w : World} {D A B Pp n : Nat} {x : Value} {pause calls writes : Int} {bs : List Value} (h : Whole w D A B Pp n false x pause calls writes bs) (y : Nat) (p : Int) :
    Calls Tryz.prog 32 #[.pointer (some ⟨D, 0, none⟩), .pointer (some ⟨y, 0, none⟩), .int .i64 p] w fun e w' => e = .returned (.bool true) ∧ Whole w' D A B Pp n false (.pointer (some ⟨y, 0, none⟩)) p calls writes bs ∧ Fr (· = D) w w' := by
  go_enter Tryz.func32, Tryz.ntmps32
  go_wp2_with fail
  refine (pAll_ok _ _).mono ?_
  rintro e w2 ⟨rfl, hf2⟩
  have h2 := h.frz hf2
  have c0 := h2.l.c0
  have c4 := h2.l.c4
  go_wp2_with fail
  refine (Pending_ok h2.d).mono ?_
  rintro e w' ⟨rfl, rfl⟩
  have c3 := h2.l.c3
  have c5 := h2.l.c5
  have c6 := h2.l.c6
  have c7 := h2.l.c7
  have c8 := h2.l.c8
  have c9 := h2.l.c9
  have fz : ∀ j, w'.frozen? ⟨D, j, none⟩ = false := h2.l.fz
  have HW : Hid (Whole w' D A B Pp n false x pause calls writes bs) := h2
  have HF : Hid (Fr (· = D) w w') := hf2.mono (fun _ _ h => h.elim)
  clear h h2 hf2
  go_wp2
  refine wp_loop_rounds 1 ?_
  rw [rounds_succ]
  go_wp2
  go_ret
  have h2 := HW.out
  have e5 := h2.set (h2.l.set5 (.pointer (some ⟨y, 0, none⟩)))
  have e6 := e5.set (e5.l.set6 p)
  have e7 := e6.set e6.l.set7
  have e8 := e7.set e7.l.set8
  have e9 := e8.set e8.l.set9
  have e3 := e9.set (e9.l.set3 false)
  have e4 := e3.set e3.l.set4
  refine ⟨rfl, e4, ?_⟩
  exact ((((((HF.out.setCell _ (fun _ => rfl) _).setCell _ (fun _ => rfl) _).setCell _ (fun _ => rfl) _).setCell _ (fun _ => rfl) _).setCell _ (fun _ => rfl) _).setCell _ (fun _ => rfl) _).setCell _ (fun _ => rfl) _

set_option maxRecDepth 100000 in
set_option maxHeartbeats 2000000 in
theorem opened_pause {w : World} {D A B Pp n : Nat} {nn : Bool} {x : Value} {pause calls writes : Int} {bs : List Value} (h : Whole w D A B Pp n nn x pause calls writes bs) (hG : GOk w) (hgD : 0 ≠ D) (hgA : 0 ≠ A) (p : Int) (hp : p < 1 ∨ 64 < p) :
    Calls Tryz.prog 19 #[.pointer (some ⟨D, 0, none⟩), .int .i64 p] w fun e w' => e = .returned (.bool true) ∧ Whole w' D A B Pp n nn (.pointer none) pause calls writes bs ∧ Fr (fun b => b = D ∨ b = A) w w' := by
  obtain ⟨n1, n2, n3, n4, n5, n6⟩ := h.ne
  have h1 := h.set (h.l.set5 (.pointer none))
  have hF1 : Fr (fun b => b = D ∨ b = A) w (w.setCell ⟨D, 5, none⟩ (.pointer none)) := (Fr.set1 _ _ _ _).mono (fun _ _ h => Or.inl h)
  have hG1 := hG.fr hF1 (by rintro (e | e); exact hgD e; exact hgA e)
  have c5 := h.l.c5
  have f5 := h.l.fz 5
  have c0 := h1.l.c0
  have c1 := h1.l.c1
  obtain ⟨lv, hp1⟩ := h1.p
  have cp0 : (w.setCell ⟨D, 5, none⟩ (.pointer none)).cell? ⟨Pp, 0, none⟩ = some (.slice none 0 0) := by rw [cell_of_row _ Pp 0 _ _ _ hp1]; rfl
  go_enter Tryz.func19, Tryz.ntmps19
  go_wp2_with fail
  refine (dTold_ok h1.d).mono ?_
  rintro e w' ⟨rfl, rfl⟩
  go_wp2_with fail
  refine (Writes_ok h1.d).mono ?_
  rintro e w' ⟨rfl, rfl⟩
  go_wp2_with fail
  refine (Pending_ok h1.d).mono ?_
  rintro e w' ⟨rfl, rfl⟩
  go_wp2_with fail
  have hlift : Tryz.prog.follows .mixedOrders = true := by kernel_rfl
  obtain ⟨W, HW⟩ : ∃ W, Hid (W = (w.setCell ⟨D, 5, none⟩ (.pointer none)).drew) := ⟨_, rfl⟩
  have hWd : Fr (fun _ => False) (w.setCell ⟨D, 5, none⟩ (.pointer none)) W := by rw [HW.out]; exact (Fr.refl _ _).drew
  have hW := h1.frz hWd
  have hFW := hF1.trans hWd (fun _ _ h => h.elim)
  have hGW := hG1.fr hWd id
  clear c0 c1 c5 f5 cp0 hp1
  let S : World → Prop := fun w' => w'.cell? ⟨D, 0, none⟩ = some (.pointer (some ⟨A, 0, none⟩)) ∧ w'.cell? ⟨D, 1, none⟩ = some (.pointer (some ⟨Pp, 0, none⟩))
  have hS : S W := ⟨hW.l.c0, hW.l.c1⟩
  refine wp_region_held (S := S) hlift ?_
  change wpAnyH _ _ _ _ S _ _ _ (World.drew _)
  rw [← HW.out]
  refine wpAnyH_take (S := S) (i := 0) (oi := ⟨some 42, .move (.tmp 0), _, _, _, none⟩) (v := .pointer (some ⟨D, 0, none⟩)) rfl (by kernel_rfl) (by kernel_rfl) (by kernel_rfl) (fun _ _ _ h => h) (Or.inl ⟨rfl, fun _ _ => rfl⟩) hS ?_
  simp only [Act.put, List.setIfInBounds_toArray, List.set_cons_zero, List.set_cons_succ]
  refine wpAnyH_take (S := S) (i := 1) (oi := ⟨some 43, .nilCheck (.tmp 42), _, _, _, none⟩) (v := .pointer (some ⟨D, 0, none⟩)) rfl (by kernel_rfl) (by kernel_rfl) (by kernel_rfl) (fun _ _ _ h => h) (Or.inl ⟨rfl, fun _ _ => rfl⟩) hS ?_
  simp only [Act.put, List.setIfInBounds_toArray, List.set_cons_zero, List.set_cons_succ]
  refine wpAnyH_take (S := S) (i := 2) (oi := ⟨some 44, .fieldAddr 46 (.tmp 43) 0, _, _, _, none⟩) (v := .pointer (some ⟨D, 0, none⟩)) rfl (by kernel_rfl) (by kernel_rfl) (by kernel_rfl) (fun _ _ _ h => h) (Or.inl ⟨rfl, fun _ _ => by kernel_rfl⟩) hS ?_
  simp only [Act.put, List.setIfInBounds_toArray, List.set_cons_zero, List.set_cons_succ]
  refine wpAnyH_take (S := S) (i := 3) (oi := ⟨some 45, .load 39 (.tmp 44), _, _, _, none⟩) (v := .pointer (some ⟨A, 0, none⟩)) rfl (by kernel_rfl) (by kernel_rfl) (by kernel_rfl) (fun _ _ _ h => h) (Or.inl ⟨rfl, fun w' hs => exec_load 39 (.tmp 44) rfl ⟨D, 0, none⟩ rfl (run_loadAt_one hs.1 Tryz.underlying39 rfl)⟩) hS ?_
  simp only [Act.put, List.setIfInBounds_toArray, List.set_cons_zero, List.set_cons_succ]
  refine wpAnyH_take (S := S) (i := 4) (oi := ⟨some 46, .move (.tmp 1), _, _, _, none⟩) (v := .int .i64 p) rfl (by kernel_rfl) (by kernel_rfl) (by kernel_rfl) (fun _ _ _ h => h) (Or.inl ⟨rfl, fun _ _ => rfl⟩) hS ?_
  simp only [Act.put, List.setIfInBounds_toArray, List.set_cons_zero, List.set_cons_succ]
  refine wpAnyH_take (S := S) (i := 5) (oi := ⟨some 47, .move (.tmp 0), _, _, _, none⟩) (v := .pointer (some ⟨D, 0, none⟩)) rfl (by kernel_rfl) (by kernel_rfl) (by kernel_rfl) (fun _ _ _ h => h) (Or.inl ⟨rfl, fun _ _ => rfl⟩) hS ?_
  simp only [Act.put, List.setIfInBounds_toArray, List.set_cons_zero, List.set_cons_succ]
  refine wpAnyH_take (S := S) (i := 6) (oi := ⟨some 48, .nilCheck (.tmp 47), _, _, _, none⟩) (v := .pointer (some ⟨D, 0, none⟩)) rfl (by kernel_rfl) (by kernel_rfl) (by kernel_rfl) (fun _ _ _ h => h) (Or.inl ⟨rfl, fun _ _ => rfl⟩) hS ?_
  simp only [Act.put, List.setIfInBounds_toArray, List.set_cons_zero, List.set_cons_succ]
  refine wpAnyH_take (S := S) (i := 7) (oi := ⟨some 49, .fieldAddr 46 (.tmp 48) 1, _, _, _, none⟩) (v := .pointer (some ⟨D, 1, none⟩)) rfl (by kernel_rfl) (by kernel_rfl) (by kernel_rfl) (fun _ _ _ h => h) (Or.inl ⟨rfl, fun _ _ => by kernel_rfl⟩) hS ?_
  simp only [Act.put, List.setIfInBounds_toArray, List.set_cons_zero, List.set_cons_succ]
  refine wpAnyH_take (S := S) (i := 8) (oi := ⟨some 50, .load 40 (.tmp 49), _, _, _, none⟩) (v := .pointer (some ⟨Pp, 0, none⟩)) rfl (by kernel_rfl) (by kernel_rfl) (by kernel_rfl) (fun _ _ _ h => h) (Or.inl ⟨rfl, fun w' hs => exec_load 40 (.tmp 49) rfl ⟨D, 1, none⟩ rfl (run_loadAt_one hs.2 Tryz.underlying40 rfl)⟩) hS ?_
  simp only [Act.put, List.setIfInBounds_toArray, List.set_cons_zero, List.set_cons_succ]
  refine wpAnyH_all (rs := [9]) (by kernel_rfl) (by simp) ?_
  intro i9 hi9
  obtain rfl : i9 = 9 := by simpa using hi9
  refine wpOp_call (o := ⟨some 51, .call { callee := .value (.func 31), args := #[.tmp 45, .tmp 46, .tmp 50], argTypes := _ }, _, _, _, none⟩) (f := 31) (args := #[.pointer (some ⟨A, 0, none⟩), .int .i64 p, .pointer (some ⟨Pp, 0, none⟩)]) rfl rfl (by kernel_rfl) ?_
  refine (pOpen_pause p hp).mono ?_
  rintro e w2 ⟨v, rfl, hv, hf2⟩
  have h2 := hW.frz hf2
  have hG2 := hGW.fr hf2 id
  have hF2 := hFW.trans hf2 (fun _ _ h => h.elim)
  have hS2 : S w2 := ⟨h2.l.c0, h2.l.c1⟩
  refine ⟨_, rfl, hS2, ?_⟩
  simp only [Act.put, List.setIfInBounds_toArray, List.set_cons_zero, List.set_cons_succ]
  refine wpAnyH_take (S := S) (i := 10) (oi := ⟨some 41, .move (.tmp 51), _, _, _, none⟩) (v := .tuple #[.pointer none, v]) rfl (by kernel_rfl) (by kernel_rfl) (by kernel_rfl) (fun _ _ _ h => h) (Or.inl ⟨rfl, fun _ _ => rfl⟩) hS2 ?_
  simp only [Act.put, List.setIfInBounds_toArray, List.set_cons_zero, List.set_cons_succ]
  refine wpAnyH_take (S := S) (i := 11) (oi := ⟨some 52, .extract (.tmp 41) 0, _, _, _, none⟩) (v := .pointer none) rfl (by kernel_rfl) (by kernel_rfl) (by kernel_rfl) (fun _ _ _ h => h) (Or.inl ⟨rfl, fun _ _ => rfl⟩) hS2 ?_
  simp only [Act.put, List.setIfInBounds_toArray, List.set_cons_zero, List.set_cons_succ]
  refine wpAnyH_take (S := S) (i := 12) (oi := ⟨some 53, .extract (.tmp 41) 1, _, _, _, none⟩) (v := v) rfl (by kernel_rfl) (by kernel_rfl) (by kernel_rfl) (fun _ _ _ h => h) (Or.inl ⟨rfl, fun _ _ => rfl⟩) hS2 ?_
  simp only [Act.put, List.setIfInBounds_toArray, List.set_cons_zero, List.set_cons_succ]
  refine wpAnyH_take (S := S) (i := 13) (oi := ⟨some 9, .assign (.tmp 52), _, _, _, none⟩) (v := .pointer none) rfl (by kernel_rfl) (by kernel_rfl) (by kernel_rfl) (fun _ _ _ h => h) (Or.inl ⟨rfl, fun _ _ => rfl⟩) hS2 ?_
  simp only [Act.put, List.setIfInBounds_toArray, List.set_cons_zero, List.set_cons_succ]
  refine wpAnyH_take (S := S) (i := 14) (oi := ⟨some 10, .assign (.tmp 53), _, _, _, none⟩) (v := v) rfl (by kernel_rfl) (by kernel_rfl) (by kernel_rfl) (fun _ _ _ h => h) (Or.inl ⟨rfl, fun _ _ => rfl⟩) hS2 ?_
  simp only [Act.put, List.setIfInBounds_toArray, List.set_cons_zero, List.set_cons_succ]
  refine wpAnyH_done (by kernel_rfl) ?_ _
  clear hS hS2 hW hFW hWd h1 hF1 hG1 hGW
  go_wp2_with fail
  refine (Told_any hv hG2).mono ?_
  rintro e w3 ⟨rfl, hf3⟩
  have h3 := h2.frz hf3
  have hF3 := hF2.trans hf3 (fun _ _ h => h.elim)
  clear h2 hF2 hG2 hf3 hv
  go_wp2_with fail
  refine (num_ok 8 _).mono ?_
  rintro e w' ⟨rfl, rfl⟩
  go_wp2_with fail
  refine (fits_ok h3.l).mono ?_
  rintro e w' ⟨rfl, rfl⟩
  have c0 := h3.l.c0
  have c1 := h3.l.c1
  have c3 := h3.l.c3
  obtain ⟨lv3, hp3⟩ := h3.p
  have cp0 : w'.cell? ⟨Pp, 0, none⟩ = some (.slice none 0 0) := by rw [cell_of_row _ Pp 0 _ _ _ hp3]; rfl
  go_wp2_with fail
  refine (Writes_ok h3.d).mono ?_
  rintro e w' ⟨rfl, rfl⟩
  go_wp2_with fail
  refine (Pending_ok h3.d).mono ?_
  rintro e w' ⟨rfl, rfl⟩
  rcases hp with hp | hp
  · go_wp2
    go_ret
    exact ⟨rfl, h3, hF3⟩
  · have hp' : decide (p < 1) = false := by simp; omega
    go_wp2
    go_ret
    exact ⟨rfl, h3, hF3⟩

set_option maxRecDepth 100000 in
set_option maxHeartbeats 2000000 in
theorem opened_bad {w : World} {D A B Pp n : Nat} {nn : Bool} {x : Value} {pause calls writes : Int} {bs : List Value} (h : Whole w D A B Pp n nn x pause calls writes bs) (hG : GOk w) (hgD : 0 ≠ D) (hgA : 0 ≠ A) (p : Int) (hp1 : 1 ≤ p) (hp2 : p ≤ 64) (hn : n < 8 ∨ 400 < n) :
    Calls Tryz.prog 19 #[.pointer (some ⟨D, 0, none⟩), .int .i64 p] w fun e w' => e = .returned (.bool true) ∧ Whole w' D A B Pp n nn (.pointer none) pause calls writes bs ∧ Fr (fun b => b = D ∨ b = A) w w' := by
  obtain ⟨n1, n2, n3, n4, n5, n6⟩ := h.ne
  have h1 := h.set (h.l.set5 (.pointer none))
  have hF1 : Fr (fun b => b = D ∨ b = A) w (w.setCell ⟨D, 5, none⟩ (.pointer none)) := (Fr.set1 _ _ _ _).mono (fun _ _ h => Or.inl h)
  have hG1 := hG.fr hF1 (by rintro (e | e); exact hgD e; exact hgA e)
  have c5 := h.l.c5
  have f5 := h.l.fz 5
  have c0 := h1.l.c0
  have c1 := h1.l.c1
  obtain ⟨lv, hp1⟩ := h1.p
  have cp0 : (w.setCell ⟨D, 5, none⟩ (.pointer none)).cell? ⟨Pp, 0, none⟩ = some (.slice none 0 0) := by rw [cell_of_row _ Pp 0 _ _ _ hp1]; rfl
  go_enter Tryz.func19, Tryz.ntmps19
  go_wp2_with fail
  refine (dTold_ok h1.d).mono ?_
  rintro e w' ⟨rfl, rfl⟩
  go_wp2_with fail
  refine (Writes_ok h1.d).mono ?_
  rintro e w' ⟨rfl, rfl⟩
  go_wp2_with fail
  refine (Pending_ok h1.d).mono ?_
  rintro e w' ⟨rfl, rfl⟩
  go_wp2_with fail
  have hlift : Tryz.prog.follows .mixedOrders = true := by kernel_rfl
  obtain ⟨W, HW⟩ : ∃ W, Hid (W = (w.setCell ⟨D, 5, none⟩ (.pointer none)).drew) := ⟨_, rfl⟩
  have hWd : Fr (fun _ => False) (w.setCell ⟨D, 5, none⟩ (.pointer none)) W := by rw [HW.out]; exact (Fr.refl _ _).drew
  have hW := h1.frz hWd
  have hFW := hF1.trans hWd (fun _ _ h => h.elim)
  have hGW := hG1.fr hWd id
  clear c0 c1 c5 f5 cp0 hp1
  let S : World → Prop := fun w' => w'.cell? ⟨D, 0, none⟩ = some (.pointer (some ⟨A, 0, none⟩)) ∧ w'.cell? ⟨D, 1, none⟩ = some (.pointer (some ⟨Pp, 0, none⟩))
  have hS : S W := ⟨hW.l.c0, hW.l.c1⟩
  refine wp_region_held (S := S) hlift ?_
  change wpAnyH _ _ _ _ S _ _ _ (World.drew _)
  rw [← HW.out]
  refine wpAnyH_take (S := S) (i := 0) (oi := ⟨some 42, .move (.tmp 0), _, _, _, none⟩) (v := .pointer (some ⟨D, 0, none⟩)) rfl (by kernel_rfl) (by kernel_rfl) (by kernel_rfl) (fun _ _ _ h => h) (Or.inl ⟨rfl, fun _ _ => rfl⟩) hS ?_
  simp only [Act.put, List.setIfInBounds_toArray, List.set_cons_zero, List.set_cons_succ]
  refine wpAnyH_take (S := S) (i := 1) (oi := ⟨some 43, .nilCheck (.tmp 42), _, _, _, none⟩) (v := .pointer (some ⟨D, 0, none⟩)) rfl (by kernel_rfl) (by kernel_rfl) (by kernel_rfl) (fun _ _ _ h => h) (Or.inl ⟨rfl, fun _ _ => rfl⟩) hS ?_
  simp only [Act.put, List.setIfInBounds_toArray, List.set_cons_zero, List.set_cons_succ]
  refine wpAnyH_take (S := S) (i := 2) (oi := ⟨some 44, .fieldAddr 46 (.tmp 43) 0, _, _, _, none⟩) (v := .pointer (some ⟨D, 0, none⟩)) rfl (by kernel_rfl) (by kernel_rfl) (by kernel_rfl) (fun _ _ _ h => h) (Or.inl ⟨rfl, fun _ _ => by kernel_rfl⟩) hS ?_
  simp only [Act.put, List.setIfInBounds_toArray, List.set_cons_zero, List.set_cons_succ]
  refine wpAnyH_take (S := S) (i := 3) (oi := ⟨some 45, .load 39 (.tmp 44), _, _, _, none⟩) (v := .pointer (some ⟨A, 0, none⟩)) rfl (by kernel_rfl) (by kernel_rfl) (by kernel_rfl) (fun _ _ _ h => h) (Or.inl ⟨rfl, fun w' hs => exec_load 39 (.tmp 44) rfl ⟨D, 0, none⟩ rfl (run_loadAt_one hs.1 Tryz.underlying39 rfl)⟩) hS ?_
  simp only [Act.put, List.setIfInBounds_toArray, List.set_cons_zero, List.set_cons_succ]
  refine wpAnyH_take (S := S) (i := 4) (oi := ⟨some 46, .move (.tmp 1), _, _, _, none⟩) (v := .int .i64 p) rfl (by kernel_rfl) (by kernel_rfl) (by kernel_rfl) (fun _ _ _ h => h) (Or.inl ⟨rfl, fun _ _ => rfl⟩) hS ?_
  simp only [Act.put, List.setIfInBounds_toArray, List.set_cons_zero, List.set_cons_succ]
  refine wpAnyH_take (S := S) (i := 5) (oi := ⟨some 47, .move (.tmp 0), _, _, _, none⟩) (v := .pointer (some ⟨D, 0, none⟩)) rfl (by kernel_rfl) (by kernel_rfl) (by kernel_rfl) (fun _ _ _ h => h) (Or.inl ⟨rfl, fun _ _ => rfl⟩) hS ?_
  simp only [Act.put, List.setIfInBounds_toArray, List.set_cons_zero, List.set_cons_succ]
  refine wpAnyH_take (S := S) (i := 6) (oi := ⟨some 48, .nilCheck (.tmp 47), _, _, _, none⟩) (v := .pointer (some ⟨D, 0, none⟩)) rfl (by kernel_rfl) (by kernel_rfl) (by kernel_rfl) (fun _ _ _ h => h) (Or.inl ⟨rfl, fun _ _ => rfl⟩) hS ?_
  simp only [Act.put, List.setIfInBounds_toArray, List.set_cons_zero, List.set_cons_succ]
  refine wpAnyH_take (S := S) (i := 7) (oi := ⟨some 49, .fieldAddr 46 (.tmp 48) 1, _, _, _, none⟩) (v := .pointer (some ⟨D, 1, none⟩)) rfl (by kernel_rfl) (by kernel_rfl) (by kernel_rfl) (fun _ _ _ h => h) (Or.inl ⟨rfl, fun _ _ => by kernel_rfl⟩) hS ?_
  simp only [Act.put, List.setIfInBounds_toArray, List.set_cons_zero, List.set_cons_succ]
  refine wpAnyH_take (S := S) (i := 8) (oi := ⟨some 50, .load 40 (.tmp 49), _, _, _, none⟩) (v := .pointer (some ⟨Pp, 0, none⟩)) rfl (by kernel_rfl) (by kernel_rfl) (by kernel_rfl) (fun _ _ _ h => h) (Or.inl ⟨rfl, fun w' hs => exec_load 40 (.tmp 49) rfl ⟨D, 1, none⟩ rfl (run_loadAt_one hs.2 Tryz.underlying40 rfl)⟩) hS ?_
  simp only [Act.put, List.setIfInBounds_toArray, List.set_cons_zero, List.set_cons_succ]
  refine wpAnyH_all (rs := [9]) (by kernel_rfl) (by simp) ?_
  intro i9 hi9
  obtain rfl : i9 = 9 := by simpa using hi9
  refine wpOp_call (o := ⟨some 51, .call { callee := .value (.func 31), args := #[.tmp 45, .tmp 46, .tmp 50], argTypes := _ }, _, _, _, none⟩) (f := 31) (args := #[.pointer (some ⟨A, 0, none⟩), .int .i64 p, .pointer (some ⟨Pp, 0, none⟩)]) rfl rfl (by kernel_rfl) ?_
  refine (pOpen_bad hW.d hn p hp1 hp2).mono ?_
  rintro e w2 ⟨v, rfl, hv, hf2⟩
  have h2 := hW.frz hf2
  have hG2 := hGW.fr hf2 id
  have hF2 := hFW.trans hf2 (fun _ _ h => h.elim)
  have hS2 : S w2 := ⟨h2.l.c0, h2.l.c1⟩
  refine ⟨_, rfl, hS2, ?_⟩
  simp only [Act.put, List.setIfInBounds_toArray, List.set_cons_zero, List.set_cons_succ]
  refine wpAnyH_take (S := S) (i := 10) (oi := ⟨some 41, .move (.tmp 51), _, _, _, none⟩) (v := .tuple #[.pointer none, v]) rfl (by kernel_rfl) (by kernel_rfl) (by kernel_rfl) (fun _ _ _ h => h) (Or.inl ⟨rfl, fun _ _ => rfl⟩) hS2 ?_
  simp only [Act.put, List.setIfInBounds_toArray, List.set_cons_zero, List.set_cons_succ]
  refine wpAnyH_take (S := S) (i := 11) (oi := ⟨some 52, .extract (.tmp 41) 0, _, _, _, none⟩) (v := .pointer none) rfl (by kernel_rfl) (by kernel_rfl) (by kernel_rfl) (fun _ _ _ h => h) (Or.inl ⟨rfl, fun _ _ => rfl⟩) hS2 ?_
  simp only [Act.put, List.setIfInBounds_toArray, List.set_cons_zero, List.set_cons_succ]
  refine wpAnyH_take (S := S) (i := 12) (oi := ⟨some 53, .extract (.tmp 41) 1, _, _, _, none⟩) (v := v) rfl (by kernel_rfl) (by kernel_rfl) (by kernel_rfl) (fun _ _ _ h => h) (Or.inl ⟨rfl, fun _ _ => rfl⟩) hS2 ?_
  simp only [Act.put, List.setIfInBounds_toArray, List.set_cons_zero, List.set_cons_succ]
  refine wpAnyH_take (S := S) (i := 13) (oi := ⟨some 9, .assign (.tmp 52), _, _, _, none⟩) (v := .pointer none) rfl (by kernel_rfl) (by kernel_rfl) (by kernel_rfl) (fun _ _ _ h => h) (Or.inl ⟨rfl, fun _ _ => rfl⟩) hS2 ?_
  simp only [Act.put, List.setIfInBounds_toArray, List.set_cons_zero, List.set_cons_succ]
  refine wpAnyH_take (S := S) (i := 14) (oi := ⟨some 10, .assign (.tmp 53), _, _, _, none⟩) (v := v) rfl (by kernel_rfl) (by kernel_rfl) (by kernel_rfl) (fun _ _ _ h => h) (Or.inl ⟨rfl, fun _ _ => rfl⟩) hS2 ?_
  simp only [Act.put, List.setIfInBounds_toArray, List.set_cons_zero, List.set_cons_succ]
  refine wpAnyH_done (by kernel_rfl) ?_ _
  clear hS hS2 hW hFW hWd h1 hF1 hG1 hGW
  go_wp2_with fail
  refine (Told_any hv hG2).mono ?_
  rintro e w3 ⟨rfl, hf3⟩
  have h3 := h2.frz hf3
  have hF3 := hF2.trans hf3 (fun _ _ h => h.elim)
  clear h2 hF2 hG2 hf3 hv
  go_wp2_with fail
  refine (num_ok 7 _).mono ?_
  rintro e w' ⟨rfl, rfl⟩
  go_wp2_with fail
  refine (fits_ok h3.l).mono ?_
  rintro e w' ⟨rfl, rfl⟩
  have c0 := h3.l.c0
  have c1 := h3.l.c1
  have c3 := h3.l.c3
  obtain ⟨lv3, hp3⟩ := h3.p
  have cp0 : w'.cell? ⟨Pp, 0, none⟩ = some (.slice none 0 0) := by rw [cell_of_row _ Pp 0 _ _ _ hp3]; rfl
  go_wp2_with fail
  refine (Writes_ok h3.d).mono ?_
  rintro e w' ⟨rfl, rfl⟩
  go_wp2_with fail
  refine (Pending_ok h3.d).mono ?_
  rintro e w' ⟨rfl, rfl⟩
  have hp' : decide (p < 1) = false := by simp; omega
  have hp'' : decide (64 < p) = false := by simp; omega
  have hi : inB n = false := by simp [inB]; omega
  go_wp2_with fail
  go_ret
  exact ⟨rfl, h3, hF3⟩

set_option maxRecDepth 100000 in
set_option maxHeartbeats 2000000 in
theorem opened_none {w : World} {D A B Pp n : Nat} {nn : Bool} {x : Value} {pause calls writes : Int} {bs : List Value} (h : Whole w D A B Pp n nn x pause calls writes bs) (hG : GOk w) (hgD : 0 ≠ D) (hgA : 0 ≠ A) (p : Int) (hp1 : 1 ≤ p) (hp2 : p ≤ 64) (hn8 : 8 ≤ n) (hn : n ≤ 400) (h0 : 0 ≤ calls) (h1' : calls < 100000000) (hz : bs.take 128 = zB) (hnn : nn = true) :
    Calls Tryz.prog 19 #[.pointer (some ⟨D, 0, none⟩), .int .i64 p] w fun e w' => e = .returned (.bool true) ∧ Whole w' D A B Pp n nn (.pointer none) pause (calls + 1) writes bs ∧ Fr (fun b => b = D ∨ b = A) w w' := by
  obtain ⟨n1, n2, n3, n4, n5, n6⟩ := h.ne
  have h1 := h.set (h.l.set5 (.pointer none))
  have hF1 : Fr (fun b => b = D ∨ b = A) w (w.setCell ⟨D, 5, none⟩ (.pointer none)) := (Fr.set1 _ _ _ _).mono (fun _ _ h => Or.inl h)
  have hG1 := hG.fr hF1 (by rintro (e | e); exact hgD e; exact hgA e)
  have c5 := h.l.c5
  have f5 := h.l.fz 5
  have c0 := h1.l.c0
  have c1 := h1.l.c1
  obtain ⟨lv, hp1⟩ := h1.p
  have cp0 : (w.setCell ⟨D, 5, none⟩ (.pointer none)).cell? ⟨Pp, 0, none⟩ = some (.slice none 0 0) := by rw [cell_of_row _ Pp 0 _ _ _ hp1]; rfl
  go_enter Tryz.func19, Tryz.ntmps19
  go_wp2_with fail
  refine (dTold_ok h1.d).mono ?_
  rintro e w' ⟨rfl, rfl⟩
  go_wp2_with fail
  refine (Writes_ok h1.d).mono ?_
  rintro e w' ⟨rfl, rfl⟩
  go_wp2_with fail
  refine (Pending_ok h1.d).mono ?_
  rintro e w' ⟨rfl, rfl⟩
  go_wp2_with fail
  have hlift : Tryz.prog.follows .mixedOrders = true := by kernel_rfl
  obtain ⟨W, HW⟩ : ∃ W, Hid (W = (w.setCell ⟨D, 5, none⟩ (.pointer none)).drew) := ⟨_, rfl⟩
  have hWd : Fr (fun _ => False) (w.setCell ⟨D, 5, none⟩ (.pointer none)) W := by rw [HW.out]; exact (Fr.refl _ _).drew
  have hW := h1.frz hWd
  have hFW := hF1.trans hWd (fun _ _ h => h.elim)
  have hGW := hG1.fr hWd id
  clear c0 c1 c5 f5 cp0 hp1
  let S : World → Prop := fun w' => w'.cell? ⟨D, 0, none⟩ = some (.pointer (some ⟨A, 0, none⟩)) ∧ w'.cell? ⟨D, 1, none⟩ = some (.pointer (some ⟨Pp, 0, none⟩))
  have hS : S W := ⟨hW.l.c0, hW.l.c1⟩
  refine wp_region_held (S := S) hlift ?_
  change wpAnyH _ _ _ _ S _ _ _ (World.drew _)
  rw [← HW.out]
  refine wpAnyH_take (S := S) (i := 0) (oi := ⟨some 42, .move (.tmp 0), _, _, _, none⟩) (v := .pointer (some ⟨D, 0, none⟩)) rfl (by kernel_rfl) (by kernel_rfl) (by kernel_rfl) (fun _ _ _ h => h) (Or.inl ⟨rfl, fun _ _ => rfl⟩) hS ?_
  simp only [Act.put, List.setIfInBounds_toArray, List.set_cons_zero, List.set_cons_succ]
  refine wpAnyH_take (S := S) (i := 1) (oi := ⟨some 43, .nilCheck (.tmp 42), _, _, _, none⟩) (v := .pointer (some ⟨D, 0, none⟩)) rfl (by kernel_rfl) (by kernel_rfl) (by kernel_rfl) (fun _ _ _ h => h) (Or.inl ⟨rfl, fun _ _ => rfl⟩) hS ?_
  simp only [Act.put, List.setIfInBounds_toArray, List.set_cons_zero, List.set_cons_succ]
  refine wpAnyH_take (S := S) (i := 2) (oi := ⟨some 44, .fieldAddr 46 (.tmp 43) 0, _, _, _, none⟩) (v := .pointer (some ⟨D, 0, none⟩)) rfl (by kernel_rfl) (by kernel_rfl) (by kernel_rfl) (fun _ _ _ h => h) (Or.inl ⟨rfl, fun _ _ => by kernel_rfl⟩) hS ?_
  simp only [Act.put, List.setIfInBounds_toArray, List.set_cons_zero, List.set_cons_succ]
  refine wpAnyH_take (S := S) (i := 3) (oi := ⟨some 45, .load 39 (.tmp 44), _, _, _, none⟩) (v := .pointer (some ⟨A, 0, none⟩)) rfl (by kernel_rfl) (by kernel_rfl) (by kernel_rfl) (fun _ _ _ h => h) (Or.inl ⟨rfl, fun w' hs => exec_load 39 (.tmp 44) rfl ⟨D, 0, none⟩ rfl (run_loadAt_one hs.1 Tryz.underlying39 rfl)⟩) hS ?_
  simp only [Act.put, List.setIfInBounds_toArray, List.set_cons_zero, List.set_cons_succ]
  refine wpAnyH_take (S := S) (i := 4) (oi := ⟨some 46, .move (.tmp 1), _, _, _, none⟩) (v := .int .i64 p) rfl (by kernel_rfl) (by kernel_rfl) (by kernel_rfl) (fun _ _ _ h => h) (Or.inl ⟨rfl, fun _ _ => rfl⟩) hS ?_
  simp only [Act.put, List.setIfInBounds_toArray, List.set_cons_zero, List.set_cons_succ]
  refine wpAnyH_take (S := S) (i := 5) (oi := ⟨some 47, .move (.tmp 0), _, _, _, none⟩) (v := .pointer (some ⟨D, 0, none⟩)) rfl (by kernel_rfl) (by kernel_rfl) (by kernel_rfl) (fun _ _ _ h => h) (Or.inl ⟨rfl, fun _ _ => rfl⟩) hS ?_
  simp only [Act.put, List.setIfInBounds_toArray, List.set_cons_zero, List.set_cons_succ]
  refine wpAnyH_take (S := S) (i := 6) (oi := ⟨some 48, .nilCheck (.tmp 47), _, _, _, none⟩) (v := .pointer (some ⟨D, 0, none⟩)) rfl (by kernel_rfl) (by kernel_rfl) (by kernel_rfl) (fun _ _ _ h => h) (Or.inl ⟨rfl, fun _ _ => rfl⟩) hS ?_
  simp only [Act.put, List.setIfInBounds_toArray, List.set_cons_zero, List.set_cons_succ]
  refine wpAnyH_take (S := S) (i := 7) (oi := ⟨some 49, .fieldAddr 46 (.tmp 48) 1, _, _, _, none⟩) (v := .pointer (some ⟨D, 1, none⟩)) rfl (by kernel_rfl) (by kernel_rfl) (by kernel_rfl) (fun _ _ _ h => h) (Or.inl ⟨rfl, fun _ _ => by kernel_rfl⟩) hS ?_
  simp only [Act.put, List.setIfInBounds_toArray, List.set_cons_zero, List.set_cons_succ]
  refine wpAnyH_take (S := S) (i := 8) (oi := ⟨some 50, .load 40 (.tmp 49), _, _, _, none⟩) (v := .pointer (some ⟨Pp, 0, none⟩)) rfl (by kernel_rfl) (by kernel_rfl) (by kernel_rfl) (fun _ _ _ h => h) (Or.inl ⟨rfl, fun w' hs => exec_load 40 (.tmp 49) rfl ⟨D, 1, none⟩ rfl (run_loadAt_one hs.2 Tryz.underlying40 rfl)⟩) hS ?_
  simp only [Act.put, List.setIfInBounds_toArray, List.set_cons_zero, List.set_cons_succ]
  refine wpAnyH_all (rs := [9]) (by kernel_rfl) (by simp) ?_
  intro i9 hi9
  obtain rfl : i9 = 9 := by simpa using hi9
  refine wpOp_call (o := ⟨some 51, .call { callee := .value (.func 31), args := #[.tmp 45, .tmp 46, .tmp 50], argTypes := _ }, _, _, _, none⟩) (f := 31) (args := #[.pointer (some ⟨A, 0, none⟩), .int .i64 p, .pointer (some ⟨Pp, 0, none⟩)]) rfl rfl (by kernel_rfl) ?_
  refine (pOpen_none hW.d hW.r h0 h1' hn8 hn hz p hp1 hp2).mono ?_
  rintro e w2 ⟨v, rfl, hv, hd2, hr2, hf2⟩
  have h2 := hW.fr hf2 n1 n4 hd2 hr2
  have hG2 := hGW.fr hf2 hgA
  have hF2 := hFW.trans hf2 (fun _ _ h => Or.inr h)
  have hS2 : S w2 := ⟨h2.l.c0, h2.l.c1⟩
  refine ⟨_, rfl, hS2, ?_⟩
  simp only [Act.put, List.setIfInBounds_toArray, List.set_cons_zero, List.set_cons_succ]
  refine wpAnyH_take (S := S) (i := 10) (oi := ⟨some 41, .move (.tmp 51), _, _, _, none⟩) (v := .tuple #[.pointer none, v]) rfl (by kernel_rfl) (by kernel_rfl) (by kernel_rfl) (fun _ _ _ h => h) (Or.inl ⟨rfl, fun _ _ => rfl⟩) hS2 ?_
  simp only [Act.put, List.setIfInBounds_toArray, List.set_cons_zero, List.set_cons_succ]
  refine wpAnyH_take (S := S) (i := 11) (oi := ⟨some 52, .extract (.tmp 41) 0, _, _, _, none⟩) (v := .pointer none) rfl (by kernel_rfl) (by kernel_rfl) (by kernel_rfl) (fun _ _ _ h => h) (Or.inl ⟨rfl, fun _ _ => rfl⟩) hS2 ?_
  simp only [Act.put, List.setIfInBounds_toArray, List.set_cons_zero, List.set_cons_succ]
  refine wpAnyH_take (S := S) (i := 12) (oi := ⟨some 53, .extract (.tmp 41) 1, _, _, _, none⟩) (v := v) rfl (by kernel_rfl) (by kernel_rfl) (by kernel_rfl) (fun _ _ _ h => h) (Or.inl ⟨rfl, fun _ _ => rfl⟩) hS2 ?_
  simp only [Act.put, List.setIfInBounds_toArray, List.set_cons_zero, List.set_cons_succ]
  refine wpAnyH_take (S := S) (i := 13) (oi := ⟨some 9, .assign (.tmp 52), _, _, _, none⟩) (v := .pointer none) rfl (by kernel_rfl) (by kernel_rfl) (by kernel_rfl) (fun _ _ _ h => h) (Or.inl ⟨rfl, fun _ _ => rfl⟩) hS2 ?_
  simp only [Act.put, List.setIfInBounds_toArray, List.set_cons_zero, List.set_cons_succ]
  refine wpAnyH_take (S := S) (i := 14) (oi := ⟨some 10, .assign (.tmp 53), _, _, _, none⟩) (v := v) rfl (by kernel_rfl) (by kernel_rfl) (by kernel_rfl) (fun _ _ _ h => h) (Or.inl ⟨rfl, fun _ _ => rfl⟩) hS2 ?_
  simp only [Act.put, List.setIfInBounds_toArray, List.set_cons_zero, List.set_cons_succ]
  refine wpAnyH_done (by kernel_rfl) ?_ _
  clear hS hS2 hW hFW hWd h1 hF1 hG1 hGW
  go_wp2_with fail
  refine (Told_any hv hG2).mono ?_
  rintro e w3 ⟨rfl, hf3⟩
  have h3 := h2.frz hf3
  have hF3 := hF2.trans hf3 (fun _ _ h => h.elim)
  clear h2 hF2 hG2 hf3 hv
  go_wp2_with fail
  refine (num_ok 6 _).mono ?_
  rintro e w' ⟨rfl, rfl⟩
  go_wp2_with fail
  refine (fits_ok h3.l).mono ?_
  rintro e w' ⟨rfl, rfl⟩
  have c0 := h3.l.c0
  have c1 := h3.l.c1
  have c3 := h3.l.c3
  obtain ⟨lv3, hp3⟩ := h3.p
  have cp0 : w'.cell? ⟨Pp, 0, none⟩ = some (.slice none 0 0) := by rw [cell_of_row _ Pp 0 _ _ _ hp3]; rfl
  go_wp2_with fail
  refine (Writes_ok h3.d).mono ?_
  rintro e w' ⟨rfl, rfl⟩
  go_wp2_with fail
  refine (Pending_ok h3.d).mono ?_
  rintro e w' ⟨rfl, rfl⟩
  have hp' : decide (p < 1) = false := by simp; omega
  have hp'' : decide (64 < p) = false := by simp; omega
  have hi : inB n = true := by simp [inB]; omega
  subst hnn
  go_wp2_with fail
  refine (dTold_ok h3.d).mono ?_
  rintro e w' ⟨rfl, rfl⟩
  go_wp2_with fail
  go_ret
  exact ⟨rfl, h3, hF3⟩

set_option maxRecDepth 100000 in
set_option maxHeartbeats 2000000 in
theorem opened_ok {w : World} {D A B Pp n : Nat} {nn : Bool} {x : Value} {pause calls writes : Int} {bs : List Value} (h : Whole w D A B Pp n nn x pause calls writes bs) (hG : GOk w) (hgD : 0 ≠ D) (hgA : 0 ≠ A) (p : Int) (hp1 : 1 ≤ p) (hp2 : p ≤ 64) (hn8 : 8 ≤ n) (hn : n ≤ 400) (h0 : 0 ≤ calls) (h1' : calls < 100000000) (hz : bs.take 128 = headB n) (hnn : nn = false) :
    Calls Tryz.prog 19 #[.pointer (some ⟨D, 0, none⟩), .int .i64 p] w fun e w' => e = .returned (.bool true) ∧ (∃ x', Whole w' D A B Pp n nn x' p (calls + 1) writes bs) ∧ Fr (fun b => b = D ∨ b = A) w w' := by
  obtain ⟨n1, n2, n3, n4, n5, n6⟩ := h.ne
  have h1 := h.set (h.l.set5 (.pointer none))
  have hF1 : Fr (fun b => b = D ∨ b = A) w (w.setCell ⟨D, 5, none⟩ (.pointer none)) := (Fr.set1 _ _ _ _).mono (fun _ _ h => Or.inl h)
  have hG1 := hG.fr hF1 (by rintro (e | e); exact hgD e; exact hgA e)
  have c5 := h.l.c5
  have f5 := h.l.fz 5
  have c0 := h1.l.c0
  have c1 := h1.l.c1
  obtain ⟨lv, hp1⟩ := h1.p
  have cp0 : (w.setCell ⟨D, 5, none⟩ (.pointer none)).cell? ⟨Pp, 0, none⟩ = some (.slice none 0 0) := by rw [cell_of_row _ Pp 0 _ _ _ hp1]; rfl
  go_enter Tryz.func19, Tryz.ntmps19
  go_wp2_with fail
  refine (dTold_ok h1.d).mono ?_
  rintro e w' ⟨rfl, rfl⟩
  go_wp2_with fail
  refine (Writes_ok h1.d).mono ?_
  rintro e w' ⟨rfl, rfl⟩
  go_wp2_with fail
  refine (Pending_ok h1.d).mono ?_
  rintro e w' ⟨rfl, rfl⟩
  go_wp2_with fail
  have hlift : Tryz.prog.follows .mixedOrders = true := by kernel_rfl
  obtain ⟨W, HW⟩ : ∃ W, Hid (W = (w.setCell ⟨D, 5, none⟩ (.pointer none)).drew) := ⟨_, rfl⟩
  have hWd : Fr (fun _ => False) (w.setCell ⟨D, 5, none⟩ (.pointer none)) W := by rw [HW.out]; exact (Fr.refl _ _).drew
  have hW := h1.frz hWd
  have hFW := hF1.trans hWd (fun _ _ h => h.elim)
  have hGW := hG1.fr hWd id
  clear c0 c1 c5 f5 cp0 hp1
  let S : World → Prop := fun w' => w'.cell? ⟨D, 0, none⟩ = some (.pointer (some ⟨A, 0, none⟩)) ∧ w'.cell? ⟨D, 1, none⟩ = some (.pointer (some ⟨Pp, 0, none⟩))
  have hS : S W := ⟨hW.l.c0, hW.l.c1⟩
  refine wp_region_held (S := S) hlift ?_
  change wpAnyH _ _ _ _ S _ _ _ (World.drew _)
  rw [← HW.out]
  refine wpAnyH_take (S := S) (i := 0) (oi := ⟨some 42, .move (.tmp 0), _, _, _, none⟩) (v := .pointer (some ⟨D, 0, none⟩)) rfl (by kernel_rfl) (by kernel_rfl) (by kernel_rfl) (fun _ _ _ h => h) (Or.inl ⟨rfl, fun _ _ => rfl⟩) hS ?_
  simp only [Act.put, List.setIfInBounds_toArray, List.set_cons_zero, List.set_cons_succ]
  refine wpAnyH_take (S := S) (i := 1) (oi := ⟨some 43, .nilCheck (.tmp 42), _, _, _, none⟩) (v := .pointer (some ⟨D, 0, none⟩)) rfl (by kernel_rfl) (by kernel_rfl) (by kernel_rfl) (fun _ _ _ h => h) (Or.inl ⟨rfl, fun _ _ => rfl⟩) hS ?_
  simp only [Act.put, List.setIfInBounds_toArray, List.set_cons_zero, List.set_cons_succ]
  refine wpAnyH_take (S := S) (i := 2) (oi := ⟨some 44, .fieldAddr 46 (.tmp 43) 0, _, _, _, none⟩) (v := .pointer (some ⟨D, 0, none⟩)) rfl (by kernel_rfl) (by kernel_rfl) (by kernel_rfl) (fun _ _ _ h => h) (Or.inl ⟨rfl, fun _ _ => by kernel_rfl⟩) hS ?_
  simp only [Act.put, List.setIfInBounds_toArray, List.set_cons_zero, List.set_cons_succ]
  refine wpAnyH_take (S := S) (i := 3) (oi := ⟨some 45, .load 39 (.tmp 44), _, _, _, none⟩) (v := .pointer (some ⟨A, 0, none⟩)) rfl (by kernel_rfl) (by kernel_rfl) (by kernel_rfl) (fun _ _ _ h => h) (Or.inl ⟨rfl, fun w' hs => exec_load 39 (.tmp 44) rfl ⟨D, 0, none⟩ rfl (run_loadAt_one hs.1 Tryz.underlying39 rfl)⟩) hS ?_
  simp only [Act.put, List.setIfInBounds_toArray, List.set_cons_zero, List.set_cons_succ]
  refine wpAnyH_take (S := S) (i := 4) (oi := ⟨some 46, .move (.tmp 1), _, _, _, none⟩) (v := .int .i64 p) rfl (by kernel_rfl) (by kernel_rfl) (by kernel_rfl) (fun _ _ _ h => h) (Or.inl ⟨rfl, fun _ _ => rfl⟩) hS ?_
  simp only [Act.put, List.setIfInBounds_toArray, List.set_cons_zero, List.set_cons_succ]
  refine wpAnyH_take (S := S) (i := 5) (oi := ⟨some 47, .move (.tmp 0), _, _, _, none⟩) (v := .pointer (some ⟨D, 0, none⟩)) rfl (by kernel_rfl) (by kernel_rfl) (by kernel_rfl) (fun _ _ _ h => h) (Or.inl ⟨rfl, fun _ _ => rfl⟩) hS ?_
  simp only [Act.put, List.setIfInBounds_toArray, List.set_cons_zero, List.set_cons_succ]
  refine wpAnyH_take (S := S) (i := 6) (oi := ⟨some 48, .nilCheck (.tmp 47), _, _, _, none⟩) (v := .pointer (some ⟨D, 0, none⟩)) rfl (by kernel_rfl) (by kernel_rfl) (by kernel_rfl) (fun _ _ _ h => h) (Or.inl ⟨rfl, fun _ _ => rfl⟩) hS ?_
  simp only [Act.put, List.setIfInBounds_toArray, List.set_cons_zero, List.set_cons_succ]
  refine wpAnyH_take (S := S) (i := 7) (oi := ⟨some 49, .fieldAddr 46 (.tmp 48) 1, _, _, _, none⟩) (v := .pointer (some ⟨D, 1, none⟩)) rfl (by kernel_rfl) (by kernel_rfl) (by kernel_rfl) (fun _ _ _ h => h) (Or.inl ⟨rfl, fun _ _ => by kernel_rfl⟩) hS ?_
  simp only [Act.put, List.setIfInBounds_toArray, List.set_cons_zero, List.set_cons_succ]
  refine wpAnyH_take (S := S) (i := 8) (oi := ⟨some 50, .load 40 (.tmp 49), _, _, _, none⟩) (v := .pointer (some ⟨Pp, 0, none⟩)) rfl (by kernel_rfl) (by kernel_rfl) (by kernel_rfl) (fun _ _ _ h => h) (Or.inl ⟨rfl, fun w' hs => exec_load 40 (.tmp 49) rfl ⟨D, 1, none⟩ rfl (run_loadAt_one hs.2 Tryz.underlying40 rfl)⟩) hS ?_
  simp only [Act.put, List.setIfInBounds_toArray, List.set_cons_zero, List.set_cons_succ]
  refine wpAnyH_all (rs := [9]) (by kernel_rfl) (by simp) ?_
  intro i9 hi9
  obtain rfl : i9 = 9 := by simpa using hi9
  refine wpOp_call (o := ⟨some 51, .call { callee := .value (.func 31), args := #[.tmp 45, .tmp 46, .tmp 50], argTypes := _ }, _, _, _, none⟩) (f := 31) (args := #[.pointer (some ⟨A, 0, none⟩), .int .i64 p, .pointer (some ⟨Pp, 0, none⟩)]) rfl rfl (by kernel_rfl) ?_
  refine (pOpen_ok hW.d hW.r h0 h1' hn8 hn hz p hp1 hp2).mono ?_
  rintro e w2 ⟨y, rfl, hy, hd2, hr2, hf2⟩
  have h2 := hW.fr hf2 n1 n4 hd2 hr2
  have hG2 := hGW.fr hf2 hgA
  have hF2 := hFW.trans hf2 (fun _ _ h => Or.inr h)
  have hv : ErrAt w2 .nilIface 0 := Or.inl ⟨rfl, rfl⟩
  have hS2 : S w2 := ⟨h2.l.c0, h2.l.c1⟩
  refine ⟨_, rfl, hS2, ?_⟩
  simp only [Act.put, List.setIfInBounds_toArray, List.set_cons_zero, List.set_cons_succ]
  refine wpAnyH_take (S := S) (i := 10) (oi := ⟨some 41, .move (.tmp 51), _, _, _, none⟩) (v := .tuple #[.pointer (some ⟨y, 0, none⟩), .nilIface]) rfl (by kernel_rfl) (by kernel_rfl) (by kernel_rfl) (fun _ _ _ h => h) (Or.inl ⟨rfl, fun _ _ => rfl⟩) hS2 ?_
  simp only [Act.put, List.setIfInBounds_toArray, List.set_cons_zero, List.set_cons_succ]
  refine wpAnyH_take (S := S) (i := 11) (oi := ⟨some 52, .extract (.tmp 41) 0, _, _, _, none⟩) (v := .pointer (some ⟨y, 0, none⟩)) rfl (by kernel_rfl) (by kernel_rfl) (by kernel_rfl) (fun _ _ _ h => h) (Or.inl ⟨rfl, fun _ _ => rfl⟩) hS2 ?_
  simp only [Act.put, List.setIfInBounds_toArray, List.set_cons_zero, List.set_cons_succ]
  refine wpAnyH_take (S := S) (i := 12) (oi := ⟨some 53, .extract (.tmp 41) 1, _, _, _, none⟩) (v := .nilIface) rfl (by kernel_rfl) (by kernel_rfl) (by kernel_rfl) (fun _ _ _ h => h) (Or.inl ⟨rfl, fun _ _ => rfl⟩) hS2 ?_
  simp only [Act.put, List.setIfInBounds_toArray, List.set_cons_zero, List.set_cons_succ]
  refine wpAnyH_take (S := S) (i := 13) (oi := ⟨some 9, .assign (.tmp 52), _, _, _, none⟩) (v := .pointer (some ⟨y, 0, none⟩)) rfl (by kernel_rfl) (by kernel_rfl) (by kernel_rfl) (fun _ _ _ h => h) (Or.inl ⟨rfl, fun _ _ => rfl⟩) hS2 ?_
  simp only [Act.put, List.setIfInBounds_toArray, List.set_cons_zero, List.set_cons_succ]
  refine wpAnyH_take (S := S) (i := 14) (oi := ⟨some 10, .assign (.tmp 53), _, _, _, none⟩) (v := .nilIface) rfl (by kernel_rfl) (by kernel_rfl) (by kernel_rfl) (fun _ _ _ h => h) (Or.inl ⟨rfl, fun _ _ => rfl⟩) hS2 ?_
  simp only [Act.put, List.setIfInBounds_toArray, List.set_cons_zero, List.set_cons_succ]
  refine wpAnyH_done (by kernel_rfl) ?_ _
  clear hS hS2 hW hFW hWd h1 hF1 hG1 hGW
  go_wp2_with fail
  refine (Told_any hv hG2).mono ?_
  rintro e w3 ⟨rfl, hf3⟩
  have h3 := h2.frz hf3
  have hF3 := hF2.trans hf3 (fun _ _ h => h.elim)
  clear h2 hF2 hG2 hf3 hv
  go_wp2_with fail
  refine (num_ok 0 _).mono ?_
  rintro e w' ⟨rfl, rfl⟩
  go_wp2_with fail
  refine (fits_ok h3.l).mono ?_
  rintro e w' ⟨rfl, rfl⟩
  have c0 := h3.l.c0
  have c1 := h3.l.c1
  have c3 := h3.l.c3
  obtain ⟨lv3, hp3⟩ := h3.p
  have cp0 : w'.cell? ⟨Pp, 0, none⟩ = some (.slice none 0 0) := by rw [cell_of_row _ Pp 0 _ _ _ hp3]; rfl
  go_wp2_with fail
  refine (Writes_ok h3.d).mono ?_
  rintro e w' ⟨rfl, rfl⟩
  go_wp2_with fail
  refine (Pending_ok h3.d).mono ?_
  rintro e w' ⟨rfl, rfl⟩
  have hp' : decide (p < 1) = false := by simp; omega
  have hp'' : decide (64 < p) = false := by simp; omega
  have hi : inB n = true := by simp [inB]; omega
  subst hnn
  go_wp2_with fail
  refine (dTold_ok h3.d).mono ?_
  rintro e w' ⟨rfl, rfl⟩
  go_wp2_with fail
  refine (found_ok h3 y p).mono ?_
  rintro e w4 ⟨rfl, h4, hf4⟩
  go_wp2
  go_ret
  exact ⟨rfl, ⟨_, h4⟩, hF3.trans hf4 (fun _ _ h => Or.inl h)⟩
end Go.Proofs.YthnmpgnaahkgkaaGreatDoor
