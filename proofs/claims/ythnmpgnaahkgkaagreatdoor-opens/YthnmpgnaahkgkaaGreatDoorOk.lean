import Derived.Test.YthnmpgnaahkgkaaGreatDoorWi
namespace Go.Proofs.YthnmpgnaahkgkaaGreatDoor
open Go.RowKit

set_option maxRecDepth 100000 in
set_option maxHeartbeats 2000000 in
theorem owner_keep {w : World} {b0 W0 s : Nat} {qs : List DR} (h : Inv w b0 W0 s qs) (hs : s < 100000) (X a b : Int) (S T : ByteArray) :
    Calls Tryz.prog 11 #[.pointer (some ⟨W0, 0, none⟩), .agg (opv 1 X a b S T)] w fun e w' => OwnPost w b0 W0 s e w' := by
  have hsz := h.size
  obtain ⟨kv, rv, sv, dv, fv, k, r, st, kxs, rxs, sxs, fxs, hI, hk, hr, hst, hm, hDs, hPw⟩ := h
  unfold opv
  obtain ⟨v0, HV⟩ : ∃ v0, Hid (v0 = kv) := ⟨_, rfl⟩
  obtain ⟨k0, HK0⟩ : ∃ k0, Hid (k0 = k) := ⟨_, rfl⟩
  obtain ⟨xs0, HX⟩ : ∃ xs0, Hid (xs0 = kxs) := ⟨_, rfl⟩
  have hk0 : k0 ≤ s := by rw [HK0.out]; assumption
  go_enter Tryz.func11, Tryz.ntmps11
  go_wp2_with fail
  · have hlift : Tryz.prog.follows .mixedOrders = true := by kernel_rfl
    obtain ⟨W, HW⟩ : ∃ W, Hid (W = (w.alloc (.cells #[.int .i64 1, .int .i64 X, .int .i64 a, .int .i64 b, .string S, .string T] 27)).drew) := ⟨_, rfl⟩
    obtain ⟨O, HO⟩ : ∃ O, Hid (O = w.heap.size) := ⟨_, rfl⟩
    have hFW : Fr (fun _ => False) w W := by rw [HW.out]; exact ((Fr.refl _ _).alloc _).drew
    have hIW := hI.frz hFW
    have hDW : ∀ q ∈ qs, DI W b0 s q := fun q hq => (hDs q hq).fr hFW (fun _ _ _ _ _ => id)
    have hOW : W.heap[O]? = some (.cells #[.int .i64 1, .int .i64 X, .int .i64 a, .int .i64 b, .string S, .string T] 27 (0, 0)) := by rw [HW.out, HO.out]; exact heap_alloc_at _ _
    have hOl := lt_of_heap hOW
    have hbW : b0 ≤ W.heap.size := Nat.le_trans hsz hFW.size
    have hown : W.ownsRow b0 3 1 v0 k0 xs0 := by rw [HV.out, HK0.out, HX.out]; exact hIW.hk
    have hvw : W.cell? ⟨W0, 0, none⟩ = some v0 := by rw [HV.out]; exact hIW.c0
    have hOW0 : O ≠ W0 := by
      intro e; subst e
      have := hIW.hw.symm.trans hOW
      simp at this
    have hWv : ∀ b, v0.ownBlock = some b → b = W0 → False := by
      intro b hb e; subst e
      rcases hown.2 with ⟨rfl, _⟩ | ⟨g, cap, cur, rfl, _, hg, _⟩
      · simp [Value.ownBlock] at hb
      · simp only [Value.ownBlock, Option.some.injEq] at hb
        subst hb
        have := hIW.hw.symm.trans hg
        simp at this
    have hOv : ∀ b, v0.ownBlock = some b → b = O → False := by
      intro b hb e; subst e
      rcases hown.2 with ⟨rfl, _⟩ | ⟨g, cap, cur, rfl, _, hg, _⟩
      · simp [Value.ownBlock] at hb
      · simp only [Value.ownBlock, Option.some.injEq] at hb
        subst hb
        have := hOW.symm.trans hg
        simp at this
    let S : World → Prop := fun w' => w'.cell? ⟨O, 2, none⟩ = some (.int .i64 a)
    have hS : S W := by show W.cell? _ = _; rw [cell_of_row W O 2 _ _ _ hOW]; rfl
    obtain ⟨inf, hi0, hz0, hz1, hz2⟩ := info_parts int_info
    have hl1 : (Instr.loadAt 24 (.pointer (some ⟨W0, 0, none⟩))).run Tryz.prog W = .ok v0 W := run_loadAt_one hvw Tryz.underlying24 rfl
    have hbs : (Instr.buildSlice 24 1 #[(0, .int .i64 a)]).run Tryz.prog W = .ok (.slice (some ⟨W.heap.size, 0, none⟩) 1 1) (W.alloc (.cells #[.int .i64 a] 3)) :=
      run_buildSlice_one W 24 3 inf _ _ Tryz.underlying24 hi0 hz0 (by rw [hz1]; rfl) (by rw [hz1]; decide) (by rw [hz1]; decide)
    have hFA : Fr (fun _ => False) W (W.alloc (.cells #[.int .i64 a] 3)) := (Fr.refl _ _).alloc _
    have hWA : (W.alloc (.cells #[.int .i64 a] 3)).heap[W0]? = some (.cells #[kv, rv, sv, dv, fv] 34 (0, 0)) := hFA.keep hIW.hw id
    have hl2 : (Instr.loadAt 24 (.pointer (some ⟨W0, 0, none⟩))).run Tryz.prog (W.alloc (.cells #[.int .i64 a] 3)) = .ok v0 (W.alloc (.cells #[.int .i64 a] 3)) := run_loadAt_one (hFA.cell hvw id) Tryz.underlying24 rfl
    have hownA := hown.alloc (.cells #[.int .i64 a] 3)
    have hnewsA := World.news_of_block (w := W.alloc (.cells #[.int .i64 a] 3)) (B := W.heap.size) (heap_alloc_at W (.cells #[.int .i64 a] 3))
    have hSA : S (W.alloc (.cells #[.int .i64 a] 3)) := hFA.cell (p := ⟨O, 2, none⟩) hS id
    have hzA : b0 ≤ (W.alloc (.cells #[.int .i64 a] 3)).heap.size := by simp; omega
    have fin : ∀ (gn cap : Nat) (wn : World), wn.ownsRow b0 3 1 (.slice (some ⟨gn, 0, none⟩) (k0 + 1) cap) (k0 + 1) (xs0 ++ [.int .i64 a]) → (W.alloc (.cells #[.int .i64 a] 3)).grownBy wn v0.ownBlock →
        (v0.ownBlock = some gn ∨ gn = (W.alloc (.cells #[.int .i64 a] 3)).heap.size) → gn < wn.heap.size → wn.heap[W0]? = some (.cells #[kv, rv, sv, dv, fv] 34 (0, 0)) →
        ∃ qs', Inv (wn.setCell ⟨W0, 0, none⟩ (.slice (some ⟨gn, 0, none⟩) (k0 + 1) cap)) b0 W0 (s + 1) qs' ∧ Below b0 w (wn.setCell ⟨W0, 0, none⟩ (.slice (some ⟨gn, 0, none⟩) (k0 + 1) cap)) := by
      intro gn cap wn hon hgrow hat hlt hWn
      have hF1 : Fr (fun b => v0.ownBlock = some b) W wn := (hFA.mono (fun _ _ h => h.elim)).grown hgrow (fun b _ hb => hb)
      have hF2 : Fr (fun b => b = W0 ∨ v0.ownBlock = some b) W (wn.setCell ⟨W0, 0, none⟩ (.slice (some ⟨gn, 0, none⟩) (k0 + 1) cap)) := Fr.setCell (S := fun b => b = W0 ∨ v0.ownBlock = some b) (hF1.mono (fun _ _ h => Or.inr h)) ⟨W0, 0, none⟩ (fun _ => Or.inl rfl) _
      have hvt : ∀ b c t, W.heap[b]? = some (.cells c t (0, 0)) → v0.ownBlock = some b → t = 3 := by
        intro b c t hb hv
        rcases hown.2 with ⟨rfl, _⟩ | ⟨g, cap', cur, rfl, _, hg, _⟩
        · simp [Value.ownBlock] at hv
        · simp only [Value.ownBlock, Option.some.injEq] at hv
          subst hv
          rw [hb] at hg
          simp at hg
          exact hg.2
      have hgW : v0.ownBlock = some gn ∨ W.heap.size ≤ gn := by
        rcases hat with e | e
        · exact .inl e
        · right; simp at e; omega
      have hot : ∀ {e' : Nat}, e' ≠ 3 → e' ≠ 34 → ∀ b c, W.heap[b]? = some (.cells c e' (0, 0)) → ¬ (b = W0 ∨ v0.ownBlock = some b) := by
        rintro e' he1 he2 b c hb (rfl | hv)
        · rw [hIW.hw] at hb; simp at hb; exact he2 hb.2.symm
        · exact he1 (hvt b c e' hb hv)
      have hoth : (wn.setCell ⟨W0, 0, none⟩ (.slice (some ⟨gn, 0, none⟩) (k0 + 1) cap)).ownsRow b0 3 1 rv r rxs := own_fr hIW.hr hF2 (by
        rintro b c hb hrb (rfl | hv)
        · rw [hIW.hw] at hb; simp at hb
        · exact hIW.ne b (by rw [← HV.out]; exact hv) hrb)
      have hne : ∀ b, (Value.slice (some ⟨gn, 0, none⟩) (k0 + 1) cap).ownBlock = some b → rv.ownBlock ≠ some b := by
        intro b hb hrb
        simp only [Value.ownBlock, Option.some.injEq] at hb
        subst hb
        rcases hgW with e | e
        · exact hIW.ne gn (by rw [← HV.out]; exact e) hrb
        · have := (hIW.hr.lt gn hrb).2; omega
      refine ⟨qs, ⟨(.slice (some ⟨gn, 0, none⟩) (k0 + 1) cap), rv, sv, dv, fv, k0 + 1, r, st, xs0 ++ [.int .i64 a], rxs, sxs, fxs, ⟨heap_setCell_at wn W0 0 _ _ _ hWn, own_set hWn (by decide) hon, hoth, own_fr hIW.hs hF2 (fun b c hb _ => hot (by decide) (by decide) b c hb), own_fr hIW.hd hF2 (fun b c hb _ => hot (by decide) (by decide) b c hb), own_fr hIW.hf hF2 (fun b c hb _ => hot (by decide) (by decide) b c hb), hne, hIW.ro, hIW.so, hIW.w0⟩, by omega, by omega, by omega, by omega, fun q hq => ((hDW q hq).fr hF2 ?_).mono (by omega), hPw⟩, (frz_below hFW hsz).trans (hF2.below hbW ?_)⟩
      · intro b c t hb ht
        rcases ht with ⟨rfl, _⟩ | ⟨rfl, _⟩ | ⟨rfl, _⟩ | rfl <;> exact hot (by decide) (by decide) b c hb
      · rintro b (rfl | hv)
        · exact hIW.w0
        · exact (hown.lt b hv).1
    rw [← HO.out]
    refine wp_region_held (S := S) hlift ?_
    change wpAnyH _ _ _ _ S _ _ _ (World.drew _)
    rw [← HW.out]
    refine wpAnyH_take (S := S) (i := 0) (oi := ⟨some 11, .move (.tmp 0), _, _, _, none⟩) (v := .pointer (some ⟨W0, 0, none⟩)) rfl (by kernel_rfl) (by kernel_rfl) (by kernel_rfl) (fun _ _ _ h => h) (Or.inl ⟨rfl, fun _ _ => rfl⟩) hS ?_
    simp only [Act.put, List.setIfInBounds_toArray, List.set_cons_zero, List.set_cons_succ]
    refine wpAnyH_take (S := S) (i := 1) (oi := ⟨some 12, .move (.tmp 0), _, _, _, none⟩) (v := .pointer (some ⟨W0, 0, none⟩)) rfl (by kernel_rfl) (by kernel_rfl) (by kernel_rfl) (fun _ _ _ h => h) (Or.inl ⟨rfl, fun _ _ => rfl⟩) hS ?_
    simp only [Act.put, List.setIfInBounds_toArray, List.set_cons_zero, List.set_cons_succ]
    refine wpAnyH_take (S := S) (i := 2) (oi := ⟨some 13, .nilCheck (.tmp 12), _, _, _, none⟩) (v := .pointer (some ⟨W0, 0, none⟩)) rfl (by kernel_rfl) (by kernel_rfl) (by kernel_rfl) (fun _ _ _ h => h) (Or.inl ⟨rfl, fun _ _ => rfl⟩) hS ?_
    simp only [Act.put, List.setIfInBounds_toArray, List.set_cons_zero, List.set_cons_succ]
    refine wpAnyH_take (S := S) (i := 3) (oi := ⟨some 14, .fieldAddr 34 (.tmp 13) 0, _, _, _, none⟩) (v := .pointer (some ⟨W0, 0, none⟩)) rfl (by kernel_rfl) (by kernel_rfl) (by kernel_rfl) (fun _ _ _ h => h) (Or.inl ⟨rfl, fun _ _ => by kernel_rfl⟩) hS ?_
    simp only [Act.put, List.setIfInBounds_toArray, List.set_cons_zero, List.set_cons_succ]
    refine wpAnyH_take (S := S) (i := 5) (oi := ⟨some 16, .fieldAddr 27 (.tmp 3) 2, _, _, _, none⟩) (v := .pointer (some ⟨O, 2, none⟩)) rfl (by kernel_rfl) (by kernel_rfl) (by kernel_rfl) (fun _ _ _ h => h) (Or.inl ⟨rfl, fun _ _ => by kernel_rfl⟩) hS ?_
    simp only [Act.put, List.setIfInBounds_toArray, List.set_cons_zero, List.set_cons_succ]
    refine wpAnyH_take (S := S) (i := 6) (oi := ⟨some 17, .load 3 (.tmp 16), _, _, _, none⟩) (v := .int .i64 a) rfl (by kernel_rfl) (by kernel_rfl) (by kernel_rfl) (fun _ _ _ h => h) (Or.inl ⟨rfl, fun w' hs => exec_load 3 (.tmp 16) rfl ⟨O, 2, none⟩ rfl (run_loadAt_one hs Tryz.underlying3 rfl)⟩) hS ?_
    simp only [Act.put, List.setIfInBounds_toArray, List.set_cons_zero, List.set_cons_succ]
    refine wpAnyH_all (rs := [4, 7]) (by kernel_rfl) (by simp) ?_
    intro i4 hi4
    simp only [List.mem_cons, List.not_mem_nil, or_false] at hi4
    rcases hi4 with rfl | rfl
    · skip
      refine wpOp_value (o := ⟨some 15, .load 24 (.tmp 14), _, _, _, none⟩) rfl rfl (exec_load 24 (.tmp 14) rfl ⟨W0, 0, none⟩ rfl hl1) ⟨hS, ?_⟩
      simp only [Act.put, List.setIfInBounds_toArray, List.set_cons_zero, List.set_cons_succ]
      refine wpAnyH_all (rs := [7]) (by kernel_rfl) (by simp) ?_
      intro i7 hi7
      obtain rfl : i7 = 7 := by simpa using hi7
      refine wpOp_value (o := ⟨some 18, .buildSlice 24 1 #[(0, .tmp 17)], _, _, _, none⟩) rfl rfl (exec_buildSlice 24 1 #[(0, .tmp 17)] rfl #[(0, .int .i64 a)] (by simp [Act.eval]) hbs) ⟨hSA, ?_⟩
      simp only [Act.put, List.setIfInBounds_toArray, List.set_cons_zero, List.set_cons_succ]
      refine wpAnyH_all (rs := [8]) (by kernel_rfl) (by simp) ?_
      intro i8 hi8
      obtain rfl : i8 = 8 := by simpa using hi8
      refine wpOp_of_wp (o := ⟨some 19, .call { callee := .builtin .append, args := #[.tmp 15, .tmp 18], argTypes := #[24, 24] }, _, _, _, none⟩) rfl rfl ?_
      refine wp_append_lies _ (.tmp 15) (.tmp 18) 24 rfl b0 3 inf (.int .i64 0) 1 8 Tryz.underlying24 hi0 hz0 hz1 hz2 rfl (by decide) v0 k0 xs0 rfl hownA ⟨W.heap.size, 0, none⟩ 1 1 [.int .i64 a] rfl rfl hnewsA (by simp [Value.oneCell']) (by decide) (by unfold maxLen; omega) (by omega) hzA _ rfl ?_
      intro gn cap wn hon hgrow hat hlt
      have hSn : S wn := by
        show wn.cell? ⟨O, 2, none⟩ = _
        rw [hgrow.cell_far ⟨O, 2, none⟩ (by simp; omega) (fun e => hOv _ e.symm rfl)]; exact hSA
      refine ⟨hSn, ?_⟩
      simp only [Act.put, List.setIfInBounds_toArray, List.set_cons_zero, List.set_cons_succ]
      refine wpAnyH_take (S := S) (i := 9) (oi := ⟨some 20, .nilCheck (.tmp 11), _, _, _, none⟩) (v := .pointer (some ⟨W0, 0, none⟩)) rfl (by kernel_rfl) (by kernel_rfl) (by kernel_rfl) (fun _ _ _ h => h) (Or.inl ⟨rfl, fun _ _ => rfl⟩) hSn ?_
      simp only [Act.put, List.setIfInBounds_toArray, List.set_cons_zero, List.set_cons_succ]
      refine wpAnyH_take (S := S) (i := 10) (oi := ⟨some 21, .fieldAddr 34 (.tmp 20) 0, _, _, _, none⟩) (v := .pointer (some ⟨W0, 0, none⟩)) rfl (by kernel_rfl) (by kernel_rfl) (by kernel_rfl) (fun _ _ _ h => h) (Or.inl ⟨rfl, fun _ _ => by kernel_rfl⟩) hSn ?_
      simp only [Act.put, List.setIfInBounds_toArray, List.set_cons_zero, List.set_cons_succ]
      refine wpAnyH_all (rs := [11]) (by kernel_rfl) (by simp) ?_
      intro i11 hi11
      obtain rfl : i11 = 11 := by simpa using hi11
      have hWn : wn.heap[W0]? = some (.cells #[kv, rv, sv, dv, fv] 34 (0, 0)) := by rw [hgrow.block W0 (lt_of_heap hWA) (fun e => hWv _ e.symm rfl)]; exact hWA
      have hcn : wn.cell? ⟨W0, 0, none⟩ = some v0 := by rw [cell_of_row wn W0 0 _ _ _ hWn, HV.out]; rfl
      have hSw : S (wn.setCell ⟨W0, 0, none⟩ (.slice (some ⟨gn, 0, none⟩) (k0 + 1) cap)) := by
        show (wn.setCell _ _).cell? ⟨O, 2, none⟩ = _
        rw [World.cell?_setCell_other _ _ _ _ (fun e => hOW0 (congrArg Addr.block e).symm)]; exact hSn
      refine wpOp_skip (o := ⟨none, .store 24 (.tmp 21) (.tmp 19), _, _, _, none⟩) rfl rfl (exec_store 24 (.tmp 21) (.tmp 19) rfl ⟨W0, 0, none⟩ (.slice (some ⟨gn, 0, none⟩) (k0 + 1) cap) rfl rfl (run_storeAt_one hcn (frozen_of_row wn W0 0 _ _ hWn) (by kernel_rfl) rfl)) ⟨hSw, ?_⟩
      simp only [Act.put]
      refine wpAnyH_done (by kernel_rfl) ?_ _
      have HE : Hid (OwnPost w b0 W0 s (.returned (.bool true)) (wn.setCell ⟨W0, 0, none⟩ (.slice (some ⟨gn, 0, none⟩) (k0 + 1) cap))) := by
        obtain ⟨qs', e1, e2⟩ := fin gn cap wn hon hgrow hat hlt hWn
        exact ⟨qs', rfl, e1, e2⟩
      clear hSw hSn hcn hWn hon hgrow hat fin hl1 hl2 hbs hFA hWA hownA hnewsA hSA hzA hS hOv hWv hvw hown hOW hIW hDW hFW
      go_wp2
      go_ret
      exact HE.out
    · skip
      refine wpOp_value (o := ⟨some 18, .buildSlice 24 1 #[(0, .tmp 17)], _, _, _, none⟩) rfl rfl (exec_buildSlice 24 1 #[(0, .tmp 17)] rfl #[(0, .int .i64 a)] (by simp [Act.eval]) hbs) ⟨hSA, ?_⟩
      simp only [Act.put, List.setIfInBounds_toArray, List.set_cons_zero, List.set_cons_succ]
      refine wpAnyH_all (rs := [4]) (by kernel_rfl) (by simp) ?_
      intro i5 hi5
      obtain rfl : i5 = 4 := by simpa using hi5
      refine wpOp_value (o := ⟨some 15, .load 24 (.tmp 14), _, _, _, none⟩) rfl rfl (exec_load 24 (.tmp 14) rfl ⟨W0, 0, none⟩ rfl hl2) ⟨hSA, ?_⟩
      simp only [Act.put, List.setIfInBounds_toArray, List.set_cons_zero, List.set_cons_succ]
      refine wpAnyH_all (rs := [8]) (by kernel_rfl) (by simp) ?_
      intro i8 hi8
      obtain rfl : i8 = 8 := by simpa using hi8
      refine wpOp_of_wp (o := ⟨some 19, .call { callee := .builtin .append, args := #[.tmp 15, .tmp 18], argTypes := #[24, 24] }, _, _, _, none⟩) rfl rfl ?_
      refine wp_append_lies _ (.tmp 15) (.tmp 18) 24 rfl b0 3 inf (.int .i64 0) 1 8 Tryz.underlying24 hi0 hz0 hz1 hz2 rfl (by decide) v0 k0 xs0 rfl hownA ⟨W.heap.size, 0, none⟩ 1 1 [.int .i64 a] rfl rfl hnewsA (by simp [Value.oneCell']) (by decide) (by unfold maxLen; omega) (by omega) hzA _ rfl ?_
      intro gn cap wn hon hgrow hat hlt
      have hSn : S wn := by
        show wn.cell? ⟨O, 2, none⟩ = _
        rw [hgrow.cell_far ⟨O, 2, none⟩ (by simp; omega) (fun e => hOv _ e.symm rfl)]; exact hSA
      refine ⟨hSn, ?_⟩
      simp only [Act.put, List.setIfInBounds_toArray, List.set_cons_zero, List.set_cons_succ]
      refine wpAnyH_take (S := S) (i := 9) (oi := ⟨some 20, .nilCheck (.tmp 11), _, _, _, none⟩) (v := .pointer (some ⟨W0, 0, none⟩)) rfl (by kernel_rfl) (by kernel_rfl) (by kernel_rfl) (fun _ _ _ h => h) (Or.inl ⟨rfl, fun _ _ => rfl⟩) hSn ?_
      simp only [Act.put, List.setIfInBounds_toArray, List.set_cons_zero, List.set_cons_succ]
      refine wpAnyH_take (S := S) (i := 10) (oi := ⟨some 21, .fieldAddr 34 (.tmp 20) 0, _, _, _, none⟩) (v := .pointer (some ⟨W0, 0, none⟩)) rfl (by kernel_rfl) (by kernel_rfl) (by kernel_rfl) (fun _ _ _ h => h) (Or.inl ⟨rfl, fun _ _ => by kernel_rfl⟩) hSn ?_
      simp only [Act.put, List.setIfInBounds_toArray, List.set_cons_zero, List.set_cons_succ]
      refine wpAnyH_all (rs := [11]) (by kernel_rfl) (by simp) ?_
      intro i11 hi11
      obtain rfl : i11 = 11 := by simpa using hi11
      have hWn : wn.heap[W0]? = some (.cells #[kv, rv, sv, dv, fv] 34 (0, 0)) := by rw [hgrow.block W0 (lt_of_heap hWA) (fun e => hWv _ e.symm rfl)]; exact hWA
      have hcn : wn.cell? ⟨W0, 0, none⟩ = some v0 := by rw [cell_of_row wn W0 0 _ _ _ hWn, HV.out]; rfl
      have hSw : S (wn.setCell ⟨W0, 0, none⟩ (.slice (some ⟨gn, 0, none⟩) (k0 + 1) cap)) := by
        show (wn.setCell _ _).cell? ⟨O, 2, none⟩ = _
        rw [World.cell?_setCell_other _ _ _ _ (fun e => hOW0 (congrArg Addr.block e).symm)]; exact hSn
      refine wpOp_skip (o := ⟨none, .store 24 (.tmp 21) (.tmp 19), _, _, _, none⟩) rfl rfl (exec_store 24 (.tmp 21) (.tmp 19) rfl ⟨W0, 0, none⟩ (.slice (some ⟨gn, 0, none⟩) (k0 + 1) cap) rfl rfl (run_storeAt_one hcn (frozen_of_row wn W0 0 _ _ hWn) (by kernel_rfl) rfl)) ⟨hSw, ?_⟩
      simp only [Act.put]
      refine wpAnyH_done (by kernel_rfl) ?_ _
      have HE : Hid (OwnPost w b0 W0 s (.returned (.bool true)) (wn.setCell ⟨W0, 0, none⟩ (.slice (some ⟨gn, 0, none⟩) (k0 + 1) cap))) := by
        obtain ⟨qs', e1, e2⟩ := fin gn cap wn hon hgrow hat hlt hWn
        exact ⟨qs', rfl, e1, e2⟩
      clear hSw hSn hcn hWn hon hgrow hat fin hl1 hl2 hbs hFA hWA hownA hnewsA hSA hzA hS hOv hWv hvw hown hOW hIW hDW hFW
      go_wp2
      go_ret
      exact HE.out

set_option maxRecDepth 100000 in
set_option maxHeartbeats 2000000 in
theorem owner_reply {w : World} {b0 W0 s : Nat} {qs : List DR} (h : Inv w b0 W0 s qs) (hs : s < 100000) (X a b : Int) (S T : ByteArray) :
    Calls Tryz.prog 11 #[.pointer (some ⟨W0, 0, none⟩), .agg (opv 3 X a b S T)] w fun e w' => OwnPost w b0 W0 s e w' := by
  have hsz := h.size
  obtain ⟨kv, rv, sv, dv, fv, k, r, st, kxs, rxs, sxs, fxs, hI, hk, hr, hst, hm, hDs, hPw⟩ := h
  unfold opv
  obtain ⟨v0, HV⟩ : ∃ v0, Hid (v0 = rv) := ⟨_, rfl⟩
  obtain ⟨k0, HK0⟩ : ∃ k0, Hid (k0 = r) := ⟨_, rfl⟩
  obtain ⟨xs0, HX⟩ : ∃ xs0, Hid (xs0 = rxs) := ⟨_, rfl⟩
  have hk0 : k0 ≤ s := by rw [HK0.out]; assumption
  go_enter Tryz.func11, Tryz.ntmps11
  go_wp2_with fail
  · have hlift : Tryz.prog.follows .mixedOrders = true := by kernel_rfl
    obtain ⟨W, HW⟩ : ∃ W, Hid (W = (w.alloc (.cells #[.int .i64 3, .int .i64 X, .int .i64 a, .int .i64 b, .string S, .string T] 27)).drew) := ⟨_, rfl⟩
    obtain ⟨O, HO⟩ : ∃ O, Hid (O = w.heap.size) := ⟨_, rfl⟩
    have hFW : Fr (fun _ => False) w W := by rw [HW.out]; exact ((Fr.refl _ _).alloc _).drew
    have hIW := hI.frz hFW
    have hDW : ∀ q ∈ qs, DI W b0 s q := fun q hq => (hDs q hq).fr hFW (fun _ _ _ _ _ => id)
    have hOW : W.heap[O]? = some (.cells #[.int .i64 3, .int .i64 X, .int .i64 a, .int .i64 b, .string S, .string T] 27 (0, 0)) := by rw [HW.out, HO.out]; exact heap_alloc_at _ _
    have hOl := lt_of_heap hOW
    have hbW : b0 ≤ W.heap.size := Nat.le_trans hsz hFW.size
    have hown : W.ownsRow b0 3 1 v0 k0 xs0 := by rw [HV.out, HK0.out, HX.out]; exact hIW.hr
    have hvw : W.cell? ⟨W0, 1, none⟩ = some v0 := by rw [HV.out]; exact hIW.c1
    have hOW0 : O ≠ W0 := by
      intro e; subst e
      have := hIW.hw.symm.trans hOW
      simp at this
    have hWv : ∀ b, v0.ownBlock = some b → b = W0 → False := by
      intro b hb e; subst e
      rcases hown.2 with ⟨rfl, _⟩ | ⟨g, cap, cur, rfl, _, hg, _⟩
      · simp [Value.ownBlock] at hb
      · simp only [Value.ownBlock, Option.some.injEq] at hb
        subst hb
        have := hIW.hw.symm.trans hg
        simp at this
    have hOv : ∀ b, v0.ownBlock = some b → b = O → False := by
      intro b hb e; subst e
      rcases hown.2 with ⟨rfl, _⟩ | ⟨g, cap, cur, rfl, _, hg, _⟩
      · simp [Value.ownBlock] at hb
      · simp only [Value.ownBlock, Option.some.injEq] at hb
        subst hb
        have := hOW.symm.trans hg
        simp at this
    let S : World → Prop := fun w' => w'.cell? ⟨O, 2, none⟩ = some (.int .i64 a)
    have hS : S W := by show W.cell? _ = _; rw [cell_of_row W O 2 _ _ _ hOW]; rfl
    obtain ⟨inf, hi0, hz0, hz1, hz2⟩ := info_parts int_info
    have hl1 : (Instr.loadAt 24 (.pointer (some ⟨W0, 1, none⟩))).run Tryz.prog W = .ok v0 W := run_loadAt_one hvw Tryz.underlying24 rfl
    have hbs : (Instr.buildSlice 24 1 #[(0, .int .i64 a)]).run Tryz.prog W = .ok (.slice (some ⟨W.heap.size, 0, none⟩) 1 1) (W.alloc (.cells #[.int .i64 a] 3)) :=
      run_buildSlice_one W 24 3 inf _ _ Tryz.underlying24 hi0 hz0 (by rw [hz1]; rfl) (by rw [hz1]; decide) (by rw [hz1]; decide)
    have hFA : Fr (fun _ => False) W (W.alloc (.cells #[.int .i64 a] 3)) := (Fr.refl _ _).alloc _
    have hWA : (W.alloc (.cells #[.int .i64 a] 3)).heap[W0]? = some (.cells #[kv, rv, sv, dv, fv] 34 (0, 0)) := hFA.keep hIW.hw id
    have hl2 : (Instr.loadAt 24 (.pointer (some ⟨W0, 1, none⟩))).run Tryz.prog (W.alloc (.cells #[.int .i64 a] 3)) = .ok v0 (W.alloc (.cells #[.int .i64 a] 3)) := run_loadAt_one (hFA.cell hvw id) Tryz.underlying24 rfl
    have hownA := hown.alloc (.cells #[.int .i64 a] 3)
    have hnewsA := World.news_of_block (w := W.alloc (.cells #[.int .i64 a] 3)) (B := W.heap.size) (heap_alloc_at W (.cells #[.int .i64 a] 3))
    have hSA : S (W.alloc (.cells #[.int .i64 a] 3)) := hFA.cell (p := ⟨O, 2, none⟩) hS id
    have hzA : b0 ≤ (W.alloc (.cells #[.int .i64 a] 3)).heap.size := by simp; omega
    have fin : ∀ (gn cap : Nat) (wn : World), wn.ownsRow b0 3 1 (.slice (some ⟨gn, 0, none⟩) (k0 + 1) cap) (k0 + 1) (xs0 ++ [.int .i64 a]) → (W.alloc (.cells #[.int .i64 a] 3)).grownBy wn v0.ownBlock →
        (v0.ownBlock = some gn ∨ gn = (W.alloc (.cells #[.int .i64 a] 3)).heap.size) → gn < wn.heap.size → wn.heap[W0]? = some (.cells #[kv, rv, sv, dv, fv] 34 (0, 0)) →
        ∃ qs', Inv (wn.setCell ⟨W0, 1, none⟩ (.slice (some ⟨gn, 0, none⟩) (k0 + 1) cap)) b0 W0 (s + 1) qs' ∧ Below b0 w (wn.setCell ⟨W0, 1, none⟩ (.slice (some ⟨gn, 0, none⟩) (k0 + 1) cap)) := by
      intro gn cap wn hon hgrow hat hlt hWn
      have hF1 : Fr (fun b => v0.ownBlock = some b) W wn := (hFA.mono (fun _ _ h => h.elim)).grown hgrow (fun b _ hb => hb)
      have hF2 : Fr (fun b => b = W0 ∨ v0.ownBlock = some b) W (wn.setCell ⟨W0, 1, none⟩ (.slice (some ⟨gn, 0, none⟩) (k0 + 1) cap)) := Fr.setCell (S := fun b => b = W0 ∨ v0.ownBlock = some b) (hF1.mono (fun _ _ h => Or.inr h)) ⟨W0, 1, none⟩ (fun _ => Or.inl rfl) _
      have hvt : ∀ b c t, W.heap[b]? = some (.cells c t (0, 0)) → v0.ownBlock = some b → t = 3 := by
        intro b c t hb hv
        rcases hown.2 with ⟨rfl, _⟩ | ⟨g, cap', cur, rfl, _, hg, _⟩
        · simp [Value.ownBlock] at hv
        · simp only [Value.ownBlock, Option.some.injEq] at hv
          subst hv
          rw [hb] at hg
          simp at hg
          exact hg.2
      have hgW : v0.ownBlock = some gn ∨ W.heap.size ≤ gn := by
        rcases hat with e | e
        · exact .inl e
        · right; simp at e; omega
      have hot : ∀ {e' : Nat}, e' ≠ 3 → e' ≠ 34 → ∀ b c, W.heap[b]? = some (.cells c e' (0, 0)) → ¬ (b = W0 ∨ v0.ownBlock = some b) := by
        rintro e' he1 he2 b c hb (rfl | hv)
        · rw [hIW.hw] at hb; simp at hb; exact he2 hb.2.symm
        · exact he1 (hvt b c e' hb hv)
      have hoth : (wn.setCell ⟨W0, 1, none⟩ (.slice (some ⟨gn, 0, none⟩) (k0 + 1) cap)).ownsRow b0 3 1 kv k kxs := own_fr hIW.hk hF2 (by
        rintro b c hb hrb (rfl | hv)
        · rw [hIW.hw] at hb; simp at hb
        · exact hIW.ne b hrb (by rw [← HV.out]; exact hv))
      have hne : ∀ b, kv.ownBlock = some b → (Value.slice (some ⟨gn, 0, none⟩) (k0 + 1) cap).ownBlock ≠ some b := by
        intro b hrb hb
        simp only [Value.ownBlock, Option.some.injEq] at hb
        subst hb
        rcases hgW with e | e
        · exact hIW.ne gn hrb (by rw [← HV.out]; exact e)
        · have := (hIW.hk.lt gn hrb).2; omega
      have hro : ∀ v ∈ xs0 ++ [.int .i64 a], v.oneCell' = true := by
        intro v hv
        rcases List.mem_append.1 hv with hv | hv
        · rw [HX.out] at hv; exact hIW.ro v hv
        · rw [List.mem_singleton.1 hv]; rfl
      refine ⟨qs, ⟨kv, (.slice (some ⟨gn, 0, none⟩) (k0 + 1) cap), sv, dv, fv, k, k0 + 1, st, kxs, xs0 ++ [.int .i64 a], sxs, fxs, ⟨heap_setCell_at wn W0 1 _ _ _ hWn, hoth, own_set hWn (by decide) hon, own_fr hIW.hs hF2 (fun b c hb _ => hot (by decide) (by decide) b c hb), own_fr hIW.hd hF2 (fun b c hb _ => hot (by decide) (by decide) b c hb), own_fr hIW.hf hF2 (fun b c hb _ => hot (by decide) (by decide) b c hb), hne, hro, hIW.so, hIW.w0⟩, by omega, by omega, by omega, by omega, fun q hq => ((hDW q hq).fr hF2 ?_).mono (by omega), hPw⟩, (frz_below hFW hsz).trans (hF2.below hbW ?_)⟩
      · intro b c t hb ht
        rcases ht with ⟨rfl, _⟩ | ⟨rfl, _⟩ | ⟨rfl, _⟩ | rfl <;> exact hot (by decide) (by decide) b c hb
      · rintro b (rfl | hv)
        · exact hIW.w0
        · exact (hown.lt b hv).1
    rw [← HO.out]
    refine wp_region_held (S := S) hlift ?_
    change wpAnyH _ _ _ _ S _ _ _ (World.drew _)
    rw [← HW.out]
    refine wpAnyH_take (S := S) (i := 0) (oi := ⟨some 29, .move (.tmp 0), _, _, _, none⟩) (v := .pointer (some ⟨W0, 0, none⟩)) rfl (by kernel_rfl) (by kernel_rfl) (by kernel_rfl) (fun _ _ _ h => h) (Or.inl ⟨rfl, fun _ _ => rfl⟩) hS ?_
    simp only [Act.put, List.setIfInBounds_toArray, List.set_cons_zero, List.set_cons_succ]
    refine wpAnyH_take (S := S) (i := 1) (oi := ⟨some 30, .move (.tmp 0), _, _, _, none⟩) (v := .pointer (some ⟨W0, 0, none⟩)) rfl (by kernel_rfl) (by kernel_rfl) (by kernel_rfl) (fun _ _ _ h => h) (Or.inl ⟨rfl, fun _ _ => rfl⟩) hS ?_
    simp only [Act.put, List.setIfInBounds_toArray, List.set_cons_zero, List.set_cons_succ]
    refine wpAnyH_take (S := S) (i := 2) (oi := ⟨some 31, .nilCheck (.tmp 30), _, _, _, none⟩) (v := .pointer (some ⟨W0, 0, none⟩)) rfl (by kernel_rfl) (by kernel_rfl) (by kernel_rfl) (fun _ _ _ h => h) (Or.inl ⟨rfl, fun _ _ => rfl⟩) hS ?_
    simp only [Act.put, List.setIfInBounds_toArray, List.set_cons_zero, List.set_cons_succ]
    refine wpAnyH_take (S := S) (i := 3) (oi := ⟨some 32, .fieldAddr 34 (.tmp 31) 1, _, _, _, none⟩) (v := .pointer (some ⟨W0, 1, none⟩)) rfl (by kernel_rfl) (by kernel_rfl) (by kernel_rfl) (fun _ _ _ h => h) (Or.inl ⟨rfl, fun _ _ => by kernel_rfl⟩) hS ?_
    simp only [Act.put, List.setIfInBounds_toArray, List.set_cons_zero, List.set_cons_succ]
    refine wpAnyH_take (S := S) (i := 5) (oi := ⟨some 34, .fieldAddr 27 (.tmp 3) 2, _, _, _, none⟩) (v := .pointer (some ⟨O, 2, none⟩)) rfl (by kernel_rfl) (by kernel_rfl) (by kernel_rfl) (fun _ _ _ h => h) (Or.inl ⟨rfl, fun _ _ => by kernel_rfl⟩) hS ?_
    simp only [Act.put, List.setIfInBounds_toArray, List.set_cons_zero, List.set_cons_succ]
    refine wpAnyH_take (S := S) (i := 6) (oi := ⟨some 35, .load 3 (.tmp 34), _, _, _, none⟩) (v := .int .i64 a) rfl (by kernel_rfl) (by kernel_rfl) (by kernel_rfl) (fun _ _ _ h => h) (Or.inl ⟨rfl, fun w' hs => exec_load 3 (.tmp 34) rfl ⟨O, 2, none⟩ rfl (run_loadAt_one hs Tryz.underlying3 rfl)⟩) hS ?_
    simp only [Act.put, List.setIfInBounds_toArray, List.set_cons_zero, List.set_cons_succ]
    refine wpAnyH_all (rs := [4, 7]) (by kernel_rfl) (by simp) ?_
    intro i4 hi4
    simp only [List.mem_cons, List.not_mem_nil, or_false] at hi4
    rcases hi4 with rfl | rfl
    · skip
      refine wpOp_value (o := ⟨some 33, .load 24 (.tmp 32), _, _, _, none⟩) rfl rfl (exec_load 24 (.tmp 32) rfl ⟨W0, 1, none⟩ rfl hl1) ⟨hS, ?_⟩
      simp only [Act.put, List.setIfInBounds_toArray, List.set_cons_zero, List.set_cons_succ]
      refine wpAnyH_all (rs := [7]) (by kernel_rfl) (by simp) ?_
      intro i7 hi7
      obtain rfl : i7 = 7 := by simpa using hi7
      refine wpOp_value (o := ⟨some 36, .buildSlice 24 1 #[(0, .tmp 35)], _, _, _, none⟩) rfl rfl (exec_buildSlice 24 1 #[(0, .tmp 35)] rfl #[(0, .int .i64 a)] (by simp [Act.eval]) hbs) ⟨hSA, ?_⟩
      simp only [Act.put, List.setIfInBounds_toArray, List.set_cons_zero, List.set_cons_succ]
      refine wpAnyH_all (rs := [8]) (by kernel_rfl) (by simp) ?_
      intro i8 hi8
      obtain rfl : i8 = 8 := by simpa using hi8
      refine wpOp_of_wp (o := ⟨some 37, .call { callee := .builtin .append, args := #[.tmp 33, .tmp 36], argTypes := #[24, 24] }, _, _, _, none⟩) rfl rfl ?_
      refine wp_append_lies _ (.tmp 33) (.tmp 36) 24 rfl b0 3 inf (.int .i64 0) 1 8 Tryz.underlying24 hi0 hz0 hz1 hz2 rfl (by decide) v0 k0 xs0 rfl hownA ⟨W.heap.size, 0, none⟩ 1 1 [.int .i64 a] rfl rfl hnewsA (by simp [Value.oneCell']) (by decide) (by unfold maxLen; omega) (by omega) hzA _ rfl ?_
      intro gn cap wn hon hgrow hat hlt
      have hSn : S wn := by
        show wn.cell? ⟨O, 2, none⟩ = _
        rw [hgrow.cell_far ⟨O, 2, none⟩ (by simp; omega) (fun e => hOv _ e.symm rfl)]; exact hSA
      refine ⟨hSn, ?_⟩
      simp only [Act.put, List.setIfInBounds_toArray, List.set_cons_zero, List.set_cons_succ]
      refine wpAnyH_take (S := S) (i := 9) (oi := ⟨some 38, .nilCheck (.tmp 29), _, _, _, none⟩) (v := .pointer (some ⟨W0, 0, none⟩)) rfl (by kernel_rfl) (by kernel_rfl) (by kernel_rfl) (fun _ _ _ h => h) (Or.inl ⟨rfl, fun _ _ => rfl⟩) hSn ?_
      simp only [Act.put, List.setIfInBounds_toArray, List.set_cons_zero, List.set_cons_succ]
      refine wpAnyH_take (S := S) (i := 10) (oi := ⟨some 39, .fieldAddr 34 (.tmp 38) 1, _, _, _, none⟩) (v := .pointer (some ⟨W0, 1, none⟩)) rfl (by kernel_rfl) (by kernel_rfl) (by kernel_rfl) (fun _ _ _ h => h) (Or.inl ⟨rfl, fun _ _ => by kernel_rfl⟩) hSn ?_
      simp only [Act.put, List.setIfInBounds_toArray, List.set_cons_zero, List.set_cons_succ]
      refine wpAnyH_all (rs := [11]) (by kernel_rfl) (by simp) ?_
      intro i11 hi11
      obtain rfl : i11 = 11 := by simpa using hi11
      have hWn : wn.heap[W0]? = some (.cells #[kv, rv, sv, dv, fv] 34 (0, 0)) := by rw [hgrow.block W0 (lt_of_heap hWA) (fun e => hWv _ e.symm rfl)]; exact hWA
      have hcn : wn.cell? ⟨W0, 1, none⟩ = some v0 := by rw [cell_of_row wn W0 1 _ _ _ hWn, HV.out]; rfl
      have hSw : S (wn.setCell ⟨W0, 1, none⟩ (.slice (some ⟨gn, 0, none⟩) (k0 + 1) cap)) := by
        show (wn.setCell _ _).cell? ⟨O, 2, none⟩ = _
        rw [World.cell?_setCell_other _ _ _ _ (fun e => hOW0 (congrArg Addr.block e).symm)]; exact hSn
      refine wpOp_skip (o := ⟨none, .store 24 (.tmp 39) (.tmp 37), _, _, _, none⟩) rfl rfl (exec_store 24 (.tmp 39) (.tmp 37) rfl ⟨W0, 1, none⟩ (.slice (some ⟨gn, 0, none⟩) (k0 + 1) cap) rfl rfl (run_storeAt_one hcn (frozen_of_row wn W0 1 _ _ hWn) (by kernel_rfl) rfl)) ⟨hSw, ?_⟩
      simp only [Act.put]
      refine wpAnyH_done (by kernel_rfl) ?_ _
      have HE : Hid (OwnPost w b0 W0 s (.returned (.bool true)) (wn.setCell ⟨W0, 1, none⟩ (.slice (some ⟨gn, 0, none⟩) (k0 + 1) cap))) := by
        obtain ⟨qs', e1, e2⟩ := fin gn cap wn hon hgrow hat hlt hWn
        exact ⟨qs', rfl, e1, e2⟩
      clear hSw hSn hcn hWn hon hgrow hat fin hl1 hl2 hbs hFA hWA hownA hnewsA hSA hzA hS hOv hWv hvw hown hOW hIW hDW hFW
      go_wp2
      go_ret
      exact HE.out
    · skip
      refine wpOp_value (o := ⟨some 36, .buildSlice 24 1 #[(0, .tmp 35)], _, _, _, none⟩) rfl rfl (exec_buildSlice 24 1 #[(0, .tmp 35)] rfl #[(0, .int .i64 a)] (by simp [Act.eval]) hbs) ⟨hSA, ?_⟩
      simp only [Act.put, List.setIfInBounds_toArray, List.set_cons_zero, List.set_cons_succ]
      refine wpAnyH_all (rs := [4]) (by kernel_rfl) (by simp) ?_
      intro i5 hi5
      obtain rfl : i5 = 4 := by simpa using hi5
      refine wpOp_value (o := ⟨some 33, .load 24 (.tmp 32), _, _, _, none⟩) rfl rfl (exec_load 24 (.tmp 32) rfl ⟨W0, 1, none⟩ rfl hl2) ⟨hSA, ?_⟩
      simp only [Act.put, List.setIfInBounds_toArray, List.set_cons_zero, List.set_cons_succ]
      refine wpAnyH_all (rs := [8]) (by kernel_rfl) (by simp) ?_
      intro i8 hi8
      obtain rfl : i8 = 8 := by simpa using hi8
      refine wpOp_of_wp (o := ⟨some 37, .call { callee := .builtin .append, args := #[.tmp 33, .tmp 36], argTypes := #[24, 24] }, _, _, _, none⟩) rfl rfl ?_
      refine wp_append_lies _ (.tmp 33) (.tmp 36) 24 rfl b0 3 inf (.int .i64 0) 1 8 Tryz.underlying24 hi0 hz0 hz1 hz2 rfl (by decide) v0 k0 xs0 rfl hownA ⟨W.heap.size, 0, none⟩ 1 1 [.int .i64 a] rfl rfl hnewsA (by simp [Value.oneCell']) (by decide) (by unfold maxLen; omega) (by omega) hzA _ rfl ?_
      intro gn cap wn hon hgrow hat hlt
      have hSn : S wn := by
        show wn.cell? ⟨O, 2, none⟩ = _
        rw [hgrow.cell_far ⟨O, 2, none⟩ (by simp; omega) (fun e => hOv _ e.symm rfl)]; exact hSA
      refine ⟨hSn, ?_⟩
      simp only [Act.put, List.setIfInBounds_toArray, List.set_cons_zero, List.set_cons_succ]
      refine wpAnyH_take (S := S) (i := 9) (oi := ⟨some 38, .nilCheck (.tmp 29), _, _, _, none⟩) (v := .pointer (some ⟨W0, 0, none⟩)) rfl (by kernel_rfl) (by kernel_rfl) (by kernel_rfl) (fun _ _ _ h => h) (Or.inl ⟨rfl, fun _ _ => rfl⟩) hSn ?_
      simp only [Act.put, List.setIfInBounds_toArray, List.set_cons_zero, List.set_cons_succ]
      refine wpAnyH_take (S := S) (i := 10) (oi := ⟨some 39, .fieldAddr 34 (.tmp 38) 1, _, _, _, none⟩) (v := .pointer (some ⟨W0, 1, none⟩)) rfl (by kernel_rfl) (by kernel_rfl) (by kernel_rfl) (fun _ _ _ h => h) (Or.inl ⟨rfl, fun _ _ => by kernel_rfl⟩) hSn ?_
      simp only [Act.put, List.setIfInBounds_toArray, List.set_cons_zero, List.set_cons_succ]
      refine wpAnyH_all (rs := [11]) (by kernel_rfl) (by simp) ?_
      intro i11 hi11
      obtain rfl : i11 = 11 := by simpa using hi11
      have hWn : wn.heap[W0]? = some (.cells #[kv, rv, sv, dv, fv] 34 (0, 0)) := by rw [hgrow.block W0 (lt_of_heap hWA) (fun e => hWv _ e.symm rfl)]; exact hWA
      have hcn : wn.cell? ⟨W0, 1, none⟩ = some v0 := by rw [cell_of_row wn W0 1 _ _ _ hWn, HV.out]; rfl
      have hSw : S (wn.setCell ⟨W0, 1, none⟩ (.slice (some ⟨gn, 0, none⟩) (k0 + 1) cap)) := by
        show (wn.setCell _ _).cell? ⟨O, 2, none⟩ = _
        rw [World.cell?_setCell_other _ _ _ _ (fun e => hOW0 (congrArg Addr.block e).symm)]; exact hSn
      refine wpOp_skip (o := ⟨none, .store 24 (.tmp 39) (.tmp 37), _, _, _, none⟩) rfl rfl (exec_store 24 (.tmp 39) (.tmp 37) rfl ⟨W0, 1, none⟩ (.slice (some ⟨gn, 0, none⟩) (k0 + 1) cap) rfl rfl (run_storeAt_one hcn (frozen_of_row wn W0 1 _ _ hWn) (by kernel_rfl) rfl)) ⟨hSw, ?_⟩
      simp only [Act.put]
      refine wpAnyH_done (by kernel_rfl) ?_ _
      have HE : Hid (OwnPost w b0 W0 s (.returned (.bool true)) (wn.setCell ⟨W0, 1, none⟩ (.slice (some ⟨gn, 0, none⟩) (k0 + 1) cap))) := by
        obtain ⟨qs', e1, e2⟩ := fin gn cap wn hon hgrow hat hlt hWn
        exact ⟨qs', rfl, e1, e2⟩
      clear hSw hSn hcn hWn hon hgrow hat fin hl1 hl2 hbs hFA hWA hownA hnewsA hSA hzA hS hOv hWv hvw hown hOW hIW hDW hFW
      go_wp2
      go_ret
      exact HE.out
end Go.Proofs.YthnmpgnaahkgkaaGreatDoor
