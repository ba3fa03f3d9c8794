import Derived.Test.YthnmpgnaahkgkaaGreatDoorSt
namespace Go.Proofs.YthnmpgnaahkgkaaGreatDoor
open Go.RowKit

def DPost (w : World) (b0 s : Nat) (q : DR) (e : Ending) (w' : World) : Prop := e = .returned (.bool true) ∧ ∃ q', (q'.D = q.D ∧ q'.A = q.A ∧ q'.B = q.B) ∧ DI w' b0 (s + 1) q' ∧ Fr (fun b => b = q.D ∨ b = q.A ∨ b = q.B) w w'
theorem formatted_any {w : World} {b0 s : Nat} {q : DR} (h : DI w b0 s q) (hs : s < 90000) (hG : GOk w) (hg : 0 < b0) : Calls Tryz.prog 17 #[.pointer (some ⟨q.D, 0, none⟩)] w fun e w' => DPost w b0 s q e w' := by
  obtain ⟨x, pause, calls, writes, bs, hw, hb, h0, h1, h2, h3, hbD, hbA, hbB, hn⟩ := h
  by_cases hn8 : 8 ≤ q.n ∧ q.n ≤ 400
  · refine (formatted_ok hw h0 (by omega) h2 (by omega) hn8.1 hn8.2).mono ?_
    rintro e w' ⟨rfl, ⟨bs', hw', hb'⟩, hf⟩
    exact ⟨rfl, ⟨q.D, q.A, q.B, q.Pp, q.n, false⟩, ⟨rfl, rfl, rfl⟩, ⟨_, _, _, _, _, hw', fun _ _ => by simpa using hb', by omega, by omega, by omega, by omega, hbD, hbA, hbB, hn⟩, hf⟩
  · refine (formatted_bad hw hG (by omega) (by omega)).mono ?_
    rintro e w' ⟨rfl, hw', hf⟩
    exact ⟨rfl, q, ⟨rfl, rfl, rfl⟩, ⟨_, _, _, _, _, hw', hb, h0, by omega, h2, by omega, hbD, hbA, hbB, hn⟩, hf.mono (fun _ _ h => Or.inl h)⟩
theorem opened_any {w : World} {b0 s : Nat} {q : DR} (h : DI w b0 s q) (hs : s < 90000) (hG : GOk w) (hg : 0 < b0) (p : Int) : Calls Tryz.prog 19 #[.pointer (some ⟨q.D, 0, none⟩), .int .i64 p] w fun e w' => DPost w b0 s q e w' := by
  obtain ⟨x, pause, calls, writes, bs, hw, hb, h0, h1, h2, h3, hbD, hbA, hbB, hn⟩ := h
  have hmn : ∀ w', Fr (fun b => b = q.D ∨ b = q.A) w w' → Fr (fun b => b = q.D ∨ b = q.A ∨ b = q.B) w w' := fun w' hf => hf.mono (fun b _ h => by rcases h with h | h; exact .inl h; exact .inr (.inl h))
  by_cases hp : p < 1 ∨ 64 < p
  · refine (opened_pause hw hG (by omega) (by omega) p hp).mono ?_
    rintro e w' ⟨rfl, hw', hf⟩
    exact ⟨rfl, q, ⟨rfl, rfl, rfl⟩, ⟨_, _, _, _, _, hw', hb, h0, by omega, h2, by omega, hbD, hbA, hbB, hn⟩, hmn _ hf⟩
  by_cases hn8 : 8 ≤ q.n ∧ q.n ≤ 400
  · have hb' := hb hn8.1 hn8.2
    cases hq : q.nn with
    | true =>
      rw [hq] at hb'
      refine (opened_none hw hG (by omega) (by omega) p (by omega) (by omega) hn8.1 hn8.2 h0 (by omega) (by simpa using hb') hq).mono ?_
      rintro e w' ⟨rfl, hw', hf⟩
      exact ⟨rfl, q, ⟨rfl, rfl, rfl⟩, ⟨_, _, _, _, _, hw', hb, by omega, by omega, h2, by omega, hbD, hbA, hbB, hn⟩, hmn _ hf⟩
    | false =>
      rw [hq] at hb'
      refine (opened_ok hw hG (by omega) (by omega) p (by omega) (by omega) hn8.1 hn8.2 h0 (by omega) (by simpa using hb') hq).mono ?_
      rintro e w' ⟨rfl, ⟨x', hw'⟩, hf⟩
      exact ⟨rfl, q, ⟨rfl, rfl, rfl⟩, ⟨_, _, _, _, _, hw', hb, by omega, by omega, h2, by omega, hbD, hbA, hbB, hn⟩, hmn _ hf⟩
  · refine (opened_bad hw hG (by omega) (by omega) p (by omega) (by omega) (by omega)).mono ?_
    rintro e w' ⟨rfl, hw', hf⟩
    exact ⟨rfl, q, ⟨rfl, rfl, rfl⟩, ⟨_, _, _, _, _, hw', hb, h0, by omega, h2, by omega, hbD, hbA, hbB, hn⟩, hmn _ hf⟩
theorem GOk.below {w w' : World} {b0 : Nat} (h : GOk w) (hb : Below b0 w w') (hg : 0 < b0) : GOk w' := by
  unfold GOk at *
  rw [hb.cell (p := ⟨0, 0, none⟩) hg]; exact h

set_option maxRecDepth 100000 in
set_option maxHeartbeats 1000000 in
theorem step_own {w : World} {b0 W0 s : Nat} {qs : List DR} (h : Inv w b0 W0 s qs) (hs : s < 90000) (K X a b : Int) (S T : ByteArray) (h1 : 1 ≤ K) (h2 : K ≤ 6) :
    Calls Tryz.prog 10 #[.pointer (some ⟨W0, 0, none⟩), .agg (opv K X a b S T)] w fun e w' => OwnPost w b0 W0 s e w' := by
  have hsz := h.size
  have hF : Fr (fun _ => False) w (w.alloc (.cells (opv K X a b S T) 27)) := (Fr.refl _ _).alloc _
  have hI := h.frz hF (Nat.le_refl _)
  have hB := frz_below hF hsz
  have HO := owner_own hI (by omega) K X a b S T h1 h2
  clear hF hI h
  unfold opv at *
  go_enter Tryz.func10, Tryz.ntmps10
  go_wp2_with fail
  refine HO.mono ?_
  rintro e w2 ⟨qs', rfl, hI2, hB2⟩
  have HE : Hid (OwnPost w b0 W0 s (.returned (.bool true)) w2) := ⟨qs', rfl, hI2, hB.trans hB2⟩
  clear hI2 hB2 HO hB
  go_wp2
  go_ret
  exact HE.out
set_option maxRecDepth 100000 in
set_option maxHeartbeats 1000000 in
theorem step_low {w : World} {b0 W0 s : Nat} {qs : List DR} (h : Inv w b0 W0 s qs) (K X a b : Int) (S T : ByteArray) (h1 : K < 1 ∨ (6 < K ∧ qs = [])) :
    Calls Tryz.prog 10 #[.pointer (some ⟨W0, 0, none⟩), .agg (opv K X a b S T)] w fun e w' => OwnPost w b0 W0 s e w' := by
  have hsz := h.size
  have hF : Fr (fun _ => False) w (w.alloc (.cells (opv K X a b S T) 27)) := (Fr.refl _ _).alloc _
  have hOc : (w.alloc (.cells (opv K X a b S T) 27)).cell? ⟨w.heap.size, 0, none⟩ = some (.int .i64 K) := by rw [cell_of_row _ w.heap.size 0 _ _ _ (heap_alloc_at _ _)]; rfl
  have HO := owner_other (w := w.alloc (.cells (opv K X a b S T) 27)) (W0 := W0) K X a b S T (by omega)
  unfold opv at *
  go_enter Tryz.func10, Tryz.ntmps10
  go_wp2_with fail
  refine HO.mono ?_
  rintro e w2 ⟨rfl, hf2⟩
  have hF2 := hF.trans hf2 (fun _ _ h => h)
  have hI2 := h.frz hF2 (Nat.le_refl _)
  have HE : Hid (OwnPost w b0 W0 s (.returned (.bool true)) w2) := ⟨qs, rfl, h.frz hF2 (by omega), frz_below hF2 hsz⟩
  have hO2 := hf2.cell hOc id
  obtain ⟨kv, rv, sv, dv, fv, k, r, st, kxs, rxs, sxs, fxs, hI, _⟩ := hI2
  obtain ⟨ao, cc, hdv⟩ := own_form hI.hd
  have c3 := hI.c3
  rw [hdv] at c3
  clear hI hdv hF hOc HO hf2 hF2 h
  by_cases hq : qs.length = 0
  · have hq' : ((qs.length : Int) == 0) = true := by simp [hq]
    go_wp2
    go_ret
    exact HE.out
  · have hq' : ((qs.length : Int) == 0) = false := by simp; exact fun e => hq (by simp [e])
    have hK : decide (K < 7) = true := by
      rcases h1 with h1 | ⟨_, e⟩
      · simp; omega
      · exact absurd (by simp [e]) hq
    go_wp2
    go_ret
    exact HE.out

/-- A step of the script on a disk: how it comes to the disk. -/
theorem disk_at {w : World} {b0 : Nat} {dv : Value} {m : Nat} {ds : List Nat} (h : w.ownsRow b0 37 1 dv m (ds.map fun D => Value.pointer (some ⟨D, 0, none⟩))) (hm : 0 < m) :
    ∃ g cap, dv = .slice (some ⟨g, 0, none⟩) m cap ∧ ∀ (i : Nat) (D : Nat), ds[i]? = some D → w.cell? ⟨g, i, none⟩ = some (.pointer (some ⟨D, 0, none⟩)) := by
  obtain ⟨g, cap, rfl, _, _⟩ := h.form hm
  refine ⟨g, cap, rfl, fun i D hi => ?_⟩
  have := h.cells (g := g) rfl i (.pointer (some ⟨D, 0, none⟩)) (by rw [List.getElem?_map, hi]; rfl)
  rwa [Addr.add_mid, Nat.zero_add] at this

theorem fail_set {w : World} {b0 W0 s : Nat} {kv rv sv dv : Value} {k r st : Nat} {kxs rxs sxs fxs : List Value} {qs : List DR} {gf capf : Nat}
    (hI : WI w b0 W0 kv rv sv dv (.slice (some ⟨gf, 0, none⟩) qs.length capf) k r st qs.length kxs rxs sxs (qs.map DR.D) fxs) (hk : k ≤ s) (hr : r ≤ s) (hst : st ≤ s) (hm : qs.length ≤ s) (hDs : ∀ q ∈ qs, DI w b0 s q) (hPw : qs.Pairwise Apart) (i : Nat) :
    Inv (w.setCell ⟨gf, i, none⟩ (.bool false)) b0 W0 s qs ∧ Below b0 w (w.setCell ⟨gf, i, none⟩ (.bool false)) ∧ (∀ q, DI w b0 s q → DI (w.setCell ⟨gf, i, none⟩ (.bool false)) b0 s q) ∧
      (i < qs.length → ∃ v, w.cell? ⟨gf, i, none⟩ = some v) ∧ w.frozen? ⟨gf, i, none⟩ = false ∧ (∀ c t, w.heap[gf]? = some (.cells c t (0, 0)) → t = 4) := by
  obtain ⟨cur, hgf, hcs, hnc⟩ : ∃ cur, w.heap[gf]? = some (.cells cur 4 (0, 0)) ∧ cur.size = capf ∧ qs.length ≤ capf := by
    rcases hI.hf.2 with ⟨hv, _⟩ | ⟨g', cap', cur, hv, _, hg, hn, _, hc, _⟩
    · cases hv
    · simp only [Value.slice.injEq, Option.some.injEq, Addr.mk.injEq, and_true, true_and] at hv
      obtain ⟨rfl, rfl⟩ := hv
      exact ⟨cur, hg, by omega, hn⟩
  have hty : ∀ c t, w.heap[gf]? = some (.cells c t (0, 0)) → t = 4 := fun c t h => by rw [hgf] at h; simp at h; exact h.2.symm
  have hf : Fr (· = gf) w (w.setCell ⟨gf, i, none⟩ (.bool false)) := Fr.set1 _ _ _ _
  have hne : ∀ {e : Nat}, e ≠ 4 → ∀ b c, w.heap[b]? = some (.cells c e (0, 0)) → ¬ b = gf := fun he b c hb e => he (hty c _ (e ▸ hb))
  have hst' := hI.hf.stored i (.bool false)
  have hgb : b0 ≤ gf := (hI.hf.lt gf rfl).1
  have hDI : ∀ q, DI w b0 s q → DI (w.setCell ⟨gf, i, none⟩ (.bool false)) b0 s q := fun q hq => hq.fr hf (fun b c t hb ht => by
    rcases ht with ⟨rfl, _⟩ | ⟨rfl, _⟩ | ⟨rfl, _⟩ | rfl <;> exact hne (by decide) b c hb)
  have hB : Below b0 w (w.setCell ⟨gf, i, none⟩ (.bool false)) := (Below.refl _ _).setCell (p := ⟨gf, i, none⟩) hgb _
  refine ⟨⟨kv, rv, sv, dv, _, k, r, st, kxs, rxs, sxs, fxs.set i (.bool false), ⟨hf.keep hI.hw (hne (by decide) _ _ hI.hw), own_fr hI.hk hf (fun b c hb _ => hne (by decide) b c hb), own_fr hI.hr hf (fun b c hb _ => hne (by decide) b c hb), own_fr hI.hs hf (fun b c hb _ => hne (by decide) b c hb), own_fr hI.hd hf (fun b c hb _ => hne (by decide) b c hb), hst'.1, hI.ne, hI.ro, hI.so, hI.w0⟩, hk, hr, hst, hm, fun q hq => hDI q (hDs q hq), hPw⟩, hB, hDI, fun hi => ?_, frozen_of_row w gf i _ _ hgf, hty⟩
  rw [cell_of_row w gf i _ _ _ hgf]
  exact ⟨_, Array.getElem?_eq_getElem (by omega)⟩

set_option maxRecDepth 100000 in
set_option maxHeartbeats 4000000 in
theorem step_fmt {w : World} {b0 W0 s : Nat} {qs : List DR} (h : Inv w b0 W0 s qs) (hs : s < 90000) (hG : GOk w) (hg : 0 < b0) (X a b : Int) (S T : ByteArray) (hX1 : -9223372036854775808 ≤ X) (hX2 : X ≤ 9223372036854775807) (ha1 : -9223372036854775808 ≤ a) (ha2 : a ≤ 9223372036854775807) (hb1 : -9223372036854775808 ≤ b) (hb2 : b ≤ 9223372036854775807) (hq : 0 < qs.length) :
    Calls Tryz.prog 10 #[.pointer (some ⟨W0, 0, none⟩), .agg (opv 10 X a b S T)] w fun e w' => OwnPost w b0 W0 s e w' := by
  have hsz := h.size
  have hF : Fr (fun _ => False) w (w.alloc (.cells (opv 10 X a b S T) 27)) := (Fr.refl _ _).alloc _
  obtain ⟨O, HOO⟩ : ∃ O, Hid (O = w.heap.size) := ⟨_, rfl⟩
  have hOh : (w.alloc (.cells (opv 10 X a b S T) 27)).heap[w.heap.size]? = some (.cells (opv 10 X a b S T) 27 (0, 0)) := heap_alloc_at _ _
  have HO := owner_other (w := w.alloc (.cells (opv 10 X a b S T) 27)) (W0 := W0) 10 X a b S T (by omega)
  unfold opv at *
  go_enter Tryz.func10, Tryz.ntmps10
  go_wp2_with fail
  refine HO.mono ?_
  rintro e w2 ⟨rfl, hf2⟩
  have hF2 := hF.trans hf2 (fun _ _ h => h)
  have hI2 := h.frz hF2 (Nat.le_refl _)
  have hB2 := frz_below hF2 hsz
  have hG2 := hG.fr hF2 id
  have hO2 := hf2.keep hOh id
  rw [← HOO.out] at hO2
  have o0 : w2.cell? ⟨O, 0, none⟩ = some (.int .i64 10) := by rw [cell_of_row w2 O 0 _ _ _ hO2]; rfl
  have o1 : w2.cell? ⟨O, 1, none⟩ = some (.int .i64 X) := by rw [cell_of_row w2 O 1 _ _ _ hO2]; rfl
  have o2 : w2.cell? ⟨O, 2, none⟩ = some (.int .i64 a) := by rw [cell_of_row w2 O 2 _ _ _ hO2]; rfl
  have o3 : w2.cell? ⟨O, 3, none⟩ = some (.int .i64 b) := by rw [cell_of_row w2 O 3 _ _ _ hO2]; rfl
  have HI2 : Hid (Inv w2 b0 W0 s qs) := hI2
  obtain ⟨kv, rv, sv, dv, fv, k, r, st, kxs, rxs, sxs, fxs, hI, hk, hr, hst, hm, hDs, hPw⟩ := hI2
  obtain ⟨g, cap, hdv, hdc⟩ := disk_at hI.hd hq
  subst hdv
  have hOg : Hid (∀ gb c t, fv.ownBlock = some gb → w2.heap[O]? = some (.cells c t (0, 0)) → gb = O → t = 4) := by
    intro gb c t hv hb e
    subst e
    rcases hI.hf.2 with ⟨rfl, _⟩ | ⟨g', cap', cur, rfl, _, hg', _⟩
    · simp [Value.ownBlock] at hv
    · simp only [Value.ownBlock, Option.some.injEq] at hv
      subst hv
      rw [hb] at hg'
      simp at hg'
      exact hg'.2
  have HO2 : Hid (w2.heap[O]? = some (.cells #[.int .i64 10, .int .i64 X, .int .i64 a, .int .i64 b, .string S, .string T] 27 (0, 0))) := hO2
  have c3 := hI.c3
  have HDC : Hid (∀ (i : Nat) (D : Nat), (qs.map DR.D)[i]? = some D → w2.cell? ⟨g, i, none⟩ = some (.pointer (some ⟨D, 0, none⟩))) := hdc
  have HI : Hid (WI w2 b0 W0 kv rv sv (.slice (some ⟨g, 0, none⟩) qs.length cap) fv k r st qs.length kxs rxs sxs (qs.map DR.D) fxs) := hI
  have HDs : Hid (∀ q ∈ qs, DI w2 b0 s q) := hDs
  have HPw : Hid (qs.Pairwise Apart) := hPw
  have hq' : ((qs.length : Int) == 0) = false := by simp; intro e; simp [e] at hq
  clear hdc hI hDs hPw hF hOh HO hf2 hF2 hO2 h
  rw [← HOO.out]
  go_wp2_with fail
  have hlift : Tryz.prog.follows .mixedOrders = true := by kernel_rfl
  let S' : World → Prop := fun w' => w'.cell? ⟨O, 1, none⟩ = some (.int .i64 X) ∧ w'.cell? ⟨W0, 3, none⟩ = some (.slice (some ⟨g, 0, none⟩) qs.length cap)
  have hS : S' w2.drew := ⟨o1, c3⟩
  refine wp_region_held (S := S') hlift ?_
  change wpAnyH _ _ _ _ S' _ _ _ (World.drew _)
  refine wpAnyH_take (S := S') (i := 0) (oi := ⟨some 30, .fieldAddr 27 (.tmp 3) 1, _, _, _, none⟩) (v := .pointer (some ⟨O, 1, none⟩)) rfl (by kernel_rfl) (by kernel_rfl) (by kernel_rfl) (fun _ _ _ h => h) (Or.inl ⟨rfl, fun _ _ => by kernel_rfl⟩) hS ?_
  simp only [Act.put, List.setIfInBounds_toArray, List.set_cons_zero, List.set_cons_succ]
  refine wpAnyH_take (S := S') (i := 1) (oi := ⟨some 31, .load 3 (.tmp 30), _, _, _, none⟩) (v := .int .i64 X) rfl (by kernel_rfl) (by kernel_rfl) (by kernel_rfl) (fun _ _ _ h => h) (Or.inl ⟨rfl, fun w' hs => exec_load 3 (.tmp 30) rfl ⟨O, 1, none⟩ rfl (run_loadAt_one hs.1 Tryz.underlying3 rfl)⟩) hS ?_
  simp only [Act.put, List.setIfInBounds_toArray, List.set_cons_zero, List.set_cons_succ]
  refine wpAnyH_take (S := S') (i := 2) (oi := ⟨some 32, .move (.tmp 0), _, _, _, none⟩) (v := .pointer (some ⟨W0, 0, none⟩)) rfl (by kernel_rfl) (by kernel_rfl) (by kernel_rfl) (fun _ _ _ h => h) (Or.inl ⟨rfl, fun _ _ => rfl⟩) hS ?_
  simp only [Act.put, List.setIfInBounds_toArray, List.set_cons_zero, List.set_cons_succ]
  refine wpAnyH_take (S := S') (i := 3) (oi := ⟨some 33, .nilCheck (.tmp 32), _, _, _, none⟩) (v := .pointer (some ⟨W0, 0, none⟩)) rfl (by kernel_rfl) (by kernel_rfl) (by kernel_rfl) (fun _ _ _ h => h) (Or.inl ⟨rfl, fun _ _ => rfl⟩) hS ?_
  simp only [Act.put, List.setIfInBounds_toArray, List.set_cons_zero, List.set_cons_succ]
  refine wpAnyH_take (S := S') (i := 4) (oi := ⟨some 34, .fieldAddr 34 (.tmp 33) 3, _, _, _, none⟩) (v := .pointer (some ⟨W0, 3, none⟩)) rfl (by kernel_rfl) (by kernel_rfl) (by kernel_rfl) (fun _ _ _ h => h) (Or.inl ⟨rfl, fun _ _ => by kernel_rfl⟩) hS ?_
  simp only [Act.put, List.setIfInBounds_toArray, List.set_cons_zero, List.set_cons_succ]
  refine wpAnyH_take (S := S') (i := 5) (oi := ⟨some 35, .load 31 (.tmp 34), _, _, _, none⟩) (v := .slice (some ⟨g, 0, none⟩) qs.length cap) rfl (by kernel_rfl) (by kernel_rfl) (by kernel_rfl) (fun _ _ _ h => h) (Or.inl ⟨rfl, fun w' hs => exec_load 31 (.tmp 34) rfl ⟨W0, 3, none⟩ rfl (run_loadAt_one hs.2 Tryz.underlying31 rfl)⟩) hS ?_
  simp only [Act.put, List.setIfInBounds_toArray, List.set_cons_zero, List.set_cons_succ]
  refine wpAnyH_take (S := S') (i := 6) (oi := ⟨some 36, .call { callee := .builtin .len, args := #[.tmp 35], argTypes := _ }, _, _, _, none⟩) (v := .int .i64 qs.length) rfl (by kernel_rfl) (by kernel_rfl) (by kernel_rfl) (fun _ _ _ h => h) (Or.inl ⟨rfl, fun _ _ => by kernel_rfl⟩) hS ?_
  simp only [Act.put, List.setIfInBounds_toArray, List.set_cons_zero, List.set_cons_succ]
  refine wpAnyH_all (rs := [7]) (by kernel_rfl) (by simp) ?_
  intro i7 hi7
  obtain rfl : i7 = 7 := by simpa using hi7
  refine wpOp_call (o := ⟨some 37, .call { callee := .value (.func 12), args := #[.tmp 31, .tmp 36], argTypes := _ }, _, _, _, none⟩) (f := 12) (args := #[.int .i64 X, .int .i64 qs.length]) rfl rfl (by kernel_rfl) ?_
  refine (pick_ok X qs.length w2.drew hX1 hX2 (by omega) (by omega)).mono ?_
  rintro e w3 ⟨⟨r0, rfl, hr0, hr1⟩, hw3⟩
  obtain ⟨i, rfl⟩ : ∃ i : Nat, r0 = i := ⟨r0.toNat, by omega⟩
  have hS3 : S' w3 := by rw [hw3]; exact hS
  refine ⟨_, rfl, hS3, ?_⟩
  simp only [Act.put, List.setIfInBounds_toArray, List.set_cons_zero, List.set_cons_succ]
  refine wpAnyH_take (S := S') (i := 8) (oi := ⟨some 6, .assign (.tmp 37), _, _, _, none⟩) (v := .int .i64 i) rfl (by kernel_rfl) (by kernel_rfl) (by kernel_rfl) (fun _ _ _ h => h) (Or.inl ⟨rfl, fun _ _ => rfl⟩) hS3 ?_
  simp only [Act.put, List.setIfInBounds_toArray, List.set_cons_zero, List.set_cons_succ]
  refine wpAnyH_done (by kernel_rfl) ?_ _
  have hil : i < qs.length := by omega
  have hF3 : Fr (fun _ => False) w2 w3 := by rw [hw3]; exact (Fr.refl _ _).drew
  clear hS hS3 hw3
  have c33 := hF3.cell c3 id
  have o03 := hF3.cell o0 id
  have o23 := hF3.cell o2 id
  have o33 := hF3.cell o3 id
  have hD3 := hF3.cell (HDC.out i _ (by rw [List.getElem?_map, List.getElem?_eq_getElem hil]; rfl)) id
  have hI3 := HI2.out.frz hF3 (Nat.le_refl _)
  have hB3 := hB2.trans (frz_below hF3 HI2.out.size)
  have hG3 := hG2.fr hF3 id
  have hWI3 := HI.out.frz hF3
  have hDI3 : DI w3 b0 s qs[i] := (HDs.out _ (List.getElem_mem hil)).fr hF3 (fun _ _ _ _ _ => id)
  have HO3 : Hid (w3.heap[O]? = some (.cells #[.int .i64 10, .int .i64 X, .int .i64 a, .int .i64 b, .string S, .string T] 27 (0, 0))) := hF3.keep HO2.out id
  have HDs3 : Hid (∀ q ∈ qs, DI w3 b0 s q) := fun q hq => (HDs.out q hq).fr hF3 (fun _ _ _ _ _ => id)
  clear c3 o0 o1 o2 o3 hF3 hB2 hG2 HDC HDs
  have hil' : (i : Int) < qs.length := by omega
  obtain ⟨q, HQ⟩ : ∃ q : DR, Hid (q = qs[i]) := ⟨qs[i], Eq.refl _⟩
  have hqi : Hid (qs[i]? = some q) := by show _ = _; rw [HQ.out]; exact List.getElem?_eq_getElem hil
  rw [← HQ.out] at hD3 hDI3
  have HI3 : Hid (Inv w3 b0 W0 s qs) := hI3
  have HWI3 : Hid (WI w3 b0 W0 kv rv sv (.slice (some ⟨g, 0, none⟩) qs.length cap) fv k r st qs.length kxs rxs sxs (qs.map DR.D) fxs) := hWI3
  have HDI3 : Hid (DI w3 b0 s q) := hDI3
  have HG3 : Hid (GOk w3) := hG3
  clear hI3 hWI3 hDI3 hG3
  go_wp2_with fail
  refine (near_ok a _ ha1 ha2).mono ?_
  rintro e w' ⟨⟨r2, rfl⟩, rfl⟩
  go_wp2_with fail
  refine (near_ok b _ hb1 hb2).mono ?_
  rintro e w' ⟨⟨r3, rfl⟩, rfl⟩
  go_wp2_with fail
  refine (formatted_any HDI3.out hs HG3.out hg).mono ?_
  rintro e w4 ⟨rfl, q', hq'', hd4, hf4⟩
  obtain ⟨u1, u2⟩ := HI3.out.upd i q q' hqi.out hq'' hd4 hf4
  have HE : Hid (OwnPost w b0 W0 s (.returned (.bool true)) w4) := ⟨_, rfl, u1, hB3.trans u2⟩
  clear u1 u2 hd4 hf4 hq''
  go_wp2
  go_ret
  exact HE.out

set_option maxRecDepth 100000 in
set_option maxHeartbeats 4000000 in
theorem step_open {w : World} {b0 W0 s : Nat} {qs : List DR} (h : Inv w b0 W0 s qs) (hs : s < 90000) (hG : GOk w) (hg : 0 < b0) (X a b : Int) (S T : ByteArray) (hX1 : -9223372036854775808 ≤ X) (hX2 : X ≤ 9223372036854775807) (ha1 : -9223372036854775808 ≤ a) (ha2 : a ≤ 9223372036854775807) (hb1 : -9223372036854775808 ≤ b) (hb2 : b ≤ 9223372036854775807) (hq : 0 < qs.length) :
    Calls Tryz.prog 10 #[.pointer (some ⟨W0, 0, none⟩), .agg (opv 11 X a b S T)] w fun e w' => OwnPost w b0 W0 s e w' := by
  have hsz := h.size
  have hF : Fr (fun _ => False) w (w.alloc (.cells (opv 11 X a b S T) 27)) := (Fr.refl _ _).alloc _
  obtain ⟨O, HOO⟩ : ∃ O, Hid (O = w.heap.size) := ⟨_, rfl⟩
  have hOh : (w.alloc (.cells (opv 11 X a b S T) 27)).heap[w.heap.size]? = some (.cells (opv 11 X a b S T) 27 (0, 0)) := heap_alloc_at _ _
  have HO := owner_other (w := w.alloc (.cells (opv 11 X a b S T) 27)) (W0 := W0) 11 X a b S T (by omega)
  unfold opv at *
  go_enter Tryz.func10, Tryz.ntmps10
  go_wp2_with fail
  refine HO.mono ?_
  rintro e w2 ⟨rfl, hf2⟩
  have hF2 := hF.trans hf2 (fun _ _ h => h)
  have hI2 := h.frz hF2 (Nat.le_refl _)
  have hB2 := frz_below hF2 hsz
  have hG2 := hG.fr hF2 id
  have hO2 := hf2.keep hOh id
  rw [← HOO.out] at hO2
  have o0 : w2.cell? ⟨O, 0, none⟩ = some (.int .i64 11) := by rw [cell_of_row w2 O 0 _ _ _ hO2]; rfl
  have o1 : w2.cell? ⟨O, 1, none⟩ = some (.int .i64 X) := by rw [cell_of_row w2 O 1 _ _ _ hO2]; rfl
  have o2 : w2.cell? ⟨O, 2, none⟩ = some (.int .i64 a) := by rw [cell_of_row w2 O 2 _ _ _ hO2]; rfl
  have o3 : w2.cell? ⟨O, 3, none⟩ = some (.int .i64 b) := by rw [cell_of_row w2 O 3 _ _ _ hO2]; rfl
  have HI2 : Hid (Inv w2 b0 W0 s qs) := hI2
  obtain ⟨kv, rv, sv, dv, fv, k, r, st, kxs, rxs, sxs, fxs, hI, hk, hr, hst, hm, hDs, hPw⟩ := hI2
  obtain ⟨g, cap, hdv, hdc⟩ := disk_at hI.hd hq
  subst hdv
  have hOg : Hid (∀ gb c t, fv.ownBlock = some gb → w2.heap[O]? = some (.cells c t (0, 0)) → gb = O → t = 4) := by
    intro gb c t hv hb e
    subst e
    rcases hI.hf.2 with ⟨rfl, _⟩ | ⟨g', cap', cur, rfl, _, hg', _⟩
    · simp [Value.ownBlock] at hv
    · simp only [Value.ownBlock, Option.some.injEq] at hv
      subst hv
      rw [hb] at hg'
      simp at hg'
      exact hg'.2
  have HO2 : Hid (w2.heap[O]? = some (.cells #[.int .i64 11, .int .i64 X, .int .i64 a, .int .i64 b, .string S, .string T] 27 (0, 0))) := hO2
  have c3 := hI.c3
  have HDC : Hid (∀ (i : Nat) (D : Nat), (qs.map DR.D)[i]? = some D → w2.cell? ⟨g, i, none⟩ = some (.pointer (some ⟨D, 0, none⟩))) := hdc
  have HI : Hid (WI w2 b0 W0 kv rv sv (.slice (some ⟨g, 0, none⟩) qs.length cap) fv k r st qs.length kxs rxs sxs (qs.map DR.D) fxs) := hI
  have HDs : Hid (∀ q ∈ qs, DI w2 b0 s q) := hDs
  have HPw : Hid (qs.Pairwise Apart) := hPw
  have hq' : ((qs.length : Int) == 0) = false := by simp; intro e; simp [e] at hq
  clear hdc hI hDs hPw hF hOh HO hf2 hF2 hO2 h
  rw [← HOO.out]
  go_wp2_with fail
  have hlift : Tryz.prog.follows .mixedOrders = true := by kernel_rfl
  let S' : World → Prop := fun w' => w'.cell? ⟨O, 1, none⟩ = some (.int .i64 X) ∧ w'.cell? ⟨W0, 3, none⟩ = some (.slice (some ⟨g, 0, none⟩) qs.length cap)
  have hS : S' w2.drew := ⟨o1, c3⟩
  refine wp_region_held (S := S') hlift ?_
  change wpAnyH _ _ _ _ S' _ _ _ (World.drew _)
  refine wpAnyH_take (S := S') (i := 0) (oi := ⟨some 30, .fieldAddr 27 (.tmp 3) 1, _, _, _, none⟩) (v := .pointer (some ⟨O, 1, none⟩)) rfl (by kernel_rfl) (by kernel_rfl) (by kernel_rfl) (fun _ _ _ h => h) (Or.inl ⟨rfl, fun _ _ => by kernel_rfl⟩) hS ?_
  simp only [Act.put, List.setIfInBounds_toArray, List.set_cons_zero, List.set_cons_succ]
  refine wpAnyH_take (S := S') (i := 1) (oi := ⟨some 31, .load 3 (.tmp 30), _, _, _, none⟩) (v := .int .i64 X) rfl (by kernel_rfl) (by kernel_rfl) (by kernel_rfl) (fun _ _ _ h => h) (Or.inl ⟨rfl, fun w' hs => exec_load 3 (.tmp 30) rfl ⟨O, 1, none⟩ rfl (run_loadAt_one hs.1 Tryz.underlying3 rfl)⟩) hS ?_
  simp only [Act.put, List.setIfInBounds_toArray, List.set_cons_zero, List.set_cons_succ]
  refine wpAnyH_take (S := S') (i := 2) (oi := ⟨some 32, .move (.tmp 0), _, _, _, none⟩) (v := .pointer (some ⟨W0, 0, none⟩)) rfl (by kernel_rfl) (by kernel_rfl) (by kernel_rfl) (fun _ _ _ h => h) (Or.inl ⟨rfl, fun _ _ => rfl⟩) hS ?_
  simp only [Act.put, List.setIfInBounds_toArray, List.set_cons_zero, List.set_cons_succ]
  refine wpAnyH_take (S := S') (i := 3) (oi := ⟨some 33, .nilCheck (.tmp 32), _, _, _, none⟩) (v := .pointer (some ⟨W0, 0, none⟩)) rfl (by kernel_rfl) (by kernel_rfl) (by kernel_rfl) (fun _ _ _ h => h) (Or.inl ⟨rfl, fun _ _ => rfl⟩) hS ?_
  simp only [Act.put, List.setIfInBounds_toArray, List.set_cons_zero, List.set_cons_succ]
  refine wpAnyH_take (S := S') (i := 4) (oi := ⟨some 34, .fieldAddr 34 (.tmp 33) 3, _, _, _, none⟩) (v := .pointer (some ⟨W0, 3, none⟩)) rfl (by kernel_rfl) (by kernel_rfl) (by kernel_rfl) (fun _ _ _ h => h) (Or.inl ⟨rfl, fun _ _ => by kernel_rfl⟩) hS ?_
  simp only [Act.put, List.setIfInBounds_toArray, List.set_cons_zero, List.set_cons_succ]
  refine wpAnyH_take (S := S') (i := 5) (oi := ⟨some 35, .load 31 (.tmp 34), _, _, _, none⟩) (v := .slice (some ⟨g, 0, none⟩) qs.length cap) rfl (by kernel_rfl) (by kernel_rfl) (by kernel_rfl) (fun _ _ _ h => h) (Or.inl ⟨rfl, fun w' hs => exec_load 31 (.tmp 34) rfl ⟨W0, 3, none⟩ rfl (run_loadAt_one hs.2 Tryz.underlying31 rfl)⟩) hS ?_
  simp only [Act.put, List.setIfInBounds_toArray, List.set_cons_zero, List.set_cons_succ]
  refine wpAnyH_take (S := S') (i := 6) (oi := ⟨some 36, .call { callee := .builtin .len, args := #[.tmp 35], argTypes := _ }, _, _, _, none⟩) (v := .int .i64 qs.length) rfl (by kernel_rfl) (by kernel_rfl) (by kernel_rfl) (fun _ _ _ h => h) (Or.inl ⟨rfl, fun _ _ => by kernel_rfl⟩) hS ?_
  simp only [Act.put, List.setIfInBounds_toArray, List.set_cons_zero, List.set_cons_succ]
  refine wpAnyH_all (rs := [7]) (by kernel_rfl) (by simp) ?_
  intro i7 hi7
  obtain rfl : i7 = 7 := by simpa using hi7
  refine wpOp_call (o := ⟨some 37, .call { callee := .value (.func 12), args := #[.tmp 31, .tmp 36], argTypes := _ }, _, _, _, none⟩) (f := 12) (args := #[.int .i64 X, .int .i64 qs.length]) rfl rfl (by kernel_rfl) ?_
  refine (pick_ok X qs.length w2.drew hX1 hX2 (by omega) (by omega)).mono ?_
  rintro e w3 ⟨⟨r0, rfl, hr0, hr1⟩, hw3⟩
  obtain ⟨i, rfl⟩ : ∃ i : Nat, r0 = i := ⟨r0.toNat, by omega⟩
  have hS3 : S' w3 := by rw [hw3]; exact hS
  refine ⟨_, rfl, hS3, ?_⟩
  simp only [Act.put, List.setIfInBounds_toArray, List.set_cons_zero, List.set_cons_succ]
  refine wpAnyH_take (S := S') (i := 8) (oi := ⟨some 6, .assign (.tmp 37), _, _, _, none⟩) (v := .int .i64 i) rfl (by kernel_rfl) (by kernel_rfl) (by kernel_rfl) (fun _ _ _ h => h) (Or.inl ⟨rfl, fun _ _ => rfl⟩) hS3 ?_
  simp only [Act.put, List.setIfInBounds_toArray, List.set_cons_zero, List.set_cons_succ]
  refine wpAnyH_done (by kernel_rfl) ?_ _
  have hil : i < qs.length := by omega
  have hF3 : Fr (fun _ => False) w2 w3 := by rw [hw3]; exact (Fr.refl _ _).drew
  clear hS hS3 hw3
  have c33 := hF3.cell c3 id
  have o03 := hF3.cell o0 id
  have o23 := hF3.cell o2 id
  have o33 := hF3.cell o3 id
  have hD3 := hF3.cell (HDC.out i _ (by rw [List.getElem?_map, List.getElem?_eq_getElem hil]; rfl)) id
  have hI3 := HI2.out.frz hF3 (Nat.le_refl _)
  have hB3 := hB2.trans (frz_below hF3 HI2.out.size)
  have hG3 := hG2.fr hF3 id
  have hWI3 := HI.out.frz hF3
  have hDI3 : DI w3 b0 s qs[i] := (HDs.out _ (List.getElem_mem hil)).fr hF3 (fun _ _ _ _ _ => id)
  have HO3 : Hid (w3.heap[O]? = some (.cells #[.int .i64 11, .int .i64 X, .int .i64 a, .int .i64 b, .string S, .string T] 27 (0, 0))) := hF3.keep HO2.out id
  have HDs3 : Hid (∀ q ∈ qs, DI w3 b0 s q) := fun q hq => (HDs.out q hq).fr hF3 (fun _ _ _ _ _ => id)
  clear c3 o0 o1 o2 o3 hF3 hB2 hG2 HDC HDs
  have hil' : (i : Int) < qs.length := by omega
  obtain ⟨q, HQ⟩ : ∃ q : DR, Hid (q = qs[i]) := ⟨qs[i], Eq.refl _⟩
  have hqi : Hid (qs[i]? = some q) := by show _ = _; rw [HQ.out]; exact List.getElem?_eq_getElem hil
  rw [← HQ.out] at hD3 hDI3
  have HI3 : Hid (Inv w3 b0 W0 s qs) := hI3
  have HWI3 : Hid (WI w3 b0 W0 kv rv sv (.slice (some ⟨g, 0, none⟩) qs.length cap) fv k r st qs.length kxs rxs sxs (qs.map DR.D) fxs) := hWI3
  have HDI3 : Hid (DI w3 b0 s q) := hDI3
  have HG3 : Hid (GOk w3) := hG3
  clear hI3 hWI3 hDI3 hG3
  go_wp2_with fail
  refine (near_ok a _ ha1 ha2).mono ?_
  rintro e w' ⟨⟨r2, rfl⟩, rfl⟩
  go_wp2_with fail
  refine (near_ok b _ hb1 hb2).mono ?_
  rintro e w' ⟨⟨r3, rfl⟩, rfl⟩
  obtain ⟨gf, capf, hfv, hgfb, _⟩ := HWI3.out.hf.form hq
  subst hfv
  have c43 := HWI3.out.c4
  obtain ⟨j1, j2, j3, j4, j5, j6⟩ := fail_set HWI3.out hk hr hst hm HDs3.out HPw.out i
  obtain ⟨v4, hv4⟩ := j4 hil
  have hOgf : O ≠ gf := by
    intro e
    have := j6 _ _ (by rw [← e]; exact HO3.out)
    simp at this
  have HJ1 : Hid (Inv (w'.setCell ⟨gf, i, none⟩ (.bool false)) b0 W0 s qs) := j1
  have HJ2 : Hid (Below b0 w' (w'.setCell ⟨gf, i, none⟩ (.bool false))) := j2
  have HJ3 : Hid (DI (w'.setCell ⟨gf, i, none⟩ (.bool false)) b0 s q) := j3 q HDI3.out
  have HG4 : Hid (GOk (w'.setCell ⟨gf, i, none⟩ (.bool false))) := HG3.out.below j2 hg
  clear j1 j2 j3 j4 j6
  have hend : ∀ w4, DPost (w'.setCell ⟨gf, i, none⟩ (.bool false)) b0 s q (.returned (.bool true)) w4 → Hid (OwnPost w b0 W0 s (.returned (.bool true)) w4) := by
    rintro w4 ⟨_, q', hq'', hd4, hf4⟩
    obtain ⟨u1, u2⟩ := HJ1.out.upd i q q' hqi.out hq'' hd4 hf4
    exact ⟨_, rfl, u1, (hB3.trans HJ2.out).trans u2⟩
  obtain ⟨x, pause, calls, writes, bs, hw, _⟩ := HDI3.out
  have d3 := hw.l.c3
  have d0 := hw.l.c0
  have HWh : Hid (DiskAt w' q.A q.B q.n (.slice none 0 0) calls writes) := hw.d
  have HE := hend
  clear hw hend
  cases hnn : q.nn with
  | true =>
    rw [hnn] at d3
    clear hnn
    go_wp2_with fail
    refine (Pending_ok HWh.out).mono ?_
    rintro e w5 ⟨rfl, rfl⟩
    go_wp2_with fail
    refine (opened_any HJ3.out hs HG4.out hg a).mono ?_
    rintro e w4 ⟨rfl, hp4⟩
    have HF := HE w4 ⟨rfl, hp4⟩
    clear HE hp4
    go_wp2
    go_ret
    exact HF.out
  | false =>
    rw [hnn] at d3
    clear hnn
    go_wp2_with fail
    refine (opened_any HJ3.out hs HG4.out hg a).mono ?_
    rintro e w4 ⟨rfl, hp4⟩
    have HF := HE w4 ⟨rfl, hp4⟩
    clear HE hp4
    go_wp2
    go_ret
    exact HF.out
end Go.Proofs.YthnmpgnaahkgkaaGreatDoor
