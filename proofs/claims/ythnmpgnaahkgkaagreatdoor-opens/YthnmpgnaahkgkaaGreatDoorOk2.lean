import Derived.Test.YthnmpgnaahkgkaaGreatDoorOk
namespace Go.Proofs.YthnmpgnaahkgkaaGreatDoor
open Go.RowKit

/-- A field of the script's world is set; what else is known stands. -/
theorem WI.setF {w : World} {b0 W0 : Nat} {kv rv sv dv fv : Value} {k r st m : Nat} {kxs rxs sxs : List Value} {ds : List Nat} {fxs : List Value} (h : WI w b0 W0 kv rv sv dv fv k r st m kxs rxs sxs ds fxs) (i : Nat) (v : Value) {kv' rv' sv' dv' fv' : Value} {k' r' st' m' : Nat} {kxs' rxs' sxs' : List Value} {ds' : List Nat} {fxs' : List Value}
    (e : (#[kv, rv, sv, dv, fv] : Array Value).setIfInBounds i v = #[kv', rv', sv', dv', fv'])
    (hk : w.ownsRow b0 3 1 kv' k' kxs') (hr : w.ownsRow b0 3 1 rv' r' rxs') (hs : w.ownsRow b0 56 2 sv' st' sxs') (hd : w.ownsRow b0 37 1 dv' m' (ds'.map fun D => Value.pointer (some ⟨D, 0, none⟩))) (hf : w.ownsRow b0 4 1 fv' m' fxs')
    (ne : ∀ b, kv'.ownBlock = some b → rv'.ownBlock ≠ some b) (ro : ∀ v ∈ rxs', v.oneCell' = true) (so : ∀ v ∈ sxs', v.oneCell' = true) :
    WI (w.setCell ⟨W0, i, none⟩ v) b0 W0 kv' rv' sv' dv' fv' k' r' st' m' kxs' rxs' sxs' ds' fxs' :=
  ⟨by rw [heap_setCell_at w W0 i _ _ _ h.hw, e], own_set h.hw (by decide) hk, own_set h.hw (by decide) hr, own_set h.hw (by decide) hs, own_set h.hw (by decide) hd, own_set h.hw (by decide) hf, ne, ro, so, h.w0⟩
theorem DI.setW {w : World} {b0 s W0 : Nat} {q : DR} {cs : Array Value} (h : DI w b0 s q) (hw : w.heap[W0]? = some (.cells cs 34 (0, 0))) (i : Nat) (v : Value) : DI (w.setCell ⟨W0, i, none⟩ v) b0 s q :=
  h.fr (Fr.set1 w W0 i v) (by
    rintro b c t hb ht rfl
    rw [hw] at hb
    simp at hb
    rcases ht with ⟨e, _⟩ | ⟨e, _⟩ | ⟨e, _⟩ | e <;> rw [e] at hb <;> exact absurd hb.2 (by decide))

set_option maxRecDepth 100000 in
set_option maxHeartbeats 1000000 in
theorem owner_none {w : World} {b0 W0 s : Nat} {qs : List DR} (h : Inv w b0 W0 s qs) (X a b : Int) (S T : ByteArray) :
    Calls Tryz.prog 11 #[.pointer (some ⟨W0, 0, none⟩), .agg (opv 2 X a b S T)] w fun e w' => OwnPost w b0 W0 s e w' := by
  have hsz := h.size
  have hF : Fr (fun _ => False) w (w.alloc (.cells (opv 2 X a b S T) 27)) := (Fr.refl _ _).alloc _
  obtain ⟨kv, rv, sv, dv, fv, k, r, st, kxs, rxs, sxs, fxs, hI, hk, hr, hst, hm, hDs, hPw⟩ := h.frz hF (Nat.le_refl _)
  have hP : Hid (OwnPost w b0 W0 s (.returned (.bool true)) ((w.alloc (.cells (opv 2 X a b S T) 27)).setCell ⟨W0, 0, none⟩ (.slice none 0 0))) := by
    refine ⟨qs, rfl, ⟨_, rv, sv, dv, fv, 0, r, st, [], rxs, sxs, fxs, hI.setF 0 _ rfl (World.ownsRow_nil _ _ _ _) hI.hr hI.hs hI.hd hI.hf (fun b hb => by simp [Value.ownBlock] at hb) hI.ro hI.so, by omega, by omega, by omega, by omega, fun q hq => ((hDs q hq).setW hI.hw _ _).mono (by omega), hPw⟩, ?_⟩
    exact (frz_below hF hsz).setCell (p := ⟨W0, 0, none⟩) hI.w0 _
  have c0 := hI.c0
  have f0 := hI.fz 0
  clear hI hDs hPw h hF
  unfold opv at *
  go_enter Tryz.func11, Tryz.ntmps11
  go_wp2
  go_ret
  exact hP.out
set_option maxRecDepth 100000 in
set_option maxHeartbeats 1000000 in
theorem owner_clear {w : World} {b0 W0 s : Nat} {qs : List DR} (h : Inv w b0 W0 s qs) (X a b : Int) (S T : ByteArray) :
    Calls Tryz.prog 11 #[.pointer (some ⟨W0, 0, none⟩), .agg (opv 5 X a b S T)] w fun e w' => OwnPost w b0 W0 s e w' := by
  have hsz := h.size
  have hF : Fr (fun _ => False) w (w.alloc (.cells (opv 5 X a b S T) 27)) := (Fr.refl _ _).alloc _
  obtain ⟨kv, rv, sv, dv, fv, k, r, st, kxs, rxs, sxs, fxs, hI, hk, hr, hst, hm, hDs, hPw⟩ := h.frz hF (Nat.le_refl _)
  have hP : Hid (OwnPost w b0 W0 s (.returned (.bool true)) ((w.alloc (.cells (opv 5 X a b S T) 27)).setCell ⟨W0, 2, none⟩ (.slice none 0 0))) := by
    refine ⟨qs, rfl, ⟨kv, rv, _, dv, fv, k, r, 0, kxs, rxs, [], fxs, hI.setF 2 _ rfl hI.hk hI.hr (World.ownsRow_nil _ _ _ _) hI.hd hI.hf hI.ne hI.ro (fun v hv => by cases hv), by omega, by omega, by omega, by omega, fun q hq => ((hDs q hq).setW hI.hw _ _).mono (by omega), hPw⟩, ?_⟩
    exact (frz_below hF hsz).setCell (p := ⟨W0, 2, none⟩) hI.w0 _
  have c2 := hI.c2
  have f2 := hI.fz 2
  clear hI hDs hPw h hF
  unfold opv at *
  go_enter Tryz.func11, Tryz.ntmps11
  go_wp2
  go_ret
  exact hP.out

theorem own_base {w : World} {b b' e size n : Nat} {v : Value} {xs : List Value} (h : w.ownsRow b e size v n xs) (hb : b' ≤ b) : w.ownsRow b' e size v n xs := by
  refine ⟨h.1, ?_⟩
  rcases h.2 with hn | ⟨g, cap, cur, hv, hg, rest⟩
  · exact .inl hn
  · exact .inr ⟨g, cap, cur, hv, by omega, rest⟩
theorem own_form {w : World} {b e size n : Nat} {v : Value} {xs : List Value} (h : w.ownsRow b e size v n xs) : ∃ ao cc, v = .slice ao n cc := by
  rcases h.2 with ⟨rfl, rfl⟩ | ⟨g, cap, cur, rfl, _⟩
  · exact ⟨_, _, rfl⟩
  · exact ⟨_, _, rfl⟩
theorem step_info : (Tryz.prog.info? 56).map (fun i => (i.zero, i.size, i.bytes)) = some (some (.agg #[.string ⟨#[]⟩, .string ⟨#[]⟩]), 2, 32) := by kernel_rfl
set_option maxRecDepth 100000 in
set_option maxHeartbeats 2000000 in
theorem owner_step {w : World} {b0 W0 s : Nat} {qs : List DR} (h : Inv w b0 W0 s qs) (hs : s < 100000) (X a b : Int) (S T : ByteArray) :
    Calls Tryz.prog 11 #[.pointer (some ⟨W0, 0, none⟩), .agg (opv 4 X a b S T)] w fun e w' => OwnPost w b0 W0 s e w' := by
  have hsz := h.size
  obtain ⟨W, HW⟩ : ∃ W, Hid (W = w.alloc (.cells (opv 4 X a b S T) 27)) := ⟨_, rfl⟩
  have hF : Fr (fun _ => False) w W := by rw [HW.out]; exact (Fr.refl _ _).alloc _
  obtain ⟨O, HO⟩ : ∃ O, Hid (O = w.heap.size) := ⟨_, rfl⟩
  have hO : W.heap[O]? = some (.cells (opv 4 X a b S T) 27 (0, 0)) := by rw [HW.out, HO.out]; exact heap_alloc_at _ _
  obtain ⟨kv, rv, sv, dv, fv, k, r, st, kxs, rxs, sxs, fxs, hI, hk, hr, hst, hm, hDs, hPw⟩ := h.frz hF (Nat.le_refl _)
  have hbW : b0 ≤ W.heap.size := Nat.le_trans hsz hF.size
  obtain ⟨inf, hi0, hz0, hz1, hz2⟩ := info_parts step_info
  -- behind the copy of the steps: v1 owns them, in w1
  have key : ∀ (v1 : Value) (w1 : World), w1.ownsRow b0 56 2 v1 st sxs → (∀ g, v1.ownBlock = some g → W.heap.size ≤ g) → Fr (fun _ => False) W w1 → ∀ (gn cap : Nat) (wn : World),
      wn.ownsRow b0 56 2 (.slice (some ⟨gn, 0, none⟩) (st + 1) cap) (st + 1) (sxs ++ [.string S, .string T]) → (w1.alloc (.cells #[.string S, .string T] 56)).grownBy wn v1.ownBlock →
      wn.cell? ⟨W0, 2, none⟩ = some sv ∧ wn.frozen? ⟨W0, 2, none⟩ = false ∧ Hid (OwnPost w b0 W0 s (.returned (.bool true)) (wn.setCell ⟨W0, 2, none⟩ (.slice (some ⟨gn, 0, none⟩) (st + 1) cap))) := by
    intro v1 w1 ho1 hv1 hf1 gn cap wn hon hgrow
    have hfn : Fr (fun _ => False) W wn := (hf1.alloc _).grown hgrow (fun b hb e => by have := hv1 b e; omega)
    have hIn := hI.frz hfn
    refine ⟨hIn.c2, hIn.fz 2, qs, rfl, ⟨kv, rv, _, dv, fv, k, r, st + 1, kxs, rxs, sxs ++ [.string S, .string T], fxs, hIn.setF 2 _ rfl hIn.hk hIn.hr hon hIn.hd hIn.hf hIn.ne hIn.ro ?_, by omega, by omega, by omega, by omega, fun q hq => (((hDs q hq).fr hfn (fun _ _ _ _ _ => id)).setW hIn.hw _ _).mono (by omega), hPw⟩, ?_⟩
    · intro v hv
      rcases List.mem_append.1 hv with hv | hv
      · exact hI.so v hv
      · simp only [List.mem_cons, List.not_mem_nil, or_false] at hv
        rcases hv with rfl | rfl <;> rfl
    · exact (((frz_below hF hsz).trans (frz_below hfn hbW))).setCell (p := ⟨W0, 2, none⟩) hI.w0 _
  have c2 := hI.c2
  have hso := hI.so
  have ho4 : ∀ w1, Fr (fun _ => False) W w1 → w1.cell? ⟨O, 4, none⟩ = some (.string S) ∧ w1.cell? ⟨O, 5, none⟩ = some (.string T) := fun w1 hf1 => ⟨hf1.cell (p := ⟨O, 4, none⟩) (by rw [cell_of_row W O 4 _ _ _ hO]; rfl) id, hf1.cell (p := ⟨O, 5, none⟩) (by rw [cell_of_row W O 5 _ _ _ hO]; rfl) id⟩
  have hOs := hI.hs
  have H4 : Hid (∀ w1, Fr (fun _ => False) W w1 → w1.cell? ⟨O, 4, none⟩ = some (.string S) ∧ w1.cell? ⟨O, 5, none⟩ = some (.string T)) := ho4
  have HOs : Hid (W.ownsRow b0 56 2 sv st sxs) := hOs
  clear hOs ho4 hI hDs hPw h hO
  have hbox : (Instr.box 27 (.agg (opv 4 X a b S T))).run Tryz.prog w = .ok (.pointer (some ⟨O, 0, none⟩)) W := by rw [HW.out, HO.out]; rfl
  have hO0 : W.cell? ⟨O, 0, none⟩ = some (.int .i64 4) := by rw [HW.out, HO.out, cell_of_row _ w.heap.size 0 _ _ _ (heap_alloc_at _ _)]; rfl
  have app2 : ∀ (v1 : Value) (w1 : World), w1.ownsRow W.heap.size 56 2 v1 st sxs → Fr (fun _ => False) W w1 → (w1.alloc (.cells #[.string S, .string T] 56)).ownsRow W.heap.size 56 2 v1 st sxs ∧ W.heap.size ≤ (w1.alloc (.cells #[.string S, .string T] 56)).heap.size := fun v1 w1 h1 hf1 => ⟨h1.alloc _, Nat.le_trans hf1.size (by simp)⟩
  have HA2 := app2
  clear app2
  unfold opv at *
  go_enter Tryz.func11, Tryz.ntmps11
  rcases HOs.out.2 with ⟨rfl, rfl⟩ | ⟨g, cap0, cur, rfl, hbg, hgg, hnc, hcm, hcs, ht⟩
  · have hx0 : sxs = [] := List.eq_nil_of_length_eq_zero (by simpa using HOs.out.1)
    subst hx0
    have o4 := (H4.out W (Fr.refl _ _)).1
    have o5 := (H4.out W (Fr.refl _ _)).2
    go_wp2_with (first
      | (refine wpList_box 27 (.tmp 1) (v := .pointer (some ⟨O, 0, none⟩)) (w' := W) rfl rfl ?_ ?_; exact hbox)
      | (at_builtin; refine wpList_append_lies _ rfl (.tmp 49) (.tmp 55) 30 rfl W.heap.size 56 inf (.agg #[.string ⟨#[]⟩, .string ⟨#[]⟩]) 2 32 Tryz.underlying30 hi0 hz0 hz1 hz2 rfl (by decide) (.slice none 0 0) 0 [] rfl (World.ownsRow_nil _ _ _ _) ⟨W.heap.size, 0, none⟩ 1 1 [.string S, .string T] rfl rfl ?_ ?_ (by decide) ?_ (by decide) ?_ _ rfl ?_; exact World.news_of_block (cs := #[.string S, .string T]) (heap_alloc_at W _); (simp [Value.oneCell']); (unfold maxLen; decide); (simp); intro gn cap wn hon hgrow hat hlt; obtain ⟨q1, q2, q3⟩ := key (.slice none 0 0) W (World.ownsRow_nil _ _ _ _) (fun g hg => by simp [Value.ownBlock] at hg) (Fr.refl _ _) gn cap wn (own_base hon hbW) hgrow))
    go_ret
    exact q3.out
  · have hc := HOs.out.cells (g := g) rfl
    have hlen := HOs.out.1
    go_wp2_with (first
      | (refine wpList_box 27 (.tmp 1) (v := .pointer (some ⟨O, 0, none⟩)) (w' := W) rfl rfl ?_ ?_; exact hbox)
      | (at_builtin; refine wpList_append_own W rfl (.tmp 42) (.tmp 46) 30 rfl W.heap.size 56 inf (.agg #[.string ⟨#[]⟩, .string ⟨#[]⟩]) 2 32 Tryz.underlying30 hi0 hz0 hz1 hz2 rfl (by decide) (.slice none 0 0) 0 [] rfl (World.ownsRow_nil _ _ _ _) ⟨g, 0, none⟩ st cap0 sxs rfl hlen hc hso ?_ ?_ (Nat.le_refl _) ?_; (unfold maxLen; omega); omega; intro v1 w1 hown1 hgrow1 _; simp only [Nat.zero_add, List.nil_append] at hown1; obtain ⟨ao, cc, rfl⟩ := own_form hown1; have hf1 : Fr (fun _ => False) W w1 := (Fr.refl _ _).grown hgrow1 (fun _ _ h => by cases h); have o4 := (H4.out w1 hf1).1; have o5 := (H4.out w1 hf1).2)
      | (at_builtin; refine wpList_append_lies _ rfl (.tmp 49) (.tmp 55) 30 rfl W.heap.size 56 inf (.agg #[.string ⟨#[]⟩, .string ⟨#[]⟩]) 2 32 Tryz.underlying30 hi0 hz0 hz1 hz2 rfl (by decide) (.slice ao st cc) st sxs rfl (HA2 _ _ hown1 hf1).1 ⟨w1.heap.size, 0, none⟩ 1 1 [.string S, .string T] rfl rfl ?_ ?_ (by decide) ?_ ?_ (HA2 _ _ hown1 hf1).2 _ rfl ?_; exact World.news_of_block (cs := #[.string S, .string T]) (heap_alloc_at w1 _); (simp [Value.oneCell']); (unfold maxLen; omega); omega; intro gn cap wn hon hgrow hat hlt; obtain ⟨q1, q2, q3⟩ := key (.slice ao st cc) w1 (own_base hown1 hbW) (fun g hg => (hown1.lt g hg).1) hf1 gn cap wn (own_base hon hbW) hgrow))
    go_ret
    exact q3.out
end Go.Proofs.YthnmpgnaahkgkaaGreatDoor
