import Derived.Test.YthnmpgnaahkgkaaGreatDoorOd
namespace Go.Proofs.YthnmpgnaahkgkaaGreatDoor
open Go.RowKit

theorem owner_own {w : World} {b0 W0 s : Nat} {qs : List DR} (h : Inv w b0 W0 s qs) (hs : s < 100000) (K X a b : Int) (S T : ByteArray) (h1 : 1 ≤ K) (h2 : K ≤ 6) :
    Calls Tryz.prog 11 #[.pointer (some ⟨W0, 0, none⟩), .agg (opv K X a b S T)] w fun e w' => OwnPost w b0 W0 s e w' := by
  rcases (show K = 1 ∨ K = 2 ∨ K = 3 ∨ K = 4 ∨ K = 5 ∨ K = 6 by omega) with rfl | rfl | rfl | rfl | rfl | rfl
  · exact owner_keep h hs X a b S T
  · exact owner_none h X a b S T
  · exact owner_reply h hs X a b S T
  · exact owner_step h hs X a b S T
  · exact owner_clear h X a b S T
  · exact owner_disk h hs X a b S T

/-- One disk of the script has turned, its own blocks alone. -/
theorem Inv.upd {w w' : World} {b0 W0 s : Nat} {qs : List DR} (h : Inv w b0 W0 s qs) (i : Nat) (q q' : DR) (hi : qs[i]? = some q) (hq : q'.D = q.D ∧ q'.A = q.A ∧ q'.B = q.B) (hd : DI w' b0 (s + 1) q') (hf : Fr (fun b => b = q.D ∨ b = q.A ∨ b = q.B) w w') : Inv w' b0 W0 (s + 1) (qs.set i q') ∧ Below b0 w w' := by
  have hsz := h.size
  obtain ⟨kv, rv, sv, dv, fv, k, r, st, kxs, rxs, sxs, fxs, hI, hk, hr, hst, hm, hDs, hPw⟩ := h
  have hil : i < qs.length := (List.getElem?_eq_some_iff.1 hi).1
  have hiq : qs[i] = q := (List.getElem?_eq_some_iff.1 hi).2
  obtain ⟨x, pause, calls, writes, bs, hw, _, _, _, _, _, hbD, hbA, hbB, _⟩ := hDs q (List.mem_of_getElem? hi)
  have hty : ∀ b c t, w.heap[b]? = some (.cells c t (0, 0)) → (b = q.D ∨ b = q.A ∨ b = q.B) → t = 46 ∨ t = 62 ∨ t = 63 := by
    rintro b c t hb (rfl | rfl | rfl)
    · rw [hw.l] at hb; simp at hb; exact .inl hb.2.symm
    · rw [hw.d] at hb; simp at hb; exact .inr (.inl hb.2.symm)
    · rw [hw.r.1] at hb; simp at hb; exact .inr (.inr hb.2.symm)
  have hIw := hI.fr hf (fun b c t hb ht hS => by
    rcases hty b c t hb hS with e | e | e <;> subst e <;> simp at ht)
  have hap : ∀ j (hj : j < qs.length), j ≠ i → Apart qs[j] q ∨ Apart q qs[j] := by
    intro j hj hji
    rw [List.pairwise_iff_getElem] at hPw
    rcases Nat.lt_or_gt_of_ne hji with hlt | hlt
    · left; have := hPw j i hj hil hlt; rwa [hiq] at this
    · right; have := hPw i j hil hj hlt; rwa [hiq] at this
  refine ⟨⟨kv, rv, sv, dv, fv, k, r, st, kxs, rxs, sxs, fxs, ?_, by omega, by omega, by omega, by simp; omega, ?_, ?_⟩, hf.below hsz (by rintro b (rfl | rfl | rfl) <;> assumption)⟩
  · have em : (qs.set i q').map DR.D = qs.map DR.D := by
      rw [List.map_set, hq.1, ← hiq]
      apply List.ext_getElem?
      intro j
      rw [List.getElem?_set]
      split
      · rename_i e; subst e; simp [hil]
      · rfl
    rw [em, List.length_set]; exact hIw
  · intro p hp
    obtain ⟨j, hj, rfl⟩ := List.mem_iff_getElem.1 hp
    rw [List.length_set] at hj
    rw [List.getElem_set]
    split
    · exact hd
    · rename_i hij
      have ha := hap j hj (fun e => hij e.symm)
      refine ((hDs qs[j] (List.getElem_mem hj)).fr hf ?_).mono (by omega)
      rintro b c t hb ht (rfl | rfl | rfl)
      · rw [hw.l] at hb
        simp at hb
        rcases ht with ⟨_, e⟩ | ⟨e, _⟩ | ⟨e, _⟩ | e
        · rcases ha with ha | ha
          · exact ha.1 e.symm
          · exact ha.1 e
        · rw [e] at hb; simp at hb
        · rw [e] at hb; simp at hb
        · rw [e] at hb; simp at hb
      · rw [hw.d] at hb
        simp at hb
        rcases ht with ⟨e, _⟩ | ⟨_, e⟩ | ⟨e, _⟩ | e
        · rw [e] at hb; simp at hb
        · rcases ha with ha | ha
          · exact ha.2.1 e.symm
          · exact ha.2.1 e
        · rw [e] at hb; simp at hb
        · rw [e] at hb; simp at hb
      · rw [hw.r.1] at hb
        simp at hb
        rcases ht with ⟨e, _⟩ | ⟨e, _⟩ | ⟨_, e⟩ | e
        · rw [e] at hb; simp at hb
        · rw [e] at hb; simp at hb
        · rcases ha with ha | ha
          · exact ha.2.2 e.symm
          · exact ha.2.2 e
        · rw [e] at hb; simp at hb
  · rw [List.pairwise_iff_getElem] at hPw ⊢
    intro j1 j2 h1 h2 hlt
    rw [List.length_set] at h1 h2
    rw [List.getElem_set, List.getElem_set]
    have hp := hPw j1 j2 h1 h2 hlt
    split
    · rename_i e1
      split
      · omega
      · subst e1; rw [hiq] at hp; exact ⟨by rw [hq.1]; exact hp.1, by rw [hq.2.1]; exact hp.2.1, by rw [hq.2.2]; exact hp.2.2⟩
    · split
      · rename_i e2; subst e2; rw [hiq] at hp; exact ⟨by rw [hq.1]; exact hp.1, by rw [hq.2.1]; exact hp.2.1, by rw [hq.2.2]; exact hp.2.2⟩
      · exact hp
end Go.Proofs.YthnmpgnaahkgkaaGreatDoor
