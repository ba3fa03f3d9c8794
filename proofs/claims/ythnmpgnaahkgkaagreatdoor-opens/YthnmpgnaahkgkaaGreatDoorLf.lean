import Derived.Test.YthnmpgnaahkgkaaGreatDoorLw
namespace Go.Proofs.YthnmpgnaahkgkaaGreatDoor
open Go.RowKit

set_option maxRecDepth 100000 in
set_option maxHeartbeats 1000000 in
theorem formatted_bad {w : World} {D A B Pp n : Nat} {nn : Bool} {x : Value} {pause calls writes : Int} {bs : List Value} (h : Whole w D A B Pp n nn x pause calls writes bs) (hG : GOk w) (hgD : 0 ≠ D) (hn : n < 8 ∨ 400 < n) :
    Calls Tryz.prog 17 #[.pointer (some ⟨D, 0, none⟩)] w fun e w' => e = .returned (.bool true) ∧ Whole w' D A B Pp n nn (.pointer none) pause calls writes bs ∧ Fr (· = D) w w' := by
  have hi : inB n = false := by simp [inB]; omega
  have h1 := h.set (h.l.set5 (.pointer none))
  have hF1 : Fr (· = D) w (w.setCell ⟨D, 5, none⟩ (.pointer none)) := Fr.set1 _ _ _ _
  have hG1 := hG.fr hF1 hgD
  have c5 := h.l.c5
  have f5 := h.l.fz 5
  have c0 := h1.l.c0
  go_enter Tryz.func17, Tryz.ntmps17
  go_wp2_with fail
  refine (dTold_ok h1.d).mono ?_
  rintro e w1 ⟨rfl, rfl⟩
  go_wp2_with fail
  refine (pFormat_bad h1.d hn).mono ?_
  rintro e w2 ⟨v, rfl, hv, hf2⟩
  have h2 := h1.frz hf2
  have hG2 := hG1.fr hf2 id
  have hF2 := hF1.trans hf2 (fun _ _ h => h.elim)
  clear c0 c5 f5
  go_wp2_with fail
  refine (Told_any hv hG2).mono ?_
  rintro e w3 ⟨rfl, hf3⟩
  have h3 := h2.frz hf3
  have hF3 := hF2.trans hf3 (fun _ _ h => h.elim)
  go_wp2_with fail
  refine (num_ok 7 _).mono ?_
  rintro e w' ⟨rfl, rfl⟩
  go_wp2_with fail
  refine (fits_ok h3.l).mono ?_
  rintro e w' ⟨rfl, rfl⟩
  rw [hi]
  clear hi
  go_wp2
  go_ret
  exact ⟨rfl, h3, hF3⟩

set_option maxRecDepth 100000 in
set_option maxHeartbeats 1000000 in
theorem formatted_ok {w : World} {D A B Pp n : Nat} {nn : Bool} {x : Value} {pause calls writes : Int} {bs : List Value} (h : Whole w D A B Pp n nn x pause calls writes bs) (h0 : 0 ≤ calls) (h1' : calls < 100000000) (h2' : 0 ≤ writes) (h3' : writes < 100000000) (hn8 : 8 ≤ n) (hn : n ≤ 400) :
    Calls Tryz.prog 17 #[.pointer (some ⟨D, 0, none⟩)] w fun e w' => e = .returned (.bool true) ∧ (∃ bs', Whole w' D A B Pp n false (.pointer none) 0 (calls + (n + 4)) (writes + (n + 1)) bs' ∧ bs'.take 128 = headB n) ∧ Fr (fun b => b = D ∨ b = A ∨ b = B) w w' := by
  have hi : inB n = true := by simp [inB]; omega
  obtain ⟨n1, n2, n3, n4, n5, n6⟩ := h.ne
  have h1 := h.set (h.l.set5 (.pointer none))
  have hF1 : Fr (fun b => b = D ∨ b = A ∨ b = B) w (w.setCell ⟨D, 5, none⟩ (.pointer none)) := (Fr.set1 _ _ _ _).mono (fun _ _ h => Or.inl h)
  have c5 := h.l.c5
  have f5 := h.l.fz 5
  have c0 := h1.l.c0
  go_enter Tryz.func17, Tryz.ntmps17
  go_wp2_with fail
  refine (dTold_ok h1.d).mono ?_
  rintro e w1 ⟨rfl, rfl⟩
  go_wp2_with fail
  refine (pFormat_ok h1.d h1.r h0 h1' h2' h3' hn8 hn).mono ?_
  rintro e w2 ⟨v, rfl, hv, bs2, hd2, hr2, hb2, hf2⟩
  obtain rfl : v = .nilIface := by
    rcases hv with ⟨rfl, _⟩ | ⟨_, _, _, _, hk⟩
    · rfl
    · exact absurd rfl hk
  have h2 := h1.fr hf2 (by rintro (e | e); exact n1 e; exact n2 e) (by rintro (e | e); exact n4 e; exact n5 e) hd2 hr2
  have hF2 := hF1.trans hf2 (by rintro b _ (e | e); exact .inr (.inl e); exact .inr (.inr e))
  clear c0 c5 f5
  go_wp2_with fail
  refine (Told_nil _).mono ?_
  rintro e w' ⟨rfl, rfl⟩
  go_wp2_with fail
  refine (num_ok 0 _).mono ?_
  rintro e w' ⟨rfl, rfl⟩
  go_wp2_with fail
  refine (fits_ok h2.l).mono ?_
  rintro e w' ⟨rfl, rfl⟩
  rw [hi]
  clear hi
  have c3 := h2.l.c3
  have c4 := h2.l.c4
  have c6 := h2.l.c6
  have c7 := h2.l.c7
  have c8 := h2.l.c8
  have c9 := h2.l.c9
  have fz : ∀ j, w'.frozen? ⟨D, j, none⟩ = false := h2.l.fz
  have HW : Hid (Whole w' D A B Pp n nn (.pointer none) pause (calls + (n + 4)) (writes + (n + 1)) bs2) := h2
  have HF : Hid (Fr (fun b => b = D ∨ b = A ∨ b = B) w w') := hF2
  clear h1 h2 hF1 hF2 hf2 hd2 hr2 hv h
  go_wp2
  go_ret
  have h2 := HW.out
  have e3 := h2.set (h2.l.set3 false)
  have e4 := e3.set e3.l.set4
  have e6 := e4.set (e4.l.set6 0)
  have e7 := e6.set e6.l.set7
  have e8 := e7.set e7.l.set8
  have e9 := e8.set e8.l.set9
  exact ⟨rfl, ⟨bs2, e9, hb2⟩, (((((HF.out.setCell _ (fun _ => Or.inl rfl) _).setCell _ (fun _ => Or.inl rfl) _).setCell _ (fun _ => Or.inl rfl) _).setCell _ (fun _ => Or.inl rfl) _).setCell _ (fun _ => Or.inl rfl) _).setCell _ (fun _ => Or.inl rfl) _⟩
end Go.Proofs.YthnmpgnaahkgkaaGreatDoor
