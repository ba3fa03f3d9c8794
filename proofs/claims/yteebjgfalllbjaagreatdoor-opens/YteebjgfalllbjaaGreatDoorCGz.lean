import Derived.Test.YteebjgfalllbjaaGreatDoorCFdOpAl
import Derived.Test.YteebjgfalllbjaaGreatDoorCSmPlTop
namespace Go.Proofs.YteebjgfalllbjaaGreatDoor
open Go.RowKit

/-- The program, as long as no saga is submitted. -/
def Dev0 (w : World) (k : DK) (bs : List Value) : Prop := k.L = [] ∧ ((k.nn = true ∧ bs = List.replicate (k.n * 128) (.int .u8 0)) ∨ (k.nn = false ∧ inB k.n = true ∧ bs = emptyB k.n)) ∧
  ∀ a, k.x = some a → ∃ X J R clock pause cv room, a = ⟨X, 0, none⟩ ∧ EngAt w X J R clock pause cv ∧ Roll0 w R room ∧ k.F X ∧ k.F R
def G0 : Prg where
  Dev := Dev0
  fr := by
    rintro S w w' q bs ⟨h1, h2, h3⟩ hf hF
    refine ⟨h1, h2, fun a ha => ?_⟩
    obtain ⟨X, J, R, clock, pause, cv, room, e, g1, g2, g3, g4⟩ := h3 a ha
    exact ⟨X, J, R, clock, pause, cv, room, e, hf.keep g1 (hF _ g3), hf.keep g2 (hF _ g4), g3, g4⟩
  new := fun w A B Pp n => ⟨rfl, .inl ⟨rfl, rfl⟩, fun a h => by cases h⟩
theorem dev0_shut {w : World} {k : DK} {bs : List Value} (h : Dev0 w k bs) : Dev0 w k.shut bs := ⟨h.1, h.2.1, fun a h => by cases h⟩
theorem inB_iff {n : Nat} : inB n = true ↔ 8 ≤ n ∧ n ≤ 400 := by simp [inB]
theorem take_zeros {n : Nat} (h : 8 ≤ n) : (List.replicate (n * 128) (Value.int .u8 0)).take 128 = zB := by
  rw [List.take_replicate, zB]; congr 1; omega
theorem good0 : Good0 G0 where
  shut := fun h => dev0_shut h
  fmt := by
    rintro w s k ⟨calls, writes, bs, h1, h2, h3, h4, h5, h6, h7⟩ hs hn
    by_cases hi : inB k.n = true
    · obtain ⟨n8, n4⟩ := inB_iff.1 hi
      refine (pFormat_ok h1 h2 h3 (by omega) h5 (by omega) n8 n4).mono ?_
      rintro e w' ⟨v, rfl, hv, bs', hd', hr', rfl, hf⟩
      refine ⟨v, rfl, by rw [if_pos hi]; exact hv, ?_, hf⟩
      rw [if_pos hi]
      exact ⟨_, _, _, hd', hr', by omega, by push_cast; omega, by omega, by push_cast; omega, rfl, .inr ⟨rfl, hi, rfl⟩, fun a h => by cases h⟩
    · have hb : k.n < 8 ∨ 400 < k.n := by
        have := mt inB_iff.2 hi
        omega
      refine (pFormat_bad h1 hb).mono ?_
      rintro e w' ⟨v, rfl, hv, hf⟩
      refine ⟨v, rfl, by rw [if_neg hi]; exact hv, ?_, hf.mono (fun _ _ h => h.elim)⟩
      rw [if_neg hi]
      exact ⟨_, _, _, h1.fr hf id, ⟨hf.keep h2.1 id, h2.2⟩, h3, by push_cast; omega, h5, by push_cast; omega, dev0_shut (G0.fr h7 hf (fun _ _ => id))⟩
  opn := by
    rintro w s k calls0 writes0 p ⟨calls, writes, bs, h1, h2, h3, h4, h5, h6, h7⟩ hd0 hs hn hL hls
    obtain ⟨ec, ew⟩ : calls0 = calls ∧ writes0 = writes := by
      have := hd0.symm.trans h1
      simp [dcells] at this
      exact this
    subst ec ew
    refine pOpen_any ?_
    -- what holds where it answers an error and turns nothing
    have hfail : ∀ (kk : Int), kk ≠ 0 → kk = openK p k.n k.nn → ∀ v w', ErrAt w' v kk → (∃ cl, calls0 ≤ cl ∧ cl ≤ calls0 + 1 ∧ DiskAt w' k.A k.B k.n (.slice none 0 0) cl writes0) → Fr (fun b => b = k.A) w w' → OpenQ (fun xo kk w' => if kk = 0 then ∃ F, FT w' w.heap.size F ∧ DevI G0 w' (s + 1) (k.opened xo p F) else DevI G0 w' (s + 1) k.shut) (fun b => b = k.A) k.A k.B k.n k.nn p writes0 w (.returned (.tuple #[.pointer none, v])) w' := by
      rintro kk hk ek v w' hv ⟨cl, hc1, hc2, hd⟩ hf
      refine ⟨none, v, kk, rfl, hv, ek, by simp [hk], ⟨cl, hd⟩, ?_, hf⟩
      show (if kk = 0 then _ else _)
      rw [if_neg hk]
      have nB : k.B ≠ k.A := fun e => by have := h2.1; rw [e] at this; have := this.symm.trans h1; simp [dcells] at this
      have h7s : Dev0 w k.shut bs := dev0_shut h7
      exact ⟨cl, writes0, bs, hd, ⟨hf.keep h2.1 nB, h2.2⟩, by omega, by push_cast; omega, h5, by push_cast; omega, G0.fr h7s hf (fun b h => h.elim)⟩
    by_cases hp : p < 1 ∨ 64 < p
    · refine (sOpen_pause p hp).mono ?_
      rintro e w' ⟨v, rfl, hv, hf⟩
      exact ⟨_, _, rfl, hfail 8 (by decide) (by simp [openK, hp]) v w' hv ⟨calls0, Int.le_refl _, by omega, h1.fr hf id⟩ (hf.mono (fun _ _ h => h.elim))⟩
    · by_cases hi : inB k.n = true
      · obtain ⟨n8, n4⟩ := inB_iff.1 hi
        rcases h7.2.1 with ⟨hnn, hbs⟩ | ⟨hnn, _, hbs⟩
        · refine (sOpen_corrupt p (by omega) (by omega) h1 h2 h3 (by omega) n8 n4 (by rw [hbs]; exact take_zeros n8)).mono ?_
          rintro e w' ⟨v, rfl, hv, hd', hf⟩
          exact ⟨_, _, rfl, hfail 6 (by decide) (by simp [openK, hp, hi, hnn]) v w' hv ⟨_, by omega, Int.le_refl _, hd'⟩ hf⟩
        · refine (sOpen_ok (recs := []) p (by omega) (by omega) h1 h2 h3 (by omega) n8 n4 (by rw [hbs, layB_nil]) (by simp; omega) (by simp) (fun R _ W => Roll0 W R ((k.n : Int) - 1)) (fun R W _ h => h) (fun R i W W' hR h hf => hf.keep h (by have := lt_of_heap h1; omega)) (fun R i r W _ h => by simp at h)).mono ?_
          rintro e w' ⟨X, rfl, V, R, J, cl, g1, g2, g3, g4, g5, g6, g7, g8, g9, g10⟩
          refine ⟨_, _, rfl, some ⟨X, 0, none⟩, _, 0, rfl, .inl ⟨rfl, rfl⟩, by simp [openK, hp, hi, hnn], by simp, ⟨cl, g4.d⟩, ?_, g10⟩
          show (if (0 : Int) = 0 then _ else _)
          rw [if_pos rfl]
          refine ⟨fun b => b = X ∨ b = R, ?_, cl, writes0, _, g4.d, g4.r, by omega, by push_cast; omega, h5, by push_cast; omega, ?_⟩
          · rintro b (rfl | rfl)
            · exact ⟨by omega, _, _, g1, by unfold EngT; decide⟩
            · exact ⟨by omega, _, _, g5, by unfold EngT; decide⟩
          · refine ⟨by simp [DK.opened, h7.1], .inr ⟨rfl, hi, by rw [layB_nil]; rfl⟩, ?_⟩
            intro a ha
            obtain rfl : ⟨X, 0, none⟩ = a := by simpa [DK.opened] using ha
            exact ⟨X, J, R, _, _, _, _, rfl, g1, g5, .inl rfl, .inr rfl⟩
      · have hb : k.n < 8 ∨ 400 < k.n := by
          have := mt inB_iff.2 hi
          omega
        refine (sOpen_size p (by omega) (by omega) h1 hb).mono ?_
        rintro e w' ⟨v, rfl, hv, hf⟩
        exact ⟨_, _, rfl, hfail 7 (by decide) (by simp [openK, hp, hi]) v w' hv ⟨calls0, Int.le_refl _, by omega, h1.fr hf id⟩ (hf.mono (fun _ _ h => h.elim))⟩
  all := by
    rintro w s k X most ⟨calls, writes, bs, h1, h2, h3, h4, h5, h6, h7⟩ hs hx hL hls
    obtain ⟨X', J, R, clock, pause, cv, room, e, g1, g2, _⟩ := h7.2.2 X hx
    subst e
    refine (pAll_none g1 g2 most).mono ?_
    rintro e w' ⟨rfl, hf⟩
    rw [h7.1]
    exact ⟨none, 0, by simp, by intro i r hr; simp at hr, hf⟩
end Go.Proofs.YteebjgfalllbjaaGreatDoor
