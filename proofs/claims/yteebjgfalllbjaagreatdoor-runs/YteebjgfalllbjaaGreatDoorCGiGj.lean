import Derived.Test.YteebjgfalllbjaaGreatDoorCGgSqGh
import Derived.Test.YteebjgfalllbjaaGreatDoorCKeNcNi
import Derived.Test.YteebjgfalllbjaaGreatDoorCAs2
namespace Go.Proofs.YteebjgfalllbjaaGreatDoor
open Go.RowKit
theorem inB2 {n : Nat} : inB n = true ↔ 8 ≤ n ∧ n ≤ 400 := by simp [inB]
theorem takeZ {n : Nat} (h : 8 ≤ n) : (List.replicate (n * 128) (Value.int .u8 0)).take 128 = zB := by
  rw [List.take_replicate, zB]; congr 1; omega
theorem EngU.t {t : TypeId} (h : EngU t) : EngT t := by
  unfold EngU at h
  unfold EngT
  rcases h with rfl | rfl | rfl | rfl | rfl | rfl <;> decide
theorem EngU.pt {t : TypeId} (h : EngU t) : ¬ PT t := by
  unfold EngU at h
  unfold PT
  rcases h with rfl | rfl | rfl | rfl | rfl | rfl <;> decide
/-- A device's partner, behind s steps. -/
def PtI (w : World) (s Pp : Nat) (F : Nat → Prop) : Prop := ∃ rl st b1 F0, RlOk rl ∧ PrtI Pp b1 rl st F0 w ∧ (∀ b, F0 b → b = Pp ∨ F b) ∧ st.log.length ≤ 200 * s ∧ st.eff.length ≤ 200 * s ∧ st.at' ≤ 200 * s
def cvOf (f : Bool) (Pp : Nat) : Value := if f then failV else askV Pp
/-- A device's journal and its engine. -/
def JnI (w : World) (s : Nat) (k : DK) (bs : List Value) : Prop :=
  (k.nn = true ∧ bs = List.replicate (k.n * 128) (.int .u8 0) ∧ k.L = [] ∧ k.x = none) ∨
  (k.nn = false ∧ inB k.n = true ∧ ∃ rs, bs = layB k.n (rs.map Rec.bytes) ∧ RecsOk rs ∧ needC rs ≤ k.n - 1 ∧ k.L.map AS.zero = recL rs ∧
    ∀ a, k.x = some a → ∃ X F1, a = ⟨X, 0, none⟩ ∧ EN w s X k.A k.B k.n k.clock k.pause (cvOf k.fl k.Pp) k.L rs F1 ∧ (∀ b, F1 b → k.F b) ∧ FU w F1 ∧ k.clock ≤ s ∧ 1 ≤ k.pause ∧ k.pause ≤ 64)
def Dev2 (w : World) (s : Nat) (k : DK) (bs : List Value) : Prop := PtI w s k.Pp k.F ∧ JnI w s k bs
theorem PrtI.fr {S : Nat → Prop} {w w' : World} {Pp b1 : Nat} {rl : List Int} {st : PSt} {F0 : Nat → Prop} (h : PrtI Pp b1 rl st F0 w) (hf : Fr S w w') (hS : ∀ b, F0 b → ¬ S b) : PrtI Pp b1 rl st F0 w' := by
  obtain ⟨hb, lg, ef, l, h, hF⟩ := h
  exact ⟨Nat.le_trans hb hf.size, lg, ef, l, h.fr hf (fun b hb => hS b ((hF b).2 hb)), hF⟩
theorem PtI.fr {S : Nat → Prop} {w w' : World} {s Pp : Nat} {F : Nat → Prop} (h : PtI w s Pp F) (hf : Fr S w w') (hP : ¬ S Pp) (hS : ∀ b, F b → ¬ S b) : PtI w' s Pp F := by
  obtain ⟨rl, st, b1, F0, h1, h2, h3, h4⟩ := h
  refine ⟨rl, st, b1, F0, h1, h2.fr hf (fun b hb => ?_), h3, h4⟩
  rcases h3 b hb with e | e
  · rw [e]; exact hP
  · exact hS b e
theorem PtI.mono {w : World} {s s' Pp : Nat} {F F' : Nat → Prop} (h : PtI w s Pp F) (hs : s ≤ s') (hF : ∀ b, F b → b = Pp ∨ F' b) : PtI w s' Pp F' := by
  obtain ⟨rl, st, b1, F0, h1, h2, h3, h4, h5, h6⟩ := h
  exact ⟨rl, st, b1, F0, h1, h2, fun b hb => (h3 b hb).elim .inl (hF b), by omega, by omega, by omega⟩
theorem PrtI.ty {w : World} {Pp b1 : Nat} {rl : List Int} {st : PSt} {F0 : Nat → Prop} (h : PrtI Pp b1 rl st F0 w) {b : Nat} (hb : F0 b) : ∃ c t, w.heap[b]? = some (.cells c t (0, 0)) ∧ PT t ∧ (b ≠ Pp → EngT t) := by
  obtain ⟨_, lg, ef, l, h, hF⟩ := h
  rcases (hF b).1 hb with rfl | hb | hb | hb
  · exact ⟨_, _, h.p, .inl rfl, fun e => absurd rfl e⟩
  · obtain ⟨c, hc⟩ := own_ty h.lo hb
    exact ⟨_, _, hc, .inr (.inl rfl), fun _ => by unfold EngT; decide⟩
  · obtain ⟨c, hc⟩ := own_ty h.eo hb
    exact ⟨_, _, hc, .inr (.inr (.inl rfl)), fun _ => by unfold EngT; decide⟩
  · obtain ⟨c, hc⟩ := own_ty h.la hb
    exact ⟨_, _, hc, .inr (.inr (.inr rfl)), fun _ => by unfold EngT; decide⟩
theorem PrtI.pp {w : World} {Pp b1 : Nat} {rl : List Int} {st : PSt} {F0 : Nat → Prop} (h : PrtI Pp b1 rl st F0 w) : F0 Pp ∧ ∃ c, w.heap[Pp]? = some (.cells c 48 (0, 0)) := by
  obtain ⟨_, lg, ef, l, h, hF⟩ := h
  exact ⟨(hF Pp).2 (.inl rfl), _, h.p⟩
theorem FU.fr {S : Nat → Prop} {w w' : World} {F1 : Nat → Prop} (h : FU w F1) (hf : Fr S w w') (hS : ∀ b, F1 b → ¬ S b) : FU w' F1 := fun b hb => by
  obtain ⟨c, t, hc, ht⟩ := h b hb
  exact ⟨c, t, hf.keep hc (hS b hb), ht⟩
theorem EN.disk2 {w : World} {s X A B n : Nat} {clock pause : Int} {cv : Value} {L : List AS} {rs : List Rec} {F : Nat → Prop} (h : EN w s X A B n clock pause cv L rs F) : ∃ calls writes, DiskAt w A B n (.slice none 0 0) calls writes ∧ RowsAt w B n (layB n (rs.map Rec.bytes)) ∧ 0 ≤ calls ∧ calls ≤ 1000 * (s : Int) ∧ 0 ≤ writes ∧ writes ≤ 1000 * (s : Int) := by
  obtain ⟨hp, J, R, V, base, room, ev, es, sb, calls, writes, hb, g⟩ := h
  exact ⟨_, _, g.E.jn.d, g.E.jn.r, hb⟩
def G2 : Prg where
  Dev := Dev2
  fr := by
    rintro S w w' s q bs ⟨hP, hJ⟩ hf hA hB hPp hF
    refine ⟨hP.fr hf hPp hF, ?_⟩
    rcases hJ with h | ⟨h1, h2, rs, h3, h4, h5, h6, h7⟩
    · exact .inl h
    · refine .inr ⟨h1, h2, rs, h3, h4, h5, h6, fun a ha => ?_⟩
      obtain ⟨X, F1, e, g1, g2, g3, g4⟩ := h7 a ha
      exact ⟨X, F1, e, g1.fr hf hA hB (fun b hb => hF b (g2 b hb)), g2, g3.fr hf (fun b hb => hF b (g2 b hb)), g4⟩
  mono := by
    rintro w s s' q bs ⟨hP, hJ⟩ hs
    refine ⟨hP.mono hs (fun _ h => .inr h), ?_⟩
    rcases hJ with h | ⟨h1, h2, rs, h3, h4, h5, h6, h7⟩
    · exact .inl h
    · refine .inr ⟨h1, h2, rs, h3, h4, h5, h6, fun a ha => ?_⟩
      obtain ⟨X, F1, e, g1, g2, g3, g4, g5⟩ := h7 a ha
      exact ⟨X, F1, e, g1.mono hs, g2, g3, by omega, g5⟩
  new := by
    intro w A B Pp n s b1 F lv rl hp hl hb hrl hF
    refine ⟨⟨rl, ⟨[], [], 0⟩, b1, PartF Pp (.slice none 0 0) (.slice none 0 0) lv, hrl, ⟨hb, _, _, _, ⟨hp, World.ownsRow_nil _ _ _ _, World.ownsRow_nil _ _ _ _, hl⟩, fun b => Iff.rfl⟩, ?_, Nat.zero_le _, Nat.zero_le _, Nat.zero_le _⟩, .inl ⟨rfl, rfl, rfl, rfl⟩⟩
    rintro b (h | h | h | h)
    · exact .inl h
    · cases h
    · cases h
    · exact .inr (hF b h)
theorem dev2_shut {w : World} {s : Nat} {k : DK} {bs : List Value} (h : Dev2 w s k bs) : Dev2 w s k.shut bs := by
  refine ⟨h.1, ?_⟩
  rcases h.2 with ⟨h1, h2, h3, _⟩ | ⟨h1, h2, rs, h3, h4, h5, h6, _⟩
  · exact .inl ⟨h1, h2, h3, rfl⟩
  · exact .inr ⟨h1, h2, rs, h3, h4, h5, h6, fun a ha => by cases ha⟩
theorem dev2_flg {w : World} {s : Nat} {k : DK} {bs : List Value} (f : Bool) (h : Dev2 w s k bs) (hx : k.x = none) : Dev2 w s (k.flg f) bs := by
  refine ⟨h.1, ?_⟩
  rcases h.2 with ⟨h1, h2, h3, h4⟩ | ⟨h1, h2, rs, h3, h4, h5, h6, _⟩
  · exact .inl ⟨h1, h2, h3, h4⟩
  · exact .inr ⟨h1, h2, rs, h3, h4, h5, h6, fun a ha => by have ha : k.x = some a := ha; rw [hx] at ha; cases ha⟩
section
variable {w : World} {s : Nat} {k : DK}
/-- What lies elsewhere than a device's own blocks. -/
theorem pt_ne {A B n Pp : Nat} {F : Nat → Prop} {calls writes : Int} {bs : List Value} (h1 : DiskAt w A B n (.slice none 0 0) calls writes) (h2 : RowsAt w B n bs) (hP : PtI w s Pp F) (hF : FT w 0 F) : Pp ≠ A ∧ Pp ≠ B ∧ ∀ b, F b → b ≠ A ∧ b ≠ B := by
  obtain ⟨rl, st, b1, F0, _, h3, _⟩ := hP
  obtain ⟨_, c, hc⟩ := h3.pp
  refine ⟨?_, ?_, fun b hb => ?_⟩
  · rintro rfl; have := hc.symm.trans h1; simp at this
  · rintro rfl; have := hc.symm.trans h2.1; simp at this
  · obtain ⟨_, c', t, hc', ht⟩ := hF b hb
    unfold EngT at ht
    refine ⟨?_, ?_⟩
    · rintro rfl; have := hc'.symm.trans h1; simp at this; rw [this.2] at ht; simp at ht
    · rintro rfl; have := hc'.symm.trans h2.1; simp at this; rw [this.2] at ht; simp at ht
theorem fmt2 (h : DevI G2 w s k) (hs : s < 60000) (hFT : FT w 0 k.F) : Calls Tryz.prog 40 #[.pointer (some ⟨k.A, 0, none⟩)] w fun e w' => FmtQ (fun w' => DevI G2 w' (s + 1) (if inB k.n then k.fmt else k.shut)) (fun b => b = k.A ∨ b = k.B) k.n w e w' := by
  obtain ⟨calls, writes, bs, h1, h2, h3, h4, h5, h6, h7⟩ := h
  have h7 : Dev2 w s k bs := h7
  obtain ⟨nA, nB, nF⟩ := pt_ne h1 h2 h7.1 hFT
  by_cases hi : inB k.n = true
  · obtain ⟨n8, n4⟩ := inB2.1 hi
    refine (pFormat_ok h1 h2 h3 (by omega) h5 (by omega) n8 n4).mono ?_
    rintro e w' ⟨v, rfl, hv, bs', hd', hr', rfl, hf⟩
    refine ⟨v, rfl, by rw [if_pos hi]; exact hv, ?_, hf⟩
    rw [if_pos hi]
    refine ⟨_, _, _, hd', hr', by omega, by push_cast; omega, by omega, by push_cast; omega, (h7.1.fr hf (by rintro (e | e); exact nA e; exact nB e) (fun b hb => by rintro (e | e); exact (nF b hb).1 e; exact (nF b hb).2 e)).mono (by omega) (fun _ h => .inr h), .inr ⟨rfl, hi, [], (layB_nil k.n).symm, ?_, Nat.zero_le _, rfl, fun a ha => by cases ha⟩⟩
    intro i r hr
    simp at hr
  · have hb : k.n < 8 ∨ 400 < k.n := by
      have := mt inB2.2 hi
      omega
    refine (pFormat_bad h1 hb).mono ?_
    rintro e w' ⟨v, rfl, hv, hf⟩
    refine ⟨v, rfl, by rw [if_neg hi]; exact hv, ?_, hf.mono (fun _ _ h => h.elim)⟩
    rw [if_neg hi]
    exact ⟨_, _, _, h1.fr hf id, ⟨hf.keep h2.1 id, h2.2⟩, h3, by push_cast; omega, h5, by push_cast; omega, G2.mono (dev2_shut (G2.fr h7 hf id id id (fun _ _ => id))) (by omega)⟩
theorem eq_disk {A B B' n n' : Nat} {c c' : Value} {x y x' y' : Int} (h : DiskAt w A B n c x y) (h' : DiskAt w A B' n' c' x' y') : x = x' ∧ y = y' := by
  have := h.symm.trans h'
  simp [dcells] at this
  exact this.2.2
/-- Open of a journal of records. -/
theorem open2 {w' : World} {rs : List Rec} {X : Nat} {F1 : Nat → Prop} {p : Int} {f : Bool} (hP : PtI w s k.Pp k.F) (hA : k.Pp ≠ k.A) (hFA : ∀ b, k.F b → b ≠ k.A) (hFT : FT w 0 k.F) (hi : inB k.n = true) (hok : RecsOk rs) (hnd : needC rs ≤ k.n - 1) (hL : k.L.map AS.zero = recL rs) (hp1 : 1 ≤ p) (hp2 : p ≤ 64)
    (hE : EN w' (s + 1) X k.A k.B k.n 0 p (cvOf f k.Pp) (recL rs) rs F1) (hU : FU w' F1) (hF1 : ∀ b, F1 b → w.heap.size ≤ b) (hf : Fr (fun b => b = k.A) w w') :
    ∃ F, (∀ b, F b → k.F b ∨ w.heap.size ≤ b) ∧ FT w' 0 F ∧ DevI G2 w' (s + 1) (k.opened (some ⟨X, 0, none⟩) p F f) := by
  refine ⟨fun b => k.F b ∨ F1 b, fun b hb => hb.imp_right (hF1 b), fun b hb => ?_, ?_⟩
  · rcases hb with hb | hb
    · obtain ⟨_, c, t, hc, ht⟩ := hFT b hb
      exact ⟨Nat.zero_le _, c, t, hf.keep hc (hFA b hb), ht⟩
    · obtain ⟨c, t, hc, ht⟩ := hU b hb
      exact ⟨Nat.zero_le _, c, t, hc, ht.t⟩
  · obtain ⟨calls, writes, hd, hr, b1, b2, b3, b4⟩ := hE.disk2
    have hz := hE.1.zL
    refine ⟨calls, writes, _, hd, hr, b1, b2, b3, b4, (hP.fr hf hA hFA).mono (by omega) (fun _ h => .inr (.inl h)), .inr ⟨rfl, hi, rs, rfl, hok, hnd, ?_, fun a ha => ?_⟩⟩
    · show (k.L.map AS.zero).map AS.zero = recL rs
      rw [hL]; exact hz
    · obtain rfl : ⟨X, 0, none⟩ = a := by simpa [DK.opened] using ha
      refine ⟨X, F1, rfl, ?_, fun b hb => .inr hb, hU, by show (0 : Int) ≤ ((s + 1 : Nat) : Int); omega, hp1, hp2⟩
      show EN w' (s + 1) X k.A k.B k.n 0 p (cvOf f k.Pp) (k.L.map AS.zero) rs F1
      rw [hL]; exact hE
theorem opn2 {calls writes : Int} (p : Int) (h : DevI G2 w s k) (hd0 : DiskAt w k.A k.B k.n (.slice none 0 0) calls writes) (hs : s < 60000) (hFT : FT w 0 k.F) :
    Calls Tryz.prog 33 #[.pointer (some ⟨k.A, 0, none⟩), .int .i64 p, .pointer (some ⟨k.Pp, 0, none⟩)] w fun e w' => OpenQ (fun xo kk w' => if kk = 0 then ∃ F, (∀ b, F b → k.F b ∨ w.heap.size ≤ b) ∧ FT w' 0 F ∧ DevI G2 w' (s + 1) (k.opened xo p F false) else DevI G2 w' (s + 1) k.shut) (fun b => b = k.A) k.A k.B k.n k.nn p writes w e w' := by
  obtain ⟨calls0, writes0, bs, h1, h2, h3, h4, h5, h6, h7⟩ := h
  have h7 : Dev2 w s k bs := h7
  obtain ⟨ec, ew⟩ := eq_disk hd0 h1
  subst ec ew
  obtain ⟨nA, nB, nF⟩ := pt_ne h1 h2 h7.1 hFT
  have hfail : ∀ (kk : Int), kk ≠ 0 → kk = openK p k.n k.nn → ∀ v w', ErrAt w' v kk → (∃ cl, calls ≤ cl ∧ cl ≤ calls + 1 ∧ DiskAt w' k.A k.B k.n (.slice none 0 0) cl writes) → Fr (fun b => b = k.A) w w' → OpenQ (fun xo kk w' => if kk = 0 then ∃ F, (∀ b, F b → k.F b ∨ w.heap.size ≤ b) ∧ FT w' 0 F ∧ DevI G2 w' (s + 1) (k.opened xo p F false) else DevI G2 w' (s + 1) k.shut) (fun b => b = k.A) k.A k.B k.n k.nn p writes w (.returned (.tuple #[.pointer none, v])) w' := by
    rintro kk hk ek v w' hv ⟨cl, hc1, hc2, hd⟩ hf
    refine ⟨none, v, kk, rfl, hv, ek, by simp [hk], ⟨cl, hd⟩, ?_, hf⟩
    show (if kk = 0 then _ else _)
    rw [if_neg hk]
    have nB' : k.B ≠ k.A := fun e => by have := h2.1; rw [e] at this; have := this.symm.trans h1; simp [dcells] at this
    refine ⟨cl, writes, bs, hd, ⟨hf.keep h2.1 nB', h2.2⟩, by omega, by push_cast; omega, h5, by push_cast; omega, (h7.1.fr hf nA (fun b hb => (nF b hb).1)).mono (by omega) (fun _ h => .inr h), ?_⟩
    rcases (dev2_shut h7).2 with g | ⟨g1, g2, rs, g3, g4, g5, g6, _⟩
    · exact .inl g
    · exact .inr ⟨g1, g2, rs, g3, g4, g5, g6, fun a ha => by cases ha⟩
  by_cases hp : p < 1 ∨ 64 < p
  · refine pOpen_any ((sOpen_pause p hp).mono ?_)
    rintro e w' ⟨v, rfl, hv, hf⟩
    exact ⟨_, _, rfl, hfail 8 (by decide) (by simp [openK, hp]) v w' hv ⟨calls, Int.le_refl _, by omega, h1.fr hf id⟩ (hf.mono (fun _ _ h => h.elim))⟩
  · by_cases hi : inB k.n = true
    · obtain ⟨n8, n4⟩ := inB2.1 hi
      rcases h7.2 with ⟨hnn, hbs, _, _⟩ | ⟨hnn, _, rs, hbs, hok, hnd, hL, _⟩
      · refine pOpen_any ((sOpen_corrupt p (by omega) (by omega) h1 h2 h3 (by omega) n8 n4 (by rw [hbs]; exact takeZ n8)).mono ?_)
        rintro e w' ⟨v, rfl, hv, hd', hf⟩
        exact ⟨_, _, rfl, hfail 6 (by decide) (by simp [openK, hp, hi, hnn]) v w' hv ⟨_, by omega, Int.le_refl _, hd'⟩ hf⟩
      · rw [hbs] at h2
        refine (openN (s := s) p (by omega) (by omega) h1 h2 h3 h4 h5 h6 (by omega) n8 n4 hok hnd).mono ?_
        rintro e w' ⟨X, F1, rfl, hE, hU, hF1, ⟨cl, hcl⟩, hf⟩
        refine ⟨some ⟨X, 0, none⟩, _, 0, rfl, .inl ⟨rfl, rfl⟩, by simp [openK, hp, hi, hnn], by simp, ⟨cl, hcl⟩, ?_, hf⟩
        show (if (0 : Int) = 0 then _ else _)
        rw [if_pos rfl]
        exact open2 (f := false) h7.1 nA (fun b hb => (nF b hb).1) hFT hi hok hnd hL (by omega) (by omega) hE hU hF1 hf
    · have hb : k.n < 8 ∨ 400 < k.n := by
        have := mt inB2.2 hi
        omega
      refine pOpen_any ((sOpen_size p (by omega) (by omega) h1 hb).mono ?_)
      rintro e w' ⟨v, rfl, hv, hf⟩
      exact ⟨_, _, rfl, hfail 7 (by decide) (by simp [openK, hp, hi]) v w' hv ⟨calls, Int.le_refl _, by omega, h1.fr hf id⟩ (hf.mono (fun _ _ h => h.elim))⟩
/-- The engine that is open. -/
theorem dev2_en {X : Addr} (h : DevI G2 w s k) (hx : k.x = some X) : ∃ X' F1 rs, X = ⟨X', 0, none⟩ ∧ k.nn = false ∧ inB k.n = true ∧ EN w s X' k.A k.B k.n k.clock k.pause (cvOf k.fl k.Pp) k.L rs F1 ∧ (∀ b, F1 b → k.F b) ∧ FU w F1 ∧ k.clock ≤ s ∧ 1 ≤ k.pause ∧ k.pause ≤ 64 ∧ PtI w s k.Pp k.F := by
  obtain ⟨calls0, writes0, bs, h1, h2, h3, h4, h5, h6, h7⟩ := h
  have h7 : Dev2 w s k bs := h7
  rcases h7.2 with ⟨_, _, _, hxn⟩ | ⟨g1, g2, rs, _, _, _, _, h8⟩
  · rw [hxn] at hx; cases hx
  · obtain ⟨X', F1, rfl, g3, g4, g5, g6, g7, g8⟩ := h8 X hx
    exact ⟨X', F1, rs, rfl, g1, g2, g3, g4, g5, g6, g7, g8, h7.1⟩
/-- .. and what lies on the device then. -/
theorem en_dev2 {w' : World} {s' X : Nat} {k' : DK} {F1 : Nat → Prop} {rs : List Rec} (hx : k'.x = some ⟨X, 0, none⟩) (hnn : k'.nn = false) (hE : EN w' s' X k'.A k'.B k'.n k'.clock k'.pause (cvOf k'.fl k'.Pp) k'.L rs F1) (hF : ∀ b, F1 b → k'.F b) (hU : FU w' F1) (hc : k'.clock ≤ s') (hp : 1 ≤ k'.pause ∧ k'.pause ≤ 64) (hP : PtI w' s' k'.Pp k'.F) : DevI G2 w' s' k' := by
  obtain ⟨calls, writes, hd, hr, b1, b2, b3, b4⟩ := hE.disk2
  refine ⟨calls, writes, _, hd, hr, b1, b2, b3, b4, hP, .inr ⟨hnn, inB2.2 ⟨hE.1.n8, hE.1.n4⟩, rs, rfl, hE.1.ok, hE.1.nd, hE.1.zL, fun a ha => ?_⟩⟩
  rw [hx] at ha
  obtain rfl : ⟨X, 0, none⟩ = a := by simpa using ha
  exact ⟨X, F1, rfl, hE, hF, hU, hc, hp.1, hp.2⟩
theorem fai2 (p : Int) (h : DevI G2 w s k) (hs : s < 60001) (hx : k.x ≠ none) (hpp : k.pause = p) (hFT : FT w 0 k.F) :
    Calls Tryz.prog 83 #[.pointer (some ⟨k.A, 0, none⟩), .int .i64 p] w fun e w' => ∃ X F, e = .returned (.tuple #[.pointer (some X), .nilIface]) ∧ (∀ b, F b → k.F b ∨ w.heap.size ≤ b) ∧ FT w' 0 F ∧ DevI G2 w' (s + 1) (k.opened (some X) p F true) ∧ Fr (fun b => b = k.A) w w' := by
  obtain ⟨X, hX⟩ : ∃ X, k.x = some X := by
    cases hk : k.x with
    | none => exact absurd hk hx
    | some X => exact ⟨X, rfl⟩
  obtain ⟨X', F1, rs, rfl, hnn, hi, hE, hF1, hU, hc, hp1, hp2, hP⟩ := dev2_en h hX
  obtain ⟨calls, writes, hd, hr, b1, b2, b3, b4⟩ := hE.disk2
  obtain ⟨nA, nB, nF⟩ := pt_ne hd hr hP hFT
  refine (failsN (s := s) p (by omega) (by omega) hd hr b1 b2 b3 b4 (by omega) hE.1.n8 hE.1.n4 hE.1.ok hE.1.nd).mono ?_
  rintro e w' ⟨X2, F2, rfl, hE2, hU2, hF2, _, hf⟩
  obtain ⟨F, q1, q2, q3⟩ := open2 (f := true) hP nA (fun b hb => (nF b hb).1) hFT hi hE.1.ok hE.1.nd hE.1.zL (by omega) (by omega) hE2 hU2 hF2 hf
  exact ⟨_, F, rfl, q1, q2, q3, hf⟩
theorem sub2 {X : Addr} (id : Int) (st : List SS) (g : Nat) (h : DevI G2 w s k) (hs : s < 60000) (hx : k.x = some X) (hFT : FT w 0 k.F) (hg : w.heap[g]? = some (.cells (scells (st ++ [bey, bey])).toArray 58 (0, 0))) :
    Calls Tryz.prog 21 #[.pointer (some X), .int .i64 id, .slice (some ⟨g, 0, none⟩) st.length (st.length + 2)] w fun e w' =>
      ∃ v kk L' F', e = .returned v ∧ ErrAt w' v kk ∧ SubA k.L id st k.n kk L' ∧ (∀ b, F' b → k.F b ∨ w.heap.size ≤ b) ∧ FT w' 0 F' ∧ DevI G2 w' (s + 1) (k.with L' F') ∧ Fr (fun b => b = k.A ∨ b = k.B ∨ k.F b) w w' := by
  obtain ⟨X', F1, rs, rfl, hnn, hi, hE, hF1, hU, hc, hp1, hp2, hP⟩ := dev2_en h hx
  obtain ⟨calls, writes, hd, hr, b1, b2, b3, b4⟩ := hE.disk2
  obtain ⟨nA, nB, nF⟩ := pt_ne hd hr hP hFT
  have hrows : RowsOf w (some ⟨g, 0, none⟩) 2 (st.map stv) := by
    intro i cs hi
    refine rows_scells hg i cs ?_
    rw [List.map_append, List.getElem?_append_left (by have := (List.getElem?_eq_some_iff.1 hi).1; exact this)]
    exact hi
  refine ((hE.tight).elim fun F2 hF2 => (EN.sub hF2.2.2 (by omega) id st (st.length + 2) hrows (fun _ => ⟨g, rfl⟩)).mono ?_)
  rintro e w' ⟨v, kk, L', rs', F', rfl, hv, hsub, hF', hU', hE', hf⟩
  obtain ⟨hFU2, hF21, _⟩ := hF2
  have hk : ∀ b, k.F b → ¬ F2 b → ¬ (b = k.A ∨ b = k.B ∨ F2 b) := by
    rintro b h1 h2 (e | e | e)
    · exact (nF b h1).1 e
    · exact (nF b h1).2 e
    · exact h2 e
  refine ⟨v, kk, L', fun b => (k.F b ∧ ¬ F2 b) ∨ F' b, rfl, hv, ?_, ?_, ?_, ?_, ?_⟩
  · rcases hsub with ⟨h1, h2, h3, _⟩ | ⟨h1, a, ha, h2, h3, h4, _⟩ | ⟨h1, h2, ⟨h3, h4, _⟩ | ⟨h3, h4, h5, _⟩⟩
    · exact .inl ⟨h1, h2, h3⟩
    · exact .inr (.inl ⟨h1, a, ha, h2, h3, h4⟩)
    · exact .inr (.inr ⟨h1, h2, .inl ⟨h3, h4⟩⟩)
    · refine .inr (.inr ⟨h1, h2, .inr ⟨h3, ?_, h5⟩⟩)
      unfold needA
      have hle : ∀ l : List AS, (l.map fun a => 2 * a.st.length).sum ≤ (l.map fun a => 2 * a.st.length + 2).sum := fun l => by
        induction l with
        | nil => simp
        | cons a l ih => simp only [List.map_cons, List.sum_cons]; omega
      have := hle k.L
      omega
  · rintro b (hb | hb)
    · exact .inl hb.1
    · exact (hF' b hb).imp_left (fun h => hF1 b (hF21 b h))
  · rintro b (hb | hb)
    · obtain ⟨_, c, t, hc, ht⟩ := hFT b hb.1
      exact ⟨Nat.zero_le _, c, t, hf.keep hc (hk b hb.1 hb.2), ht⟩
    · obtain ⟨c, t, hc, ht⟩ := hU' b hb
      exact ⟨Nat.zero_le _, c, t, hc, ht.t⟩
  · refine en_dev2 (k' := k.with L' fun b => (k.F b ∧ ¬ F2 b) ∨ F' b) hx hnn hE' (fun b hb => .inr hb) hU' (by show k.clock ≤ ((s + 1 : Nat) : Int); omega) ⟨hp1, hp2⟩ ?_
    obtain ⟨rl, pst, b1', F0, p1, p2, p3, p4, p5, p6⟩ := hP
    have hF0 : ∀ b, F0 b → ¬ F2 b := fun b hb e => by
      obtain ⟨c, t, hc, ht, _⟩ := p2.ty hb
      obtain ⟨c', t', hc', ht'⟩ := hFU2 b e
      have := hc.symm.trans hc'
      simp at this
      rw [this.2] at ht
      exact ht'.pt ht
    refine ⟨rl, pst, b1', F0, p1, p2.fr hf (fun b hb => ?_), fun b hb => ?_, by omega, by omega, by omega⟩
    · rintro (e | e | e)
      · rcases p3 b hb with h1 | h1
        · exact nA (h1.symm.trans e)
        · exact (nF b h1).1 e
      · rcases p3 b hb with h1 | h1
        · exact nB (h1.symm.trans e)
        · exact (nF b h1).2 e
      · exact hF0 b hb e
    · exact (p3 b hb).imp_right (fun h1 => .inl ⟨h1, hF0 b hb⟩)
  · refine hf.mono (fun b _ h => ?_)
    rcases h with h | h | h
    · exact .inl h
    · exact .inr (.inl h)
    · exact .inr (.inr (hF1 b (hF21 b h)))
end
end Go.Proofs.YteebjgfalllbjaaGreatDoor
namespace Go.Proofs.YteebjgfalllbjaaGreatDoor
open Go.RowKit
section
variable {w : World} {s : Nat} {k : DK}
theorem tickL_okL {n : Nat} {clock : Int} {L : List AS} {rs : List Rec} (h : ENp n clock L rs) : OkL L := by
  refine ⟨h.so, fun a ha => ⟨?_, (h.mem ha).2⟩⟩
  have := (h.mem ha).1.s
  omega
theorem fol_len {ck pause : Int} {L L' : List AS} {new : List (CL × Nat)} {f : Bool} (h : if f then new = [] ∧ FolF ck pause L L' else Fol ck pause L new L') : L'.length = L.length ∧ new.length ≤ L.length := by
  cases f with
  | true =>
    have h9 : new = [] ∧ FolF ck pause L L' := by simpa using h
    rw [h9.1, h9.2]
    simp
  | false =>
    have h9 : Fol ck pause L new L' := by simpa using h
    refine ⟨h9.2.1, ?_⟩
    rw [h9.1]
    exact List.length_filter_le _ _
theorem tik2 {X : Addr} (h : DevI G2 w s k) (hs : s < 60000) (hx : k.x = some X) (hFT : FT w 0 k.F) : (0 ≤ k.clock ∧ k.clock ≤ 100000 ∧ 1 ≤ k.pause ∧ k.pause ≤ 64 ∧ ∀ a ∈ k.L, a.Ok k.clock) ∧ ∃ log0 L', log0.length ≤ 20000000 ∧ LogR w k.Pp log0 ∧ OkL L' ∧ L'.length = k.L.length ∧
    Calls Tryz.prog 23 #[.pointer (some X)] w fun e w' => e = .returned .nilIface ∧ ∃ new F', new.length ≤ 100000 ∧ LogR w' k.Pp (log0 ++ new) ∧ (if k.fl then new = [] ∧ FolF (k.clock + 1) k.pause k.L L' else Fol (k.clock + 1) k.pause k.L new L') ∧ (∀ b, F' b → k.F b ∨ w.heap.size ≤ b) ∧ FT w' 0 F' ∧ DevI G2 w' (s + 1) (k.ticked L' F') ∧ Fr (fun b => b = k.A ∨ b = k.B ∨ b = k.Pp ∨ k.F b) w w' := by
  obtain ⟨X', F1, rs, rfl, hnn, hi, hE, hF1, hU, hc, hp1, hp2, hP⟩ := dev2_en h hx
  obtain ⟨calls, writes, hd, hr, b1, b2, b3, b4⟩ := hE.disk2
  obtain ⟨nA, nB, nF⟩ := pt_ne hd hr hP hFT
  obtain ⟨F2, hU2, hF21, hE⟩ := hE.tight
  have hF2 : ∀ b, F2 b → k.F b := fun b hb => hF1 b (hF21 b hb)
  obtain ⟨rl, pst, b1', F0, p1, p2, p3, p4, p5, p6⟩ := hP
  have hlen := hE.1.len
  refine ⟨⟨hE.1.ck, by omega, hp1, hp2, fun a ha => (hE.1.mem ha).1⟩, pst.log, ?_⟩
  have hlogR : ∀ (w' : World) (st' : PSt) (F0' : Nat → Prop), PrtI k.Pp b1' rl st' F0' w' → LogR w' k.Pp st'.log := by
    rintro w' st' F0' ⟨_, lg, ef, l, hq, _⟩
    exact LogR.of hq
  have hF0 : ∀ b, F0 b → ¬ F2 b := fun b hb e => by
    obtain ⟨c, t, hc, ht, _⟩ := p2.ty hb
    obtain ⟨c', t', hc', ht'⟩ := hU2 b e
    have := hc.symm.trans hc'
    simp at this
    rw [this.2] at ht
    exact ht'.pt ht
  -- what is there then, whatever the partner
  have fin : ∀ (w' : World) (L' : List AS) (rs' : List Rec) (F3 F0' : Nat → Prop) (st' : PSt), (∀ b, F3 b → F2 b ∨ w.heap.size ≤ b) → FU w' F3 → EN w' (s + 1) X' k.A k.B k.n (k.clock + 1) k.pause (cvOf k.fl k.Pp) L' rs' F3 → PrtI k.Pp b1' rl st' F0' w' → (∀ b, F0' b → F0 b ∨ w.heap.size ≤ b) → st'.log.length ≤ 200 * (s + 1) → st'.eff.length ≤ 200 * (s + 1) → st'.at' ≤ 200 * (s + 1) → Fr (fun b => b = k.A ∨ b = k.B ∨ F2 b ∨ F0 b) w w' →
      ∃ F', (∀ b, F' b → k.F b ∨ w.heap.size ≤ b) ∧ FT w' 0 F' ∧ DevI G2 w' (s + 1) (k.ticked L' F') ∧ Fr (fun b => b = k.A ∨ b = k.B ∨ b = k.Pp ∨ k.F b) w w' := by
    intro w' L' rs' F3 F0' st' f1 f2 f3 f4 f5 f6 f7 f8 hf
    have hPl : k.Pp < w.heap.size := by obtain ⟨_, c, hc⟩ := p2.pp; exact lt_of_heap hc
    refine ⟨fun b => (k.F b ∧ ¬ F2 b ∧ ¬ F0 b) ∨ F3 b ∨ (F0' b ∧ b ≠ k.Pp), ?_, ?_, ?_, ?_⟩
    · rintro b (hb | hb | ⟨hb, hn⟩)
      · exact .inl hb.1
      · exact (f1 b hb).imp_left (hF2 b)
      · rcases f5 b hb with h1 | h1
        · exact .inl ((p3 b h1).resolve_left hn)
        · exact .inr h1
    · rintro b (⟨h1, h2, h3⟩ | hb | ⟨hb, hn⟩)
      · obtain ⟨_, c, t, hc, ht⟩ := hFT b h1
        refine ⟨Nat.zero_le _, c, t, hf.keep hc ?_, ht⟩
        rintro (e | e | e | e)
        · exact (nF b h1).1 e
        · exact (nF b h1).2 e
        · exact h2 e
        · exact h3 e
      · obtain ⟨c, t, hc, ht⟩ := f2 b hb
        exact ⟨Nat.zero_le _, c, t, hc, ht.t⟩
      · obtain ⟨c, t, hc, _, ht⟩ := f4.ty hb
        exact ⟨Nat.zero_le _, c, t, hc, ht hn⟩
    · refine en_dev2 (k' := k.ticked L' fun b => (k.F b ∧ ¬ F2 b ∧ ¬ F0 b) ∨ F3 b ∨ (F0' b ∧ b ≠ k.Pp)) hx hnn f3 (fun b hb => .inr (.inl hb)) f2 (by show k.clock + 1 ≤ ((s + 1 : Nat) : Int); omega) ⟨hp1, hp2⟩ ?_
      refine ⟨rl, st', b1', F0', p1, f4, fun b hb => ?_, f6, f7, f8⟩
      by_cases hn : b = k.Pp
      · exact .inl hn
      · exact .inr (.inr (.inr ⟨hb, hn⟩))
    · refine hf.mono (fun b _ h => ?_)
      rcases h with h | h | h | h
      · exact .inl h
      · exact .inr (.inl h)
      · exact .inr (.inr (.inr (hF2 b h)))
      · exact .inr (.inr (p3 b h))
  cases hfl : k.fl with
  | true =>
    have hcv : cvOf k.fl k.Pp = failV := by rw [hfl]; rfl
    have hE' : EN w s X' k.A k.B k.n k.clock k.pause failV k.L rs F2 := by rw [← hcv]; exact hE
    have hEt := EN.tick ptnF (s0 := ()) (F0 := fun _ => False) hE' hs hp1 hp2 (by omega) (fun _ h => h) (by show 0 + k.L.length ≤ 20000000; omega)
    have hfo := tick_folF (k.clock + 1) k.pause k.L ()
    have hsame : ∀ w', Fr (fun b => b = k.A ∨ b = k.B ∨ F2 b ∨ False) w w' → PrtI k.Pp b1' rl pst F0 w' := fun w' hf => p2.fr hf (fun b hb => by
      rintro (e | e | e | e)
      · rcases p3 b hb with h1 | h1
        · exact nA (h1.symm.trans e)
        · exact (nF b h1).1 e
      · rcases p3 b hb with h1 | h1
        · exact nB (h1.symm.trans e)
        · exact (nF b h1).2 e
      · exact hF0 b hb e
      · exact e)
    refine ⟨(tickL ptnF (k.clock + 1) k.pause k.L ()).1, by omega, hlogR w pst F0 p2, tickL_okL (hE.1.tick ptnF () k.pause), ?_, hEt.mono ?_⟩
    · rw [hfo.1]; simp
    · rintro e w' ⟨rfl, F3, g1, g2, g3, _, hf⟩
      obtain ⟨F', i1, i2, i3, i4⟩ := fin w' _ _ F3 F0 pst g1 g2 (by rw [hcv]; exact g3) (hsame w' hf) (fun b hb => .inl hb) (by omega) (by omega) (by omega) (hf.mono (fun b _ h => by rcases h with h | h | h | h; exact .inl h; exact .inr (.inl h); exact .inr (.inr (.inl h)); exact h.elim))
      exact ⟨rfl, [], F', by simp, by rw [List.append_nil]; exact hlogR w' pst F0 (hsame w' hf), by rw [if_pos rfl]; exact ⟨rfl, hfo.1⟩, i1, i2, i3, i4⟩
  | false =>
    have hcv : cvOf k.fl k.Pp = askV k.Pp := by rw [hfl]; rfl
    have H : AskOk k.Pp b1' rl := ask_ok_any (by have := p1.1; omega) p1.2
    have hsz0 : (ptn H).sz pst ≤ 200 * s := by
      show max (max pst.log.length pst.eff.length) pst.at' ≤ 200 * s
      omega
    have hE' : EN w s X' k.A k.B k.n k.clock k.pause (askV k.Pp) k.L rs F2 := by rw [← hcv]; exact hE
    have hEt := EN.tick (ptn H) (s0 := pst) (F0 := F0) hE' hs hp1 hp2 (by omega) p2 (by omega)
    obtain ⟨lg, hlg, hfo⟩ := ptn_fol (k.clock + 1) k.pause H k.L pst
    have hsz1 := tickL_sz (ptn H) (k.clock + 1) k.pause k.L pst
    have hln := fol_len (f := false) (new := lg) (L := k.L) (ck := k.clock + 1) (pause := k.pause) (by rw [if_neg (by decide)]; exact hfo)
    obtain ⟨st', hst'⟩ : ∃ st' : PSt, st' = (tickL (ptn H) (k.clock + 1) k.pause k.L pst).2.1 := ⟨_, rfl⟩
    have hsz2 : max (max st'.log.length st'.eff.length) st'.at' ≤ 200 * (s + 1) := by
      have : max (max st'.log.length st'.eff.length) st'.at' ≤ (ptn H).sz pst + k.L.length := by rw [hst']; exact hsz1
      omega
    refine ⟨(tickL (ptn H) (k.clock + 1) k.pause k.L pst).1, by omega, hlogR w pst F0 p2, tickL_okL (hE.1.tick (ptn H) pst k.pause), hln.1, hEt.mono ?_⟩
    rintro e w' ⟨rfl, F3, g1, g2, g3, ⟨F0', g4, g5⟩, hf⟩
    have g4' : PrtI k.Pp b1' rl st' F0' w' := by rw [hst']; exact g4
    obtain ⟨F', i1, i2, i3, i4⟩ := fin w' _ _ F3 F0' st' g1 g2 (by rw [hcv]; exact g3) g4' g5 (by omega) (by omega) (by omega) hf
    refine ⟨rfl, lg, F', by omega, ?_, by rw [if_neg (by decide)]; exact hfo, i1, i2, i3, i4⟩
    have hll : st'.log = pst.log ++ lg := by rw [hst']; exact hlg
    rw [← hll]
    exact hlogR w' st' F0' g4'
theorem sta2 {X : Addr} (id : Int) (h : DevI G2 w s k) (hx : k.x = some X) : Calls Tryz.prog 24 #[.pointer (some X), .int .i64 id] w fun e w' => StatA k.L id w e w' := by
  obtain ⟨X', F1, rs, rfl, _, _, hE, _⟩ := dev2_en h hx
  exact hE.sta id
theorem all2 {X : Addr} (most : Int) (h : DevI G2 w s k) (hx : k.x = some X) : Calls Tryz.prog 35 #[.pointer (some X), .int .i64 most] w fun e w' => AllQ ((k.L.take most.toNat).map AS.told) w e w' := by
  obtain ⟨X', F1, rs, rfl, _, _, hE, _⟩ := dev2_en h hx
  exact hE.all most
end
theorem good2 : Good G2 where
  shut := dev2_shut
  flg := dev2_flg
  fmt := fun h hs _ hF => fmt2 h hs hF
  opn := fun p h hd hs _ hF _ _ => opn2 p h hd hs hF
  all := fun most h _ hx _ _ => all2 most h hx
  sta := fun id h _ hx _ _ => sta2 id h hx
  sub := fun id st g h hs _ hx hF _ _ _ hg => sub2 id st g h hs hx hF hg
  fai := fun p h hs _ hx hp hF => fai2 p h hs hx hp hF
  tik := fun h hs hx hF => tik2 h hs hx hF
end Go.Proofs.YteebjgfalllbjaaGreatDoor
