import Derived.Test.YteebjgfalllbjaaGreatDoorCKw
namespace Go.Proofs.YteebjgfalllbjaaGreatDoor
open Go.RowKit
/-- What the first q sagas may come to need. -/
def ndF (c : Int) : Nat → Nat
  | 0 => 0
  | q + 1 => ndF c q + 2 * kmn c ((q + 1 : Nat) : Int) + 2
theorem ndF_le (c : Int) (q : Nat) : ndF c q ≤ 14 * q := by
  induction q with
  | zero => exact Nat.le_refl _
  | succ q ih => have := kmn_in c ((q + 1 : Nat) : Int); rw [ndF]; omega
theorem ndF_mono (c : Int) {p q : Nat} (h : p ≤ q) : ndF c p ≤ ndF c q := by
  induction q with
  | zero => rw [Nat.le_zero.1 h]; exact Nat.le_refl _
  | succ q ih =>
    by_cases e : p = q + 1
    · rw [e]; exact Nat.le_refl _
    · have := ih (by omega); rw [ndF]; omega
/-- Behind q Submits and t ticks. -/
structure SpI (w0 : World) (Pp b0 X A B Z N : Nat) (r : List Int) (c : Int) (q t : Nat) (L : List AS) (s : PSt) (W : World) : Prop where
  e : ∃ rs F, EN W (q + t + 1) X A B N t 1 (askV Pp) L rs F ∧ FU W F ∧ ∀ b, F b → w0.heap.size ≤ b
  p : ∃ F0, PrtI Pp b0 (rlOf r Z) s F0 W ∧ ∀ b, F0 b → w0.heap.size ≤ b
  ab : w0.heap.size ≤ A ∧ w0.heap.size ≤ B
  f : Fr (fun _ => False) w0 W
  ln : L.length = q
  id : ∀ a ∈ L, 1 ≤ a.id ∧ a.id ≤ q
  nd : (L.map fun a => 2 * a.st.length).sum + 2 * q = ndF c q
  ef : ∀ a ∈ L, ∃ nv, EffI a (mine a.id s.eff) nv
  no : ∀ id : Int, (q : Int) < id → mine id s.eff = []
  lf : (L.map AS.left).sum ≤ 11 * q ∧ s.at' + (L.map AS.left).sum ≤ r.length + 11 * q
  du : ∀ a ∈ L, a.due ≤ (t : Int) + 1
  sz : max (max s.log.length s.eff.length) s.at' ≤ 20 * t
section
variable {w0 W : World} {Pp b0 X A B Z N : Nat} {r : List Int} {c : Int} {q t : Nat} {L : List AS} {s : PSt}
theorem tickOne_due {cv : Value} (P : Ptn cv) {a : AS} {ck pause : Int} (s : P.σ) (hp : 0 ≤ pause) (hck : 0 ≤ ck) (h : a.due ≤ ck + pause) : (tickOne P ck pause a s).1.due ≤ ck + pause := by
  unfold tickOne
  split
  · show (AS.after a _ ck pause).due ≤ ck + pause
    unfold AS.after
    split
    · show (0 : Int) ≤ ck + pause; omega
    · have := waitD_le pause a.tries.toNat
      show ck + waitD pause a.tries.toNat ≤ ck + pause
      omega
  · exact h
theorem tickL_due {cv : Value} (P : Ptn cv) {ck pause : Int} (hp : 0 ≤ pause) (hck : 0 ≤ ck) : ∀ (L : List AS) (s : P.σ), (∀ a ∈ L, a.due ≤ ck + pause) → ∀ b ∈ (tickL P ck pause L s).1, b.due ≤ ck + pause := by
  intro L
  induction L with
  | nil => intro s _ b hb; cases hb
  | cons a l ih =>
    intro s h b hb
    rcases List.mem_cons.1 hb with rfl | hb
    · exact tickOne_due P s hp hck (h a (by simp))
    · exact ih _ (fun x hx => h x (by simp [hx])) b hb
theorem SpI.tick (H : AskOk Pp b0 (rlOf r Z)) (h : SpI w0 Pp b0 X A B Z N r c q t L s W) (hq : q ≤ 12) (ht : t < 1000) (hZ : 200 ≤ Z) :
    Calls Tryz.prog 23 #[.pointer (some ⟨X, 0, none⟩)] W fun e w' => e = .returned .nilIface ∧ ∃ L' s', SpI w0 Pp b0 X A B Z N r c q (t + 1) L' s' w' ∧ ∀ b ∈ L', b.open → ∃ a ∈ L, a.open ∧ pot r.length 1 ((t + 1 : Nat) : Int) b s'.at' + 1 ≤ pot r.length 1 t a s.at' := by
  obtain ⟨⟨rs, F, hE, hU, hFn⟩, ⟨F0, hP, hFn0⟩, hAB, hf, hln, hid, hnd, hef, hno, hlf, hdu, hsz⟩ := h
  refine (hE.tick (ptn H) (s0 := s) (by omega) (by decide) (by decide) (by omega) hP (by show max (max s.log.length s.eff.length) s.at' + L.length ≤ 1000000; omega)).mono ?_
  rintro e w' ⟨rfl, F', hn', hU', hE', ⟨F0', hP', hn0'⟩, hfr⟩
  have hok : ∀ a ∈ L, a.Ok ((t : Int) + 1 - 1) := fun a ha => by have := (hE.1.mem ha).1; simpa using this
  obtain ⟨t1, t2, t3, t4⟩ := tickL_pot H (ck := (t : Int) + 1) (pause := 1) (D := 11 * q) (by omega) (by decide) (by omega) L s 0 hok (by omega) (by omega)
  obtain ⟨g1, g2⟩ := tickL_eff H (ck := (t : Int) + 1) (pause := 1) L s hE.1.so hef
  have hds := tickL_due (ptn H) (ck := (t : Int) + 1) (pause := 1) (by decide) (by omega) L s (fun a ha => by have := hdu a ha; omega)
  have hids := tickL_ids (ptn H) ((t : Int) + 1) 1 L s
  have hsts := tickL_sts (ptn H) ((t : Int) + 1) 1 L s
  have hlen := tickL_len (ptn H) ((t : Int) + 1) 1 L s
  have hszz := tickL_sz (ptn H) ((t : Int) + 1) 1 L s
  generalize tickL (ptn H) ((t : Int) + 1) 1 L s = T at *
  refine ⟨rfl, T.1, T.2.1, ⟨⟨_, F', by have := hE'; push_cast; rw [show q + (t + 1) + 1 = q + t + 1 + 1 by omega]; exact this, hU', fun b hb => ?_⟩, ⟨F0', hP', fun b hb => ?_⟩, hAB, ?_, by omega, fun b hb => ?_, ?_, g1, fun id hi => ?_, ⟨by omega, by omega⟩, fun b hb => by have := hds b hb; push_cast; omega, ?_⟩, fun b hb ho => ?_⟩
  · rcases hn' b hb with h | h
    · exact hFn b h
    · exact Nat.le_trans hf.size h
  · rcases hn0' b hb with h | h
    · exact hFn0 b h
    · exact Nat.le_trans hf.size h
  · refine hf.trans hfr (fun b hb h => ?_)
    rcases h with h | h | h | h
    · omega
    · omega
    · have := hFn b h; omega
    · have := hFn0 b h; omega
  · have h1 : b.id ∈ L.map (·.id) := by rw [← hids]; exact List.mem_map.2 ⟨b, hb, rfl⟩
    obtain ⟨a, ha, e⟩ := List.mem_map.1 h1
    rw [← e]
    exact hid a ha
  · have h2 : ∀ l : List AS, l.map (fun a => 2 * a.st.length) = (l.map (·.st)).map (fun t => 2 * t.length) := fun l => by rw [List.map_map]; rfl
    rw [h2, hsts, ← h2]
    exact hnd
  · rw [g2 id (fun a ha e => by have := hid a ha; omega)]
    exact hno id hi
  · have : max (max (PSt.log T.2.1).length (PSt.eff T.2.1).length) (PSt.at' T.2.1) ≤ max (max s.log.length s.eff.length) s.at' + L.length := hszz
    omega
  · obtain ⟨a, ha, o1, _, o3⟩ := t4 b hb ho
    refine ⟨a, ha, o1, ?_⟩
    have e1 : (t : Int) + 1 - 1 = t := by omega
    rw [e1] at o3
    push_cast
    exact o3
theorem SpI.sub (h : SpI w0 Pp b0 X A B Z N r c q t L s W) (hq : q < 12) (ht : t < 1000) (hN : 4 + ndF c (q + 1) ≤ N) {g : Nat} (cap : Nat) (hrows : RowsOf W (some ⟨g, 0, none⟩) 2 ((kst (q + 1) (kmn c ((q + 1 : Nat) : Int))).map stv)) :
    Calls Tryz.prog 21 #[.pointer (some ⟨X, 0, none⟩), .int .i64 ((q + 1 : Nat) : Int), .slice (some ⟨g, 0, none⟩) (kmn c ((q + 1 : Nat) : Int)) cap] W fun e w' => e = .returned .nilIface ∧ ∃ L', SpI w0 Pp b0 X A B Z N r c (q + 1) t L' s w' := by
  obtain ⟨⟨rs, F, hE, hU, hFn⟩, ⟨F0, hP, hFn0⟩, hAB, hf, hln, hid, hnd, hef, hno, hlf, hdu, hsz⟩ := h
  obtain ⟨hk1, hk6⟩ := kmn_in c ((q + 1 : Nat) : Int)
  obtain ⟨n, hn⟩ : ∃ n, n = kmn c ((q + 1 : Nat) : Int) := ⟨_, rfl⟩
  have hndF : ndF c (q + 1) = ndF c q + 2 * n + 2 := by rw [hn]; rfl
  rw [← hn] at hk1 hk6 hrows ⊢
  have hok : sagaOk ((q + 1 : Nat) : Int) (kst (q + 1) n) = true := kst_ok hk1 hk6 (by omega) (by omega)
  have HS := hE.sub (by omega) ((q + 1 : Nat) : Int) (kst (q + 1) n) cap hrows (fun _ => ⟨g, rfl⟩)
  rw [kst_len] at HS
  obtain ⟨calls, writes, hd, hr⟩ := hE.disk
  refine HS.mono ?_
  rintro e w' ⟨v, kk, L', rs', F', rfl, hv, hS, hn', hU', hE', hf'⟩
  have hfresh : ∀ a ∈ L, a.id ≠ ((q + 1 : Nat) : Int) := fun a ha e => by have := hid a ha; omega
  obtain ⟨rfl, rfl⟩ : kk = 0 ∧ L' = insA (newA ((q + 1 : Nat) : Int) (kst (q + 1) n)) L := by
    rcases hS with ⟨h, _⟩ | ⟨_, a, ha, h, _⟩ | ⟨_, _, ⟨h1, h2, h3⟩ | ⟨_, h, _⟩⟩
    · rw [hok] at h; cases h
    · exact absurd h (hfresh a ha)
    · exact ⟨h1, h2⟩
    · rw [kst_len] at h; omega
  have hA1 := newA_ok (id := q + 1) (st := kst (q + 1) n) hok
  have hlf1 : (newA ((q + 1 : Nat) : Int) (kst (q + 1) n)).left = 2 * n - 1 := by have := hA1.2; rw [kst_len] at this; exact this
  have hpF : ∀ b, F0 b → ¬ (b = A ∨ b = B ∨ F b) := fun b hb h => by
    obtain ⟨_, lg, ef, l, h2, h3⟩ := hP
    obtain ⟨c, t, hc, ht⟩ := h2.ty ((h3 b).1 hb)
    unfold PT at ht
    rcases h with h | h | h
    · rw [h] at hc; have := hc.symm.trans hd; simp [dcells] at this; rw [this.2] at ht; revert ht; decide
    · rw [h] at hc; have := hc.symm.trans hr.1; simp at this; rw [this.2] at ht; revert ht; decide
    · exact hU.ne hc (by intro hu; unfold EngU at hu; rcases ht with rfl | rfl | rfl | rfl <;> revert hu <;> decide) h
  have hP2 : PrtI Pp b0 (rlOf r Z) s F0 w' := by
    obtain ⟨h1, lg, ef, l, h2, h3⟩ := hP
    exact ⟨Nat.le_trans h1 hf'.size, lg, ef, l, h2.fr hf' (fun b hb => hpF b ((h3 b).2 hb)), h3⟩
  have hlen2 : (insA (newA ((q + 1 : Nat) : Int) (kst (q + 1) n)) L).length = L.length + 1 := by
    have h := congrArg List.length (List.takeWhile_append_dropWhile (p := fun c => decide (c.id < (newA ((q + 1 : Nat) : Int) (kst (q + 1) n)).id)) (l := L))
    rw [List.length_append] at h
    unfold insA
    rw [List.length_append, List.length_cons]
    omega
  refine ⟨by rw [err0 hv], _, ⟨⟨_, F', hE'.mono (by omega), hU', fun b hb => ?_⟩, ⟨F0, hP2, hFn0⟩, hAB, ?_, by omega, fun a ha => ?_, ?_, fun a ha => ?_, fun id hi => hno id (by push_cast at hi; omega), ⟨?_, ?_⟩, fun a ha => ?_, hsz⟩⟩
  · rcases hn' b hb with h | h
    · exact hFn b h
    · exact Nat.le_trans hf.size h
  · refine hf.trans hf' (fun b hb h => ?_)
    rcases h with h | h | h
    · omega
    · omega
    · have := hFn b h; omega
  · rcases mem_insA.1 ha with rfl | ha
    · exact ⟨by show (1 : Int) ≤ ((q + 1 : Nat) : Int); omega, Int.le_refl _⟩
    · have := hid a ha; push_cast; omega
  · rw [sum_insA, newA_len, kst_len, hndF]; omega
  · rcases mem_insA.1 ha with rfl | ha
    · refine ⟨false, .inl ⟨rfl, rfl, 0, rfl, by show 0 + 1 ≤ (kst (q + 1) n).length; rw [kst_len]; exact hk1, .inl ?_⟩⟩
      rw [hno _ (by show (q : Int) < ((q + 1 : Nat) : Int); omega)]
      rfl
    · exact hef a ha
  · rw [sum_insA, hlf1]; omega
  · rw [sum_insA, hlf1]; omega
  · rcases mem_insA.1 ha with rfl | ha
    · show (0 : Int) ≤ (t : Int) + 1; omega
    · exact hdu a ha
end
end Go.Proofs.YteebjgfalllbjaaGreatDoor
