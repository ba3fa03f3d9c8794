import Derived.Test.YteebjgfalllbjaaGreatDoorCTjTmKa
import Derived.Test.YteebjgfalllbjaaGreatDoorCPaAs1Kd
import Derived.Test.YteebjgfalllbjaaGreatDoorCVbNeNg
import Derived.Test.YteebjgfalllbjaaGreatDoorCOk2OdSt
import Derived.Test.YteebjgfalllbjaaGreatDoorCGd0NdVa
namespace Go.Proofs.YteebjgfalllbjaaGreatDoor
open Go.RowKit
section
variable (ck pause : Int)
/-- Is a saga's partner asked at this tick? -/
def AS.dueB (a : AS) : Bool := decide (a.open ∧ a.due ≤ ck)
def cntD (L : List AS) : Nat := (L.filter (AS.dueB ck)).length
theorem cntD_snoc (L : List AS) (a : AS) : cntD ck (L ++ [a]) = cntD ck L + if a.dueB ck then 1 else 0 := by
  by_cases h : a.dueB ck = true <;> simp [cntD, List.filter_append, h]
/-- How sagas stand behind a tick, by what its partner's log says. -/
def Fol (L : List AS) (lg : List (CL × Nat)) (L' : List AS) : Prop := lg.length = cntD ck L ∧ L'.length = L.length ∧ ∀ (i : Nat) (a : AS), L[i]? = some a → if a.dueB ck = true then ∃ r, r ≤ 2 ∧ lg[cntD ck (L.take i)]? = some (a.asks, r) ∧ L'[i]? = some (a.after r ck pause) else L'[i]? = some a
/-- .. and where it fails. -/
def FolF (L L' : List AS) : Prop := L' = L.map fun a => if a.dueB ck = true then a.vain ck pause else a
theorem Fol.nil : Fol ck pause [] [] [] := ⟨rfl, rfl, fun i a h => by simp at h⟩
theorem Fol.snoc {L : List AS} {lg : List (CL × Nat)} {L' : List AS} (h : Fol ck pause L lg L') (a : AS) {m : List (CL × Nat)} {a' : AS} (hm : if a.dueB ck = true then ∃ r, r ≤ 2 ∧ m = [(a.asks, r)] ∧ a' = a.after r ck pause else m = [] ∧ a' = a) : Fol ck pause (L ++ [a]) (lg ++ m) (L' ++ [a']) := by
  obtain ⟨h1, h2, h3⟩ := h
  refine ⟨?_, by simp [h2], fun i b hb => ?_⟩
  · rw [List.length_append, h1, cntD_snoc]
    by_cases hd : a.dueB ck = true
    · rw [if_pos hd] at hm ⊢
      obtain ⟨r, _, rfl, _⟩ := hm
      rfl
    · rw [if_neg hd] at hm ⊢
      rw [hm.1]; rfl
  · by_cases hi : i < L.length
    · rw [List.getElem?_append_left hi] at hb
      have h4 := h3 i b hb
      rw [List.take_append_of_le_length (by omega)]
      by_cases hd : b.dueB ck = true
      · rw [if_pos hd] at h4 ⊢
        obtain ⟨r, hr, h5, h6⟩ := h4
        have := (List.getElem?_eq_some_iff.1 h5).1
        exact ⟨r, hr, by rw [List.getElem?_append_left this]; exact h5, by rw [List.getElem?_append_left (by omega)]; exact h6⟩
      · rw [if_neg hd] at h4 ⊢
        rw [List.getElem?_append_left (by omega)]; exact h4
    · have hl := (List.getElem?_eq_some_iff.1 hb).1
      rw [List.length_append, List.length_singleton] at hl
      obtain rfl : i = L.length := by omega
      rw [List.getElem?_append_right (Nat.le_refl _)] at hb
      obtain rfl : a = b := by simpa using hb
      rw [List.take_append_of_le_length (Nat.le_refl _), List.take_length, ← h1]
      by_cases hd : a.dueB ck = true
      · rw [if_pos hd] at hm ⊢
        obtain ⟨r, hr, rfl, rfl⟩ := hm
        exact ⟨r, hr, by simp, by rw [← h2]; simp⟩
      · rw [if_neg hd] at hm ⊢
        rw [hm.2, ← h2]; simp
/-- A tick whose partner keeps a log. -/
theorem tick_fol {cv : Value} (P : Ptn cv) (lf : P.σ → List (CL × Nat)) (hl : ∀ s c, lf (P.ask s c).2 = lf s ++ [(c, (P.ask s c).1)]) (L : List AS) (s : P.σ) : ∃ lg, lf (tickL P ck pause L s).2.1 = lf s ++ lg ∧ Fol ck pause L lg (tickL P ck pause L s).1 := by
  refine snoc_ind (P := fun L => ∃ lg, lf (tickL P ck pause L s).2.1 = lf s ++ lg ∧ Fol ck pause L lg (tickL P ck pause L s).1) ⟨[], by simp [tickL], Fol.nil ck pause⟩ (fun L a ih => ?_) L
  obtain ⟨lg, h1, h2⟩ := ih
  rw [tickL_snoc]
  obtain ⟨T, hT⟩ : ∃ T, T = tickL P ck pause L s := ⟨_, rfl⟩
  rw [← hT] at h1 h2 ⊢
  show ∃ lg, lf (tickOne P ck pause a T.2.1).2.1 = lf s ++ lg ∧ Fol ck pause (L ++ [a]) lg (T.1 ++ [(tickOne P ck pause a T.2.1).1])
  unfold tickOne
  by_cases hd : a.open ∧ a.due ≤ ck
  · have hd' : a.dueB ck = true := decide_eq_true hd
    rw [if_pos hd]
    refine ⟨lg ++ [(a.asks, (P.ask T.2.1 a.asks).1)], ?_, h2.snoc ck pause a (by rw [if_pos hd']; exact ⟨_, P.le T.2.1 a.asks, rfl, rfl⟩)⟩
    show lf (P.ask T.2.1 a.asks).2 = _
    rw [hl, h1, List.append_assoc]
  · have hd' : ¬ a.dueB ck = true := by simpa [AS.dueB] using hd
    rw [if_neg hd]
    refine ⟨lg ++ [], by rw [List.append_nil]; exact h1, h2.snoc ck pause a (by rw [if_neg hd']; exact ⟨rfl, rfl⟩)⟩
theorem ptn_fol {Pp b0 : Nat} {rl : List Int} (H : AskOk Pp b0 rl) (L : List AS) (s : (ptn H).σ) : ∃ lg, PSt.log (tickL (ptn H) ck pause L s).2.1 = PSt.log s ++ lg ∧ Fol ck pause L lg (tickL (ptn H) ck pause L s).1 := tick_fol ck pause (ptn H) PSt.log (fun _ _ => rfl) L s
end
end Go.Proofs.YteebjgfalllbjaaGreatDoor
namespace Go.Proofs.YteebjgfalllbjaaGreatDoor
open Go.RowKit
theorem askeds_elem : Tryz.prog.underlying 45 = some (.slice (Tryz.prog.elem 45)) := by kernel_rfl
theorem askeds_sz (w : World) : (sizeOf (Tryz.prog.elem 45)).run Tryz.prog w = .ok 5 w := by kernel_rfl
theorem cut_log (ao : Option Addr) (n cap k : Nat) (hk : k ≤ n) (W : World) : (Instr.sliceAt 45 (.slice ao n cap) (some (.int .i64 k)) none none).run Tryz.prog W = .ok (.slice (if cap = k then ao else ao.map (fun x => x.add (k * 5))) (n - k) (cap - k)) W := by
  rw [run_sliceAt_slice W 45 _ _ _ _ askeds_elem, run_slice_l W 45 ao n cap askeds_elem .i64 k (by omega) (by omega), askeds_sz]
  simp [sliced]
/-- An entry of a partner's log. -/
def lgv (p : CL × Nat) : List Value := p.1.cs ++ [.int .i64 p.2]
/-- What a partner's log says. -/
def LogR (w : World) (Pp : Nat) (log : List (CL × Nat)) : Prop := ∃ la lc ef l v, w.heap[Pp]? = some (.cells #[.slice la log.length lc, ef, l, v] 48 (0, 0)) ∧ log.length ≤ lc ∧ RowsOf w la 5 (log.map lgv) ∧ ∀ ad, la = some ad → ∃ c, w.heap[ad.block]? = some (.cells c 52 (0, 0))
theorem LogR.of {w : World} {Pp b0 : Nat} {lg ef l : Value} {log : List (CL × Nat)} {eff : List CL} {rl : List Int} {a : Int} (h : PrtAt w Pp b0 lg ef l log eff rl a) : LogR w Pp log := by
  obtain ⟨la, lc, e, hnil, hoff⟩ := own_shape h.lo
  have hp := h.p
  have ho := h.lo
  subst e
  refine ⟨la, lc, ef, l, _, hp, ?_, rows_of_own ho (fun x hx => by obtain ⟨p, _, rfl⟩ := List.mem_map.1 hx; rfl) (by simp), fun ad e => ?_⟩
  rotate_left
  · subst e
    have h9 := hoff ad rfl
    obtain ⟨ab, ao, ap⟩ := ad
    simp only at h9
    obtain ⟨rfl, rfl⟩ := h9
    exact own_tyS ho rfl
  rcases ho.2 with ⟨h, _⟩ | ⟨g, cap', cur, h, _, _, h2, _⟩
  · simp at h; omega
  · simp at h; omega
theorem log_cut {w : World} {la : Option Addr} {lc k : Nat} {log : List (CL × Nat)} (h : RowsOf w la 5 (log.map lgv)) (hl : log.length ≤ lc) : RowsOf w (if lc = k then la else la.map (fun x => x.add (k * 5))) 5 ((log.drop k).map lgv) := by
  intro i cs hi
  have hi' : (log.map lgv)[k + i]? = some cs := by rw [List.map_drop, List.getElem?_drop] at hi; exact hi
  have hlt := (List.getElem?_eq_some_iff.1 hi').1
  rw [List.length_map] at hlt
  obtain ⟨g, off, e, hr⟩ := h (k + i) cs hi'
  refine ⟨g, off + k * 5, ?_, ?_⟩
  · rw [if_neg (by omega), e]; simp [Addr.add_mid]
  · rw [show off + k * 5 + i * 5 = off + (k + i) * 5 from by omega]; exact hr
end Go.Proofs.YteebjgfalllbjaaGreatDoor
namespace Go.Proofs.YteebjgfalllbjaaGreatDoor
open Go.RowKit

/-- Format, Open and All answer as the document says, as long as nothing fails. -/
structure Good0 (G : Prg) : Prop where
  shut : ∀ {w : World} {s : Nat} {k : DK} {bs : List Value}, G.Dev w s k bs → G.Dev w s k.shut bs
  flg : ∀ {w : World} {s : Nat} {k : DK} {bs : List Value} (f : Bool), G.Dev w s k bs → k.x = none → G.Dev w s (k.flg f) bs
  fmt : ∀ {w : World} {s : Nat} {k : DK}, DevI G w s k → s < 60000 → k.n < 1000 → FT w 0 k.F → Calls Tryz.prog 40 #[.pointer (some ⟨k.A, 0, none⟩)] w fun e w' => FmtQ (fun w' => DevI G w' (s + 1) (if inB k.n then k.fmt else k.shut)) (fun b => b = k.A ∨ b = k.B) k.n w e w'
  opn : ∀ {w : World} {s : Nat} {k : DK} {calls writes : Int} (p : Int), DevI G w s k → DiskAt w k.A k.B k.n (.slice none 0 0) calls writes → s < 60000 → k.n < 1000 → FT w 0 k.F → OkL k.L → k.L.length ≤ s →
    Calls Tryz.prog 33 #[.pointer (some ⟨k.A, 0, none⟩), .int .i64 p, .pointer (some ⟨k.Pp, 0, none⟩)] w fun e w' => OpenQ (fun xo kk w' => if kk = 0 then ∃ F, (∀ b, F b → k.F b ∨ w.heap.size ≤ b) ∧ FT w' 0 F ∧ DevI G w' (s + 1) (k.opened xo p F false) else DevI G w' (s + 1) k.shut) (fun b => b = k.A) k.A k.B k.n k.nn p writes w e w'
  all : ∀ {w : World} {s : Nat} {k : DK} {X : Addr} (most : Int), DevI G w s k → s < 60001 → k.x = some X → OkL k.L → k.L.length ≤ s → Calls Tryz.prog 35 #[.pointer (some X), .int .i64 most] w fun e w' => AllQ ((k.L.take most.toNat).map AS.told) w e w'
/-- .. and Submit, Status, Tick, and Open with a partner that fails. -/
structure Good (G : Prg) : Prop extends Good0 G where
  sta : ∀ {w : World} {s : Nat} {k : DK} {X : Addr} (id : Int), DevI G w s k → s < 60001 → k.x = some X → OkL k.L → k.L.length ≤ s → Calls Tryz.prog 24 #[.pointer (some X), .int .i64 id] w fun e w' => StatA k.L id w e w'
  sub : ∀ {w : World} {s : Nat} {k : DK} {X : Addr} (id : Int) (st : List SS) (g : Nat), DevI G w s k → s < 60000 → k.n < 1000 → k.x = some X → FT w 0 k.F → OkL k.L → k.L.length ≤ s → st.length ≤ s → w.heap[g]? = some (.cells (scells (st ++ [bey, bey])).toArray 58 (0, 0)) →
    Calls Tryz.prog 21 #[.pointer (some X), .int .i64 id, .slice (some ⟨g, 0, none⟩) st.length (st.length + 2)] w fun e w' =>
      ∃ v kk L' F', e = .returned v ∧ ErrAt w' v kk ∧ SubA k.L id st k.n kk L' ∧ (∀ b, F' b → k.F b ∨ w.heap.size ≤ b) ∧ FT w' 0 F' ∧ DevI G w' (s + 1) (k.with L' F') ∧ Fr (fun b => b = k.A ∨ b = k.B ∨ k.F b) w w'
  fai : ∀ {w : World} {s : Nat} {k : DK} (p : Int), DevI G w s k → s < 60001 → k.n < 1000 → k.x ≠ none → k.pause = p → FT w 0 k.F →
    Calls Tryz.prog 83 #[.pointer (some ⟨k.A, 0, none⟩), .int .i64 p] w fun e w' => ∃ X F, e = .returned (.tuple #[.pointer (some X), .nilIface]) ∧ (∀ b, F b → k.F b ∨ w.heap.size ≤ b) ∧ FT w' 0 F ∧ DevI G w' (s + 1) (k.opened (some X) p F true) ∧ Fr (fun b => b = k.A) w w'
  tik : ∀ {w : World} {s : Nat} {k : DK} {X : Addr}, DevI G w s k → s < 60000 → k.x = some X → FT w 0 k.F → (0 ≤ k.clock ∧ k.clock ≤ 100000 ∧ 1 ≤ k.pause ∧ k.pause ≤ 64 ∧ ∀ a ∈ k.L, a.Ok k.clock) ∧ ∃ log0 L', log0.length ≤ 20000000 ∧ LogR w k.Pp log0 ∧ OkL L' ∧ L'.length = k.L.length ∧
    Calls Tryz.prog 23 #[.pointer (some X)] w fun e w' => e = .returned .nilIface ∧ ∃ new F', new.length ≤ 100000 ∧ LogR w' k.Pp (log0 ++ new) ∧ (if k.fl then new = [] ∧ FolF (k.clock + 1) k.pause k.L L' else Fol (k.clock + 1) k.pause k.L new L') ∧ (∀ b, F' b → k.F b ∨ w.heap.size ≤ b) ∧ FT w' 0 F' ∧ DevI G w' (s + 1) (k.ticked L' F') ∧ Fr (fun b => b = k.A ∨ b = k.B ∨ b = k.Pp ∨ k.F b) w w'
variable {G : Prg}
theorem DevI.fr {S : Nat → Prop} {w w' : World} {s : Nat} {k : DK} (h : DevI G w s k) (hf : Fr S w w') (hA : ¬ S k.A) (hB : ¬ S k.B) (hP : ¬ S k.Pp) (hF : ∀ b, k.F b → ¬ S b) : DevI G w' s k := by
  obtain ⟨calls, writes, bs, h1, h2, h3, h4, h5, h6, h7⟩ := h
  exact ⟨calls, writes, bs, h1.fr hf hA, ⟨hf.keep h2.1 hB, h2.2⟩, h3, h4, h5, h6, G.fr h7 hf hA hB hP hF⟩

/-- A step on a disk: what is known of it then. -/
structure DStep (G : Prg) (w : World) (b0 s : Nat) (q q' : DR) (w' : World) : Prop where
  i : q'.D = q.D ∧ q'.A = q.A ∧ q'.B = q.B ∧ q'.Pp = q.Pp
  f : ∀ b, q'.F b → q.F b ∨ w.heap.size ≤ b
  l : ∀ b, q'.Lv.ownBlock = some b → q.Lv.ownBlock = some b ∨ w.heap.size ≤ b
  d : DI G w' b0 s q'
  r : Fr (Foot q) w w'
theorem DStep.trans {w w1 w2 : World} {b0 s s' : Nat} {q q1 q2 : DR} (h : DStep G w b0 s q q1 w1) (h' : DStep G w1 b0 s' q1 q2 w2) : DStep G w b0 s' q q2 w2 := by
  have hz := h.r.size
  refine ⟨⟨h'.i.1.trans h.i.1, h'.i.2.1.trans h.i.2.1, h'.i.2.2.1.trans h.i.2.2.1, h'.i.2.2.2.trans h.i.2.2.2⟩, fun b hb => ?_, fun b hb => ?_, h'.d, h.r.trans h'.r (fun b hb hF => ?_)⟩
  · rcases h'.f b hb with h1 | h1
    · exact h.f b h1
    · exact .inr (by omega)
  · rcases h'.l b hb with h1 | h1
    · exact h.l b h1
    · exact .inr (by omega)
  · rcases hF with (e | e | e | e | e) | e
    · exact .inl (.inl (e.trans h.i.1))
    · exact .inl (.inr (.inl (e.trans h.i.2.1)))
    · exact .inl (.inr (.inr (.inl (e.trans h.i.2.2.1))))
    · exact .inl (.inr (.inr (.inr (.inl (e.trans h.i.2.2.2)))))
    · rcases h.f b e with h1 | h1
      · exact .inl (.inr (.inr (.inr (.inr h1))))
      · omega
    · rcases h.l b e with h1 | h1
      · exact .inr h1
      · omega
def DPost (G : Prg) (w : World) (b0 s : Nat) (q : DR) (f : Bool) (e : Ending) (w' : World) : Prop := e = .returned (.bool true) ∧ ∃ q', q'.fl = f ∧ DStep G w b0 (s + 1) q q' w'
theorem DI.ne {w : World} {b0 s : Nat} {q : DR} (h : DI G w b0 s q) : q.A ≠ q.D ∧ q.B ≠ q.D ∧ q.Pp ≠ q.D ∧ q.A ≠ q.B ∧ q.Pp ≠ q.A ∧ q.Pp ≠ q.B ∧ (∀ b, q.F b → b ≠ q.D ∧ b ≠ q.A ∧ b ≠ q.B ∧ b ≠ q.Pp) := by
  obtain ⟨calls, writes, bs, hd, hr, _⟩ := h.d
  have hd : DiskAt w q.A q.B q.n (.slice none 0 0) calls writes := hd
  have hr : RowsAt w q.B q.n bs := hr
  obtain ⟨_, _, _, _, _, _, hp⟩ := h.p
  refine ⟨?_, ?_, ?_, ?_, ?_, ?_, ?_⟩
  · intro e; have := h.l; rw [← e] at this; have := this.symm.trans hd; simp at this
  · intro e; have := h.l; rw [← e] at this; have := this.symm.trans hr.1; simp at this
  · intro e; have := h.l; rw [← e] at this; have := this.symm.trans hp; simp at this
  · intro e; rw [e] at hd; have := hd.symm.trans hr.1; simp at this
  · intro e; rw [e] at hp; have := hp.symm.trans hd; simp at this
  · intro e; rw [e] at hp; have := hp.symm.trans hr.1; simp at this
  · intro b hb
    obtain ⟨_, c, t, hc, ht⟩ := h.f b hb
    unfold EngT at ht
    refine ⟨?_, ?_, ?_, ?_⟩ <;> intro e <;> subst e
    · have := hc.symm.trans h.l; simp at this; rw [this.2] at ht; simp at ht
    · have := hc.symm.trans hd; simp at this; rw [this.2] at ht; simp at ht
    · have := hc.symm.trans hr.1; simp at this; rw [this.2] at ht; simp at ht
    · have := hc.symm.trans hp; simp at this; rw [this.2] at ht; simp at ht
/-- The script's lists lie in none of a disk's own blocks. -/
theorem DI.lists {w : World} {b0 s : Nat} {q : DR} (h : DI G w b0 s q) {S : Nat → Prop} (hS : ∀ b, b < w.heap.size → S b → Foot0 q b) : ∀ b c t, w.heap[b]? = some (.cells c t (0, 0)) → t = 223 ∨ t = 165 ∨ t = 220 → ¬ S b := by
  intro b c t hb ht hSb
  have hty := Foot0.ty h hb (hS b (lt_of_heap hb) hSb)
  unfold EngT at hty
  rcases ht with rfl | rfl | rfl <;> simp at hty
set_option maxRecDepth 100000 in
theorem formatted_any (gd : Good0 G) {w : World} {b0 s : Nat} {q : DR} (h : DI G w b0 s q) (hs : s < 60000) (hG : GOk w) (hg : 0 < b0) : Calls Tryz.prog 52 #[.pointer (some ⟨q.D, 0, none⟩)] w fun e w' => DPost G w b0 s q q.fl e w' := by
  obtain ⟨nAD, nBD, nPD, nAB, nPA, nPB, nF⟩ := h.ne
  obtain ⟨calls, writes, bs, hd, hr, _⟩ := h.d
  have hd : DiskAt w q.A q.B q.n (.slice none 0 0) calls writes := hd
  have hr : RowsAt w q.B q.n bs := hr
  have hb := h.b
  refine (formatted_gen (Post := fun w' => DevI G w' (s + 1) (if inB q.n then q.k.fmt else q.k.shut) ∧ Fr (fun b => b = q.D ∨ b = q.A ∨ b = q.B) w w') (S := fun b => b = q.A ∨ b = q.B) h.l hd nAD hG (by omega) (by omega) (by rintro (e | e); exact nAD e.symm; exact nBD e.symm) (fun w1 hf1 => ?_)).mono ?_
  · have h1 : DevI G w1 s q.k := h.d.fr hf1 nAD nBD nPD (fun b hb e => (nF b hb).1 e)
    have hFT1 : FT w1 0 q.F := fun b hb => by
      obtain ⟨_, c, t, hc, ht⟩ := h.f b hb
      exact ⟨Nat.zero_le _, c, t, hf1.keep hc (fun e => (nF b hb).1 e), ht⟩
    refine (gd.fmt h1 hs h.n hFT1).mono ?_
    rintro e w' ⟨v, rfl, hv, hp, hf⟩
    exact ⟨v, rfl, hv, ⟨hp, (hf1.mono (fun _ _ h => .inl h)).trans (hf.mono (fun _ _ h => .inr h)) (fun b _ h => h)⟩, hf⟩
  · rintro e w' ⟨rfl, wS, ⟨hp, hfS⟩, hfD, hcase, hsz⟩
    obtain ⟨lo, lm, lcap, pe, pl, pa, hpp⟩ := h.p
    have hF3 : Fr (fun b => b = q.D ∨ b = q.A ∨ b = q.B) w w' := hfS.trans hfD (fun b _ h => .inl h)
    have hFTw : ∀ b, q.F b → b0 ≤ b ∧ ∃ c t, w'.heap[b]? = some (.cells c t (0, 0)) ∧ EngT t := fun b hb => by
      obtain ⟨h0, c, t, hc, ht⟩ := h.f b hb
      exact ⟨h0, c, t, hF3.keep hc (by rintro (e | e | e); exact (nF b hb).1 e; exact (nF b hb).2.1 e; exact (nF b hb).2.2.1 e), ht⟩
    have hsub : ∀ b, b < w.heap.size → (b = q.D ∨ b = q.A ∨ b = q.B) → Foot0 q b := fun b _ h => by
      rcases h with h | h | h
      · exact .inl h
      · exact .inr (.inl h)
      · exact .inr (.inr (.inl h))
    have hFw : Fr (Foot q) w w' := hF3.mono (fun b hb h => .inl (hsub b hb h))
    have hpart : w'.heap[q.Pp]? = some (.cells #[.slice lo lm lcap, pe, pl, pa] 48 (0, 0)) := hF3.keep hpp (by rintro (e | e | e); exact nPD e; exact nPA e; exact nPB e)
    rcases hcase with ⟨hi, hl⟩ | ⟨hi, hl⟩
    · rw [hi] at hp
      refine ⟨rfl, ⟨q.D, q.A, q.B, q.Pp, q.n, false, none, 0, 0, .slice none 0 0, [], q.F, q.fl⟩, rfl, ⟨rfl, rfl, rfl, rfl⟩, (fun b h => .inl h), (fun b h => by simp [Value.ownBlock] at h), ⟨hl, ⟨_, _, _, _, _, _, hpart⟩, ?_, ⟨World.ownsRow_nil _ _ _ _, (fun r hr => absurd hr (by simp)), (fun r hr => absurd hr (by simp)), (fun r hr => absurd hr (by simp))⟩, Nat.zero_le _, (fun r hr => absurd hr (by simp)), List.Pairwise.nil, hFTw, hb, h.n⟩, hFw⟩
      exact DevI.fr hp hfD nAD nBD nPD (fun b hb e => (nF b hb).1 e)
    · rw [hi] at hp
      refine ⟨rfl, ⟨q.D, q.A, q.B, q.Pp, q.n, q.nn, none, q.pause, q.clock, q.Lv, q.L, q.F, q.fl⟩, rfl, ⟨rfl, rfl, rfl, rfl⟩, (fun b h => .inl h), (fun b h => .inl h), ⟨hl, ⟨_, _, _, _, _, _, hpart⟩, ?_, ?_, Nat.le_succ_of_le h.ln, h.ls, h.lo, hFTw, hb, h.n⟩, hFw⟩
      · exact DevI.fr hp hfD nAD nBD nPD (fun b hb e => (nF b hb).1 e)
      · exact h.a.fr hF3 (h.lists hsub)
end Go.Proofs.YteebjgfalllbjaaGreatDoor
