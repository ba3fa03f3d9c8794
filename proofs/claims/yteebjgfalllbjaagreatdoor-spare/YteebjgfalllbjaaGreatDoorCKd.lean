import Derived.Test.YteebjgfalllbjaaGreatDoorCKbPaAs1
import Derived.Test.YteebjgfalllbjaaGreatDoorCTjTmKa
namespace Go.Proofs.YteebjgfalllbjaaGreatDoor
open Go.RowKit
def NewPrtQ (w : World) (rl : List Int) (e : Ending) (w' : World) : Prop := ∃ Pp lv, e = .returned (.pointer (some ⟨Pp, 0, none⟩)) ∧ w.heap.size ≤ Pp ∧ PrtAt w' Pp w.heap.size (.slice none 0 0) (.slice none 0 0) lv [] [] rl 0 ∧ (∀ b, lv.ownBlock = some b → w.heap.size ≤ b) ∧ Fr (fun _ => False) w w'
set_option maxRecDepth 100000 in
set_option maxHeartbeats 1000000 in
/-- A new partner has a copy of the numbers by which it replies. -/
theorem NewPartner_rows {w : World} {b0 : Nat} {rv : Value} {rl : List Int} (ho : w.ownsRow b0 3 1 rv rl.length (rl.map fun x => Value.int .i64 x)) (hr : rl.length < 1000000) :
    Calls Tryz.prog 18 #[rv] w fun e w' => NewPrtQ w rl e w' := by
  obtain ⟨i0, hi, hz0, hz1, hz2⟩ := info_parts int_info
  have h1 : ∀ v ∈ rl.map (fun x => Value.int .i64 x), v.oneCell' = true := fun v hv => by
    obtain ⟨x, _, rfl⟩ := List.mem_map.1 hv
    rfl
  rcases ho.2 with ⟨rfl, h0⟩ | ⟨g, cap, cur, rfl, hb, hg, hnc, hcm, hcs, ht⟩
  · obtain rfl : rl = [] := List.eq_nil_of_length_eq_zero h0
    go_enter Tryz.func18, Tryz.ntmps18
    go_wp2
    go_ret
    exact ⟨_, .slice none 0 0, rfl, Nat.le_refl _, ⟨heap_alloc_at _ _, World.ownsRow_nil _ _ _ _, World.ownsRow_nil _ _ _ _, World.ownsRow_nil _ _ _ _⟩, (fun b hb => nomatch hb), (Fr.refl _ _).alloc _⟩
  · have hc := ho.cells (g := g) rfl
    have hlen := ho.1
    generalize hrxs : rl.map (fun x => Value.int .i64 x) = rxs at *
    generalize hrn : rl.length = r at *
    have HX : Hid (rl.map (fun x => Value.int .i64 x) = rxs ∧ rl.length = r) := ⟨hrxs, hrn⟩
    clear hrxs hrn
    go_enter Tryz.func18, Tryz.ntmps18
    go_wp2_with (first | (at_builtin; refine wpList_append_own w rfl (.const (.slice none 0 0)) (.tmp 3) 24 rfl w.heap.size 3 i0 (.int .i64 0) 1 8 Tryz.underlying24 hi hz0 hz1 hz2 rfl (by decide) (.slice none 0 0) 0 [] rfl (World.ownsRow_nil _ _ _ _) ⟨g, 0, none⟩ r cap rxs rfl ?_ hc h1 ?_ ?_ ?_ ?_; (omega); (unfold maxLen; omega); omega; exact Nat.le_refl _; intro v' w1 hown' hgrow _; obtain ⟨ao, nn, cc, rfl⟩ : ∃ ao nn cc, v' = .slice ao nn cc := by (rcases hown'.2 with ⟨rfl, _⟩ | ⟨_, _, _, rfl, _⟩ <;> exact ⟨_, _, _, rfl⟩)))
    go_ret
    have hown2 : w1.ownsRow w.heap.size 3 1 (.slice ao nn cc) rl.length (rl.map fun x => Value.int .i64 x) := by
      rw [HX.out.1, HX.out.2]
      simpa using hown'
    exact ⟨_, .slice ao nn cc, rfl, hgrow.size, ⟨heap_alloc_at _ _, World.ownsRow_nil _ _ _ _, World.ownsRow_nil _ _ _ _, hown2.alloc _⟩, fun b hb => (hown2.lt b hb).1, ((Fr.refl _ _).grown hgrow (fun _ _ h => by cases h)).alloc _⟩
section
variable {w : World} {Pp b0 : Nat}
/-- A partner's blocks, its log, what it did, how many it was asked for. -/
structure PSt where
  log : List (CL × Nat)
  eff : List CL
  at' : Nat
def PrtI (Pp b0 : Nat) (rl : List Int) (s : PSt) (F : Nat → Prop) (w : World) : Prop := b0 ≤ w.heap.size ∧ ∃ lg ef l, PrtAt w Pp b0 lg ef l s.log s.eff rl s.at' ∧ ∀ b, F b ↔ PartF Pp lg ef l b
theorem PrtAt.ty {lg ef l : Value} {log : List (CL × Nat)} {eff : List CL} {rl : List Int} {a : Int} (h : PrtAt w Pp b0 lg ef l log eff rl a) {b : Nat} (hb : PartF Pp lg ef l b) : ∃ c t, w.heap[b]? = some (.cells c t (0, 0)) ∧ PT t := by
  rcases hb with rfl | hb | hb | hb
  · exact ⟨_, _, h.p, .inl rfl⟩
  · obtain ⟨c, hc⟩ := own_ty h.lo hb
    exact ⟨_, _, hc, .inr (.inl rfl)⟩
  · obtain ⟨c, hc⟩ := own_ty h.eo hb
    exact ⟨_, _, hc, .inr (.inr (.inl rfl))⟩
  · obtain ⟨c, hc⟩ := own_ty h.la hb
    exact ⟨_, _, hc, .inr (.inr (.inr rfl))⟩
theorem PrtAt.fr {lg ef l : Value} {log : List (CL × Nat)} {eff : List CL} {rl : List Int} {a : Int} {S : Nat → Prop} {w' : World} (h : PrtAt w Pp b0 lg ef l log eff rl a) (hf : Fr S w w') (hS : ∀ b, PartF Pp lg ef l b → ¬ S b) : PrtAt w' Pp b0 lg ef l log eff rl a :=
  ⟨hf.keep h.p (hS _ (.inl rfl)), own_fr h.lo hf (fun b _ _ hb => hS b (.inr (.inl hb))), own_fr h.eo hf (fun b _ _ hb => hS b (.inr (.inr (.inl hb)))), own_fr h.la hf (fun b _ _ hb => hS b (.inr (.inr (.inr hb))))⟩
/-- The number by which a partner replies. -/
def kOf (rl : List Int) (a : Nat) : Int := if rl = [] then 0 else rl.getD (a % rl.length) 0 % 6
def nOf (rl : List Int) (a : Nat) : Nat := if rl = [] then a else a + 1
def pAsk (rl : List Int) (s : PSt) (c : CL) : Nat × PSt := (askR (kOf rl s.at') (s.eff.any (·.same c)) c.back, ⟨s.log ++ [(c, askR (kOf rl s.at') (s.eff.any (·.same c)) c.back)], askE (kOf rl s.at') (s.eff.any (·.same c)) s.eff c, nOf rl s.at'⟩)
theorem askR_le (k : Int) (d b : Bool) : askR k d b ≤ 2 := by
  unfold askR
  split <;> (split <;> try omega)
  split <;> (try omega)
  split <;> omega
theorem askE_le (k : Int) (d : Bool) (eff : List CL) (c : CL) : (askE k d eff c).length ≤ eff.length + 1 := by
  unfold askE
  split
  · omega
  · simp
/-- What Ask must answer. -/
def AskOk (Pp b0 : Nat) (rl : List Int) : Prop := ∀ (w : World) (lg ef l : Value) (log : List (CL × Nat)) (eff : List CL) (a : Nat) (c : CL), PrtAt w Pp b0 lg ef l log eff rl a → b0 ≤ w.heap.size → log.length ≤ 1000000 → eff.length ≤ 1000000 → a ≤ 1000000 →
  Calls Tryz.prog 47 #[.pointer (some ⟨Pp, 0, none⟩), .agg c.cs.toArray] w fun e w' => e = .returned (.int .i64 (askR (kOf rl a) (eff.any (·.same c)) c.back : Nat)) ∧ ∃ ef', AskQ w Pp b0 lg ef l log rl (nOf rl a : Nat) c (askR (kOf rl a) (eff.any (·.same c)) c.back) ef' (askE (kOf rl a) (eff.any (·.same c)) eff c) w'
theorem ask_nil_ok : AskOk Pp b0 [] := fun _ _ _ _ _ _ _ c h hb hl he _ => Ask_nil h hb hl he rfl c
def askV (Pp : Nat) : Value := .func (.func 47) #[.pointer (some ⟨Pp, 0, none⟩)] #[]
/-- A partner that is asked by its method Ask. -/
def ptn {Pp b0 : Nat} {rl : List Int} (H : AskOk Pp b0 rl) : Ptn (askV Pp) where
  σ := PSt
  PA := PrtI Pp b0 rl
  sz s := max (max s.log.length s.eff.length) s.at'
  ask := pAsk rl
  fr := by
    rintro S F w w' s ⟨hb, lg, ef, l, h, hF⟩ hf hS
    exact ⟨Nat.le_trans hb hf.size, lg, ef, l, h.fr hf (fun b hb => hS b ((hF b).2 hb)), hF⟩
  ty := by
    rintro F w s b ⟨hb, lg, ef, l, h, hF⟩ hFb
    exact h.ty ((hF b).1 hFb)
  le := fun s c => askR_le _ _ _
  szs := fun s c => by
    have h1 := askE_le (kOf rl s.at') (s.eff.any (·.same c)) s.eff c
    have h2 : nOf rl s.at' ≤ s.at' + 1 := by unfold nOf; split <;> omega
    show max (max (s.log ++ [(c, askR (kOf rl s.at') (s.eff.any (·.same c)) c.back)]).length (askE (kOf rl s.at') (s.eff.any (·.same c)) s.eff c).length) (nOf rl s.at') ≤ max (max s.log.length s.eff.length) s.at' + 1
    rw [List.length_append, List.length_singleton]
    omega
  rep := by
    rintro F w s X J R clock pause c ⟨hb, lg, ef, l, h, hF⟩ hsz he
    have hsz' : max (max s.log.length s.eff.length) s.at' < 1000000 := hsz
    have hFX : ¬ F X := fun hX => by
      obtain ⟨c', t, hc, ht⟩ := h.ty ((hF X).1 hX)
      have := hc.symm.trans he
      simp at this
      rw [this.2] at ht
      revert ht
      unfold PT
      decide
    refine (reply_ask c he (F := F) (Q := fun k W => k = ((pAsk rl s c).1 : Nat) ∧ ∃ F', PrtI Pp b0 rl (pAsk rl s c).2 F' W ∧ ∀ b, F' b → F b ∨ w.heap.size + 2 ≤ b) (fun W hf hs2 => ?_) hFX (fun b hb => ?_) ?_).mono ?_
    · have hW : PrtAt W Pp b0 lg ef l s.log s.eff rl s.at' := h.fr hf (fun _ _ h => h)
      refine (H W lg ef l s.log s.eff s.at' c hW (Nat.le_trans hb hf.size) (by omega) (by omega) (by omega)).mono ?_
      rintro e w' ⟨rfl, ef', lg', hp', hfr, hl1, hl2⟩
      refine ⟨_, rfl, hfr.mono (fun b _ h => (hF b).2 h), rfl, PartF Pp lg' ef' l, ⟨Nat.le_trans (Nat.le_trans hb hf.size) hfr.size, lg', ef', l, hp', fun b => Iff.rfl⟩, ?_⟩
      rintro b (h | h | h | h)
      · exact .inl ((hF b).2 (.inl h))
      · exact (hl1 b h).imp (fun h => (hF b).2 h) (fun h => by omega)
      · exact (hl2 b h).imp (fun h => (hF b).2 h) (fun h => by omega)
      · exact .inl ((hF b).2 (.inr (.inr (.inr h))))
    · obtain ⟨c', t, hc, _⟩ := h.ty ((hF b).1 hb)
      exact lt_of_heap hc
    · rintro k W W' ⟨hk, F', ⟨hb', lg', ef', l', h', hF'⟩, hg⟩ hfW
      refine ⟨hk, F', ⟨Nat.le_trans hb' hfW.size, lg', ef', l', h'.fr hfW (fun b hb e => ?_), hF'⟩, hg⟩
      rcases hg b ((hF' b).2 hb) with h5 | h5
      · obtain ⟨c', t, hc, _⟩ := h.ty ((hF b).1 h5)
        have := lt_of_heap hc
        omega
      · omega
    · rintro e w' ⟨k, rfl, hfr, rfl, F', hP, hg⟩
      exact ⟨rfl, hfr, F', hP, fun b hb => (hg b hb).imp id (fun h => by omega)⟩
end
end Go.Proofs.YteebjgfalllbjaaGreatDoor
