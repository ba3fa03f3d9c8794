import Derived.Test.YteebjgfalllbjaaGreatDoorCYeKxYf
namespace Go.Proofs.YteebjgfalllbjaaGreatDoor
open Go.RowKit
section
variable {W w : World} {k X A B n1 n2 : Nat} {cv v : Value} {s : DS} {C F : Nat → Prop}
theorem recs1 (h1 : 1 ≤ n1) (h6 : n1 ≤ 6) : RecsOk [Rec.take 1 (kst 1 n1)] := (recsOk_snoc (rs := []) (r := Rec.take 1 (kst 1 n1))).2 ⟨recsOk_nil, kst_ok (id := 1) h1 h6 (k := 1) (by decide) (by decide), fun a ha => by cases ha⟩
theorem recs2 (h1 : 1 ≤ n1) (h6 : n1 ≤ 6) (g1 : 1 ≤ n2) (g6 : n2 ≤ 6) : RecsOk [Rec.take 1 (kst 1 n1), Rec.take 2 (kst 2 n2)] := (recsOk_snoc (rs := [Rec.take 1 (kst 1 n1)]) (r := Rec.take 2 (kst 2 n2))).2 ⟨recs1 h1 h6, kst_ok (id := 2) g1 g6 (k := 2) (by decide) (by decide), fun a ha => by
  obtain rfl := List.mem_singleton.1 ha
  show ¬ (1 : Int) = 2; decide⟩
theorem need12 : needC [Rec.take 1 (kst 1 n1)] = 2 * n1 ∧ needC [Rec.take 1 (kst 1 n1), Rec.take 2 (kst 2 n2)] = 2 * n1 + 2 * n2 := by
  have e1 : (Rec.take 1 (kst 1 n1)).need = 2 * n1 := by show 2 * (kst 1 n1).length = _; rw [kst_len]
  have e2 : (Rec.take 2 (kst 2 n2)).need = 2 * n2 := by show 2 * (kst 2 n2).length = _; rw [kst_len]
  exact ⟨by simp [needC, e1], by simp [needC, e1, e2]⟩
theorem TkC.open {Pp : Nat} (h : TkC W A B n1 n2 v w) (hG : GOk w) (h1 : 1 ≤ n1) (h6 : n1 ≤ 6) (g1 : 1 ≤ n2) (g6 : n2 ≤ 6) :
    Calls Tryz.prog 33 #[.pointer (some ⟨A, 0, none⟩), .int .i64 2, .pointer (some ⟨Pp, 0, none⟩)] w fun e w' => ∃ X F rs s, e = .returned (.tuple #[.pointer (some ⟨X, 0, none⟩), .nilIface]) ∧ EG w' 2 X A B 120 0 2 (askV Pp) (recL rs) rs s (fun _ => False) F ∧ s.d.good ∧ FU w' F ∧ (∀ b, F b → w.heap.size ≤ b) ∧ Fr (fun b => b = A) w w' ∧ (W.heap.size ≤ A ∧ W.heap.size ≤ B) ∧
      (rs = [Rec.take 1 (kst 1 n1)] ∨ rs = [Rec.take 1 (kst 1 n1), Rec.take 2 (kst 2 n2)]) ∧ ((v = .nilIface ∧ rs = [Rec.take 1 (kst 1 n1), Rec.take 2 (kst 2 n2)]) ∨ ∃ f, v = .iface 117 (.pointer (some ⟨f, 0, none⟩))) := by
  obtain ⟨s, rs, hD, hg, hrs, hJ, hA, hB, hv⟩ := h
  have hok : RecsOk rs ∧ needC rs ≤ 120 - 1 := by
    have e := need12 (n1 := n1) (n2 := n2)
    rcases hrs with rfl | rfl
    · exact ⟨recs1 h1 h6, by rw [e.1]; omega⟩
    · exact ⟨recs2 h1 h6 g1 g6, by rw [e.2]; omega⟩
  refine (hD.open (Pp := Pp) hJ.jd (by decide) 2 (by decide) (by decide) (by decide) (by decide) hok.1 hok.2 hg hG).mono ?_
  rintro e w' ⟨X, F, c, rfl, hE, hU, hFn, hf⟩
  exact ⟨X, F, rs, _, rfl, hE, hg.after c, hU, hFn, hf, ⟨hA, hB⟩, hrs, hv⟩
/-- Submit of the second saga again. -/
theorem EG.third {rs : List Rec} (h : EG w k X A B 120 0 2 cv (recL rs) rs s C F) (hrs : rs = [Rec.take 1 (kst 1 n1)] ∨ rs = [Rec.take 1 (kst 1 n1), Rec.take 2 (kst 2 n2)]) (hg : s.d.good) (hk : k < 50000) (hG : GOk w) (h6' : n1 ≤ 6) (h1 : 1 ≤ n2) (h6 : n2 ≤ 6) {g cap : Nat} (hrows : RowsOf w (some ⟨g, 0, none⟩) 2 ((kst 2 n2).map stv)) :
    Calls Tryz.prog 21 #[.pointer (some ⟨X, 0, none⟩), .int .i64 2, .slice (some ⟨g, 0, none⟩) n2 cap] w fun e w' => e = .returned .nilIface ∧ ∃ rs' s' C' F', EG w' (k + 1) X A B 120 0 2 cv [newA 1 (kst 1 n1), newA 2 (kst 2 n2)] rs' s' C' F' ∧ s'.d.good ∧ needC rs' ≤ 50 ∧ (∀ b, C' b → C b ∨ w.heap.size ≤ b) ∧ (∀ b, F' b → F b ∨ w.heap.size ≤ b) ∧ Fr (fun b => b = A ∨ b = B ∨ C b ∨ F b) w w' := by
  have hok := kst_ok (id := 2) h1 h6 (k := 2) (by decide) (by decide)
  have hl : rs.length + 1 < 100 := by rcases hrs with rfl | rfl <;> simp
  have HS := h.sub (by omega) (fun _ => itH_small hl) hG 2 (kst 2 n2) cap hrows (fun _ => ⟨g, rfl⟩)
  rw [kst_len] at HS
  have e12 := need12 (n1 := n1) (n2 := n2)
  refine HS.mono ?_
  rintro e w' ⟨v, s', C', F', rfl, hC', hF', hM, hf, ⟨kk, L', rs', hv, hS, hU, hE, hJ⟩ | hF⟩
  · obtain ⟨rfl, rfl, hnd⟩ : kk = 0 ∧ L' = [newA 1 (kst 1 n1), newA 2 (kst 2 n2)] ∧ needC rs' ≤ 50 := by
      rcases hrs with rfl | rfl
      · rcases hS with ⟨h, _⟩ | ⟨_, a, ha, hid, _⟩ | ⟨_, _, ⟨h1, h2, h3⟩ | ⟨_, h, _⟩⟩
        · rw [hok] at h; cases h
        · obtain rfl := List.mem_singleton.1 ha
          exact absurd hid (by show ¬ (1 : Int) = 2; decide)
        · refine ⟨h1, h2, ?_⟩
          have e : rs' = [Rec.take 1 (kst 1 n1), Rec.take 2 (kst 2 n2)] := h3
          rw [e, e12.2]; omega
        · have e : ((newA 1 (kst 1 n1)).st.length) = n1 := kst_len _ _
          have h : 120 < 1 + ([newA 1 (kst 1 n1)].map fun a => 2 * a.st.length).sum + 2 * (kst 2 n2).length := h
          simp [kst_len, e] at h; omega
      · rcases hS with ⟨h, _⟩ | ⟨_, a, ha, hid, hk, h2, h3⟩ | ⟨_, hn, _⟩
        · rw [hok] at h; cases h
        · have ha : a ∈ [newA 1 (kst 1 n1), newA 2 (kst 2 n2)] := ha
          rcases List.mem_cons.1 ha with rfl | ha
          · exact absurd hid (by show ¬ (1 : Int) = 2; decide)
          · obtain rfl := List.mem_singleton.1 ha
            have e : (newA 2 (kst 2 n2)).st = kst 2 n2 := rfl
            rw [if_pos e] at hk
            exact ⟨hk, h2, by rw [h3, e12.2]; omega⟩
        · exact absurd rfl (hn (newA 2 (kst 2 n2)) (by show _ ∈ [newA 1 (kst 1 n1), newA 2 (kst 2 n2)]; simp))
    obtain rfl := err0 hv
    exact ⟨rfl, rs', s', C', F', hE, hM.good hg, hnd, hC', hF', hf⟩
  · exact absurd hg hF.2.1
end
end Go.Proofs.YteebjgfalllbjaaGreatDoor
namespace Go.Proofs.YteebjgfalllbjaaGreatDoor
open Go.RowKit
section
variable {w wr : World} {k Pp b0 X A B n1 n2 t : Nat} {ps : PSt}
theorem EG.mono {k' n : Nat} {clock pause : Int} {cv : Value} {L : List AS} {rs : List Rec} {s : DS} {C F : Nat → Prop} (h : EG w k X A B n clock pause cv L rs s C F) (hk : k ≤ k') : EG w k' X A B n clock pause cv L rs s C F := ⟨h.1, h.2.1.mono hk, h.2.2⟩
theorem TakI.zero {rs : List Rec} {s : DS} {C F : Nat → Prop} {lv : Value} (hE : EG wr 3 X A B 120 0 2 (askV Pp) [newA 1 (kst 1 n1), newA 2 (kst 2 n2)] rs s C F) (hg : s.d.good) (hnd : needC rs ≤ 50) (x1 : 1 ≤ n1) (y1 : 1 ≤ n2) (hF : ∀ b, F b → w.heap.size ≤ b) (hC : ∀ b, C b → w.heap.size ≤ b) (hA : w.heap.size ≤ A) (hB : w.heap.size ≤ B) (hf : Fr (fun _ => False) w wr)
    (hp : PrtAt wr Pp w.heap.size (.slice none 0 0) (.slice none 0 0) lv [] [] [] 0) (hPp : w.heap.size ≤ Pp) (hlv : ∀ b, lv.ownBlock = some b → w.heap.size ≤ b) : TakI w Pp w.heap.size X A B n1 n2 0 ⟨[], [], 0⟩ wr := by
  have e1 : stA 1 (kst 1 n1) 0 = newA 1 (kst 1 n1) := stA_zero (by rw [kst_len]; exact x1)
  have e2 : stA 2 (kst 2 n2) 0 = newA 2 (kst 2 n2) := stA_zero (by rw [kst_len]; exact y1)
  refine ⟨⟨rs, s, C, F, by rw [e1, e2]; exact hE.mono (by decide), hg, hnd, fun b hb => hb.elim (hF b) (hC b)⟩, ⟨_, ⟨hf.size, _, _, _, hp, fun _ => Iff.rfl⟩, fun b hb => ?_⟩, ⟨hA, hB⟩, hf, fun a ha => ?_, by show max (max 0 0) 0 ≤ _; decide⟩
  · rcases hb with h | h | h | h
    · omega
    · cases h
    · cases h
    · exact hlv b h
  · rw [e1, e2] at ha
    refine ⟨false, .inl ?_⟩
    rcases List.mem_cons.1 ha with rfl | ha
    · exact ⟨rfl, rfl, 0, rfl, by show 0 + 1 ≤ (kst 1 n1).length; rw [kst_len]; exact x1, .inl rfl⟩
    · obtain rfl := List.mem_singleton.1 ha
      exact ⟨rfl, rfl, 0, rfl, by show 0 + 1 ≤ (kst 2 n2).length; rw [kst_len]; exact y1, .inl rfl⟩
theorem TakI.done {w2 : World} {s : ST} {v : Value} (y6 : n2 ≤ 6) (h : (∃ a ∈ [stA 1 (kst 1 n1) 6, stA 2 (kst 2 n2) 6], a.id = 2 ∧ s = a.told ∧ ErrAt w2 v 0) ∨ ((∀ a ∈ [stA 1 (kst 1 n1) 6, stA 2 (kst 2 n2) 6], a.id ≠ 2) ∧ s = zST ∧ ErrAt w2 v 9)) : s = ⟨2, 3, 0, n2, 0, 0⟩ ∧ v = .nilIface := by
  have e2 : stA 2 (kst 2 n2) 6 = ⟨2, kst 2 n2, (3, 0), 0, 0⟩ := by unfold stA; rw [if_neg (by rw [kst_len]; omega)]
  rcases h with ⟨a, ha, hid, rfl, hv⟩ | ⟨h, _⟩
  · rcases List.mem_cons.1 ha with rfl | ha
    · rw [(stA_id 1 _ 6).1] at hid; exact absurd hid (by decide)
    · obtain rfl := List.mem_singleton.1 ha
      rw [e2]
      exact ⟨by simp [AS.told, kst_len], err0 hv⟩
  · exact absurd (stA_id 2 _ 6).1 (h (stA 2 (kst 2 n2) 6) (by simp))
theorem TakI.shape (h : TakI w Pp b0 X A B n1 n2 t ps wr) : ∃ kk jj, Shape (mine 2 ps.eff) n2 kk jj := by
  obtain ⟨nv, he⟩ := h.eff (stA 2 (kst 2 n2) t) (by simp)
  obtain ⟨kk, jj, hs, _⟩ := he.shape
  rw [(stA_id 2 _ t).1, (stA_id 2 _ t).2, kst_len] at hs
  exact ⟨kk, jj, hs⟩
theorem TakI.effl (h : TakI w Pp b0 X A B n1 n2 t ps wr) : ps.eff.length ≤ 2 * t := by
  have := h.sz
  have h2 : max (max ps.log.length ps.eff.length) ps.at' ≤ 2 * t := this
  omega
end
end Go.Proofs.YteebjgfalllbjaaGreatDoor
namespace Go.Proofs.YteebjgfalllbjaaGreatDoor
open Go.RowKit
theorem own_ints {W : World} {b0 : Nat} {ao : Option Addr} {n cap : Nat} {zs : List Int} (h : W.ownsRow b0 3 1 (.slice ao n cap) n (intC zs)) : IntsAt W ao zs := by
  intro i z hz
  have hi := (List.getElem?_eq_some_iff.1 hz).1
  have hlen := h.1
  have hl : (intC zs).length = zs.length := by simp [intC]
  rcases h.2 with ⟨hv, hn⟩ | ⟨g, cap', cur, hv, _, hg, _, _, _, hx⟩
  · rw [hl, hn] at hlen; omega
  · cases hv
    refine ⟨g, 0, rfl, ?_⟩
    refine (cell_of_row W g _ _ _ _ hg).trans ?_
    have h1 : (intC zs)[i]? = some (.int .i64 z) := by simp [intC, hz]
    rw [← hx, List.getElem?_take] at h1
    split at h1
    · rw [Nat.zero_add]; simpa using h1
    · cases h1
theorem IntsAt.frz {w w' : World} {la : Option Addr} {zs : List Int} (h : IntsAt w la zs) (hf : Fr (fun _ => False) w w') : IntsAt w' la zs := fun i z hz => by
  obtain ⟨g, off, h1, h2⟩ := h i z hz
  exact ⟨g, off, h1, hf.cell h2 (fun h => h)⟩
set_option maxRecDepth 100000 in
set_option maxHeartbeats 4000000 in
theorem taken_ok (w : World) {la : Option Addr} {zs : List Int} (cap : Nat) (hl : IntsAt w la zs) (c a0 : Int) (hc : I64 c) (ha0 : I64 a0) (hG : GOk w) :
    Calls Tryz.prog 12 #[.int .i64 c, .int .i64 a0, .slice la zs.length cap] w fun e w' => e = .returned (.bool true) ∧ Fr (fun _ => False) w w' := by
  have HL : Hid (IntsAt w la zs) := hl
  obtain ⟨hc1, hc2⟩ := hc
  obtain ⟨ha1, ha2⟩ := ha0
  obtain ⟨n1, hn1⟩ : ∃ n1, n1 = kmn c 1 := ⟨_, rfl⟩
  obtain ⟨n2, hn2⟩ : ∃ n2, n2 = kmn c 2 := ⟨_, rfl⟩
  obtain ⟨x1, x6⟩ := kmn_in c 1
  obtain ⟨y1, y6⟩ := kmn_in c 2
  rw [← hn1] at x1 x6
  rw [← hn2] at y1 y6
  obtain ⟨pk, hpk⟩ : ∃ pk, pk = kpk a0 12 := ⟨_, rfl⟩
  obtain ⟨pk0, pk1⟩ := kpk_in a0 12 (by decide)
  rw [← hpk] at pk0 pk1
  have hGl : 0 < w.heap.size := World.block_lt_of_cell? w _ hG
  have HM1 := fun W => kMany_ok c 1 W hc1 hc2 (by decide) (by decide)
  have HM2 := fun W => kMany_ok c 2 W hc1 hc2 (by decide) (by decide)
  have HP := fun W => kPick_ok a0 12 W ha1 ha2 (by decide) (by decide)
  rw [← hn1] at HM1
  rw [← hn2] at HM2
  rw [← hpk] at HP
  clear hn1 hn2 hpk hl
  go_enter Tryz.func12, Tryz.ntmps12
  go_wp2_with fail
  refine (NewPartner_rows (rl := []) (World.ownsRow_nil w 0 _ _) (by decide)).mono ?_
  rintro e w1 ⟨Pp, lv, rfl, hPp, hpr, hlv, hf1⟩
  go_wp2_with fail
  refine (kBegun_ok w1 120 Pp 2 (by decide) (by decide) (by decide) (by decide)).mono ?_
  rintro e w2 ⟨X, A, B, F, rfl, hE2, hU2, hFn2, hA2, hB2, hf2⟩
  have hs1 := hf1.size
  have hs2 := hf2.size
  obtain ⟨s2, hE2', hg2, _, _⟩ := hE2.eg w1.heap.size (by omega) hA2 hB2 hFn2
  have hF2 : Fr (fun _ => False) w w2 := hf1.trans hf2 (fun _ _ h => h)
  have hpr2 := hpr.fr hf2 (fun _ _ h => h)
  have hpl : ∀ b, PartF Pp (.slice none 0 0) (.slice none 0 0) lv b → b < w1.heap.size := fun b hb => by obtain ⟨c, t, hc, _⟩ := hpr.ty hb; exact lt_of_heap hc
  clear hE2 hf1 hf2 hpr
  go_wp2_with fail
  refine (HM1 w2).mono ?_
  rintro e w2' ⟨rfl, e2⟩
  rw [e2]
  clear e2 w2'
  go_wp2_with fail
  refine (kSteps_ok w2 1 n1 (by decide) (by omega)).mono ?_
  rintro e w3 ⟨ao3, cap3, rfl, hks3⟩
  obtain ⟨g3, rfl⟩ := own_someS hks3.2 x1
  have hE3 := hE2'.fr hks3.1 id id (fun _ h => h.elim) (fun _ _ => id)
  have hU3 : FU w3 F := fun b hb => by obtain ⟨c, t, hc, ht⟩ := hU2 b hb; exact ⟨c, t, hks3.1.keep hc id, ht⟩
  have hpr3 := hpr2.fr hks3.1 (fun _ _ h => h)
  have hF3 := hF2.trans hks3.1 (fun _ _ h => h)
  have hrows3 := own_rowsS hks3.2
  have hs3 := hks3.1.size
  clear hks3 hE2' hU2 hpr2 hF2
  have HS1 := hE3.first (cap := cap3) hg2 (by decide) (hG.fr hF3 (fun h => h)) x1 x6 hrows3
  go_wp2_with fail
  refine HS1.mono ?_
  rintro e w4 ⟨rfl, s4, C4, F4, hE4, hJ4, hU4, hC4, hF4, hf4⟩
  have hC4' : ∀ b, C4 b → w1.heap.size ≤ b := fun b hb => (hC4 b hb).elim (fun h => h.elim) (fun h => by omega)
  have hF4' : ∀ b, F4 b → w1.heap.size ≤ b := fun b hb => (hF4 b hb).elim (hFn2 b) (fun h => by omega)
  have hfw : ∀ {wa wb : World} {C F : Nat → Prop}, Fr (fun b => b = A ∨ b = B ∨ C b ∨ F b) wa wb → (∀ b, C b → w1.heap.size ≤ b) → (∀ b, F b → w1.heap.size ≤ b) → Fr (fun b => w1.heap.size ≤ b) wa wb := fun h h1 h2 => h.mono (fun b _ hb => by
    rcases hb with hb | hb | hb | hb
    · omega
    · omega
    · exact h1 b hb
    · exact h2 b hb)
  have hf4' := hfw hf4 (fun _ h => h.elim) hFn2
  have hF4w : Fr (fun _ => False) w w4 := hF3.trans hf4' (fun b hb h => by omega)
  have hpr4 := hpr3.fr hf4' (fun b hb h => by have := hpl b hb; omega)
  have hs4 := hf4.size
  clear HS1 hE3 hU3 hpr3 hF3 hrows3 hf4 hf4' hC4 hF4
  go_wp2_with fail
  refine (HP w4).mono ?_
  rintro e w4' ⟨rfl, e4⟩
  rw [e4]
  clear e4 w4'
  have HOF := hE4.off (by decide) pk pk0 (by omega)
  go_wp2_with fail
  refine HOF.mono ?_
  rintro e w5 ⟨rfl, hE5, hf5⟩
  have hJ5 : JZ 120 ⟨{ s4.d with off := s4.d.calls + pk }, s4.ents, s4.bs⟩ ([Rec.take 1 (kst 1 n1)].map Rec.bytes) := hJ4.keep rfl rfl rfl
  have hF5w : Fr (fun _ => False) w w5 := hF4w.trans hf5 (fun b hb h => by omega)
  have hpr5 := hpr4.fr hf5 (fun b hb h => by have := hpl b hb; omega)
  have hs5 := hf5.size
  clear HOF hE4 hJ4 hF4w hf5 hpr4 hU4
  go_wp2_with fail
  refine (HM2 w5).mono ?_
  rintro e w5' ⟨rfl, e5⟩
  rw [e5]
  clear e5 w5'
  go_wp2_with fail
  refine (kSteps_ok w5 2 n2 (by decide) (by omega)).mono ?_
  rintro e w6 ⟨ao6, cap6, rfl, hks6⟩
  obtain ⟨g6, rfl⟩ := own_someS hks6.2 y1
  have hE6 := hE5.fr hks6.1 id id (fun _ _ => id) (fun _ _ => id)
  have hpr6 := hpr5.fr hks6.1 (fun _ _ h => h)
  have hF6w := hF5w.trans hks6.1 (fun _ _ h => h)
  have hrows6 := own_rowsS hks6.2
  have hs6 := hks6.1.size
  clear hks6 hE5 hpr5 hF5w
  have HS2 := hE6.second (W := w1) (cap := cap6) hJ5 (by decide) (hG.fr hF6w (fun h => h)) x6 y1 y6 hC4' (by omega) hrows6
  go_wp2_with fail
  refine HS2.mono ?_
  rintro e w7 ⟨v7, rfl, hT7, hf7⟩
  have hf7' := hfw hf7 hC4' hF4'
  have hF7w : Fr (fun _ => False) w w7 := hF6w.trans hf7' (fun b hb h => by omega)
  have hpr7 := hpr6.fr hf7' (fun b hb h => by have := hpl b hb; omega)
  have hs7 := hf7.size
  clear HS2 hE6 hJ5 hpr6 hF6w hf7 hf7' hrows6
  have HFE := kFew_ok w7 cap (HL.out.frz hF7w) 40 (by decide)
  go_wp2_with fail
  refine HFE.mono ?_
  rintro e w8 ⟨ao8, cap8, rfl, hf8, hown8⟩
  have hin8 := own_ints hown8
  have el8 : (zs.take (min 40 zs.length)).length = min 40 zs.length := by rw [List.length_take]; omega
  have hs8 := hf8.size
  have hpr8 := hpr7.fr hf8 (fun _ _ h => h)
  have hF8w := hF7w.trans hf8 (fun _ _ h => h)
  have hT8 : TkS w1 A B n1 n2 v7 w8 := by
    obtain ⟨k, s, C, rs, h1, h2, h3⟩ := hT7
    exact ⟨k, s, C, rs, h1, h2.fr hf8 (fun h => h) (fun h => h) (fun _ _ h => h), h3⟩
  have HCT := hT8.cut (kc := cap8) (by omega) hin8 (by omega)
  rw [el8] at HCT
  clear HFE hown8 hT7 hpr7 hF7w hf8 hT8 hin8 el8
  go_wp2_with fail
  refine HCT.mono ?_
  rintro e w9 ⟨A9, B9, rfl, hT9, hA9, hB9, hf9⟩
  have hs9 := hf9.size
  have hpr9 := hpr8.fr hf9 (fun _ _ h => h)
  have hF9w := hF8w.trans hf9 (fun _ _ h => h)
  have HOP := hT9.open (Pp := Pp) (hG.fr hF9w (fun h => h)) x1 x6 y1 y6
  clear HCT hpr8 hF8w hf9
  go_wp2_with fail
  refine HOP.mono ?_
  rintro e w10 ⟨Y, F10, rs, s10, rfl, hE10, hg10, hU10, hFn10, hf10, hAB10, hrs, hv7⟩
  have hf10' : Fr (fun b => w1.heap.size ≤ b) w9 w10 := hf10.mono (fun b _ h => by omega)
  have hF10w : Fr (fun _ => False) w w10 := hF9w.trans hf10' (fun b hb h => by omega)
  have hpr10 := hpr9.fr hf10' (fun b hb h => by have := hpl b hb; omega)
  have hs10 := hf10.size
  have hFn10' : ∀ b, F10 b → w1.heap.size ≤ b := fun b hb => by have := hFn10 b hb; omega
  have hab : w1.heap.size ≤ A9 ∧ w1.heap.size ≤ B9 := ⟨by omega, by omega⟩
  clear HOP hT9 hpr9 hF9w hf10 hf10' hFn10 hAB10 hU10
  have HALL := hE10.all 10
  rcases hrs with rfl | rfl
  · rcases hv7 with ⟨_, h⟩ | ⟨f7, rfl⟩
    · simp at h
    go_wp2_with fail
    refine HALL.mono ?_
    rintro e w11 ⟨ao11, cap11, rfl, hr11, hf11⟩
    have hl0 : ((((recL [Rec.take 1 (kst 1 n1)]).take (10 : Int).toNat).map AS.told)) = [⟨1, 1, 1, n1, 0, 0⟩] := by
      show [AS.told (newA 1 (kst 1 n1))] = _
      simp [AS.told, newA, kst_len]
    rw [hl0] at hr11 ⊢
    obtain ⟨g11, o11, rfl, hrow⟩ := hr11 0 _ rfl
    have z0 := hrow 0 _ rfl
    have z1 := hrow 1 _ rfl
    have z2 := hrow 2 _ rfl
    simp only [Nat.zero_mul, Nat.add_zero] at z0 z1 z2
    go_wp2_with fail
    have hlift : Tryz.prog.follows .mixedOrders = true := by kernel_rfl
    obtain ⟨W15, HW15⟩ : ∃ W15, Hid (W15 = w11.drew) := ⟨_, rfl⟩
    have hf15 : Fr (fun _ => False) w11 W15 := by rw [HW15.out]; exact (Fr.refl _ _).drew
    let S : World → Prop := fun _ => True
    have hS : S W15 := trivial
    refine wp_region_held (S := S) hlift ?_
    change wpAnyH _ _ _ _ S _ _ _ (World.drew _)
    rw [← HW15.out]
    clear HW15
    refine tkE (S := S) (i := 0) (oi := ⟨some 103, .move (.tmp 15), _, _, _, none⟩) (v := .slice (some ⟨g11, o11, none⟩) 1 cap11) rfl hS ?_
    simp only [Act.put, lsE, lsZ, lsS]
    refine tkE (S := S) (i := 1) (oi := ⟨some 104, .call { callee := .builtin .len, args := #[(.tmp 103)], argTypes := _ }, _, _, _, none⟩) (v := .int .i64 1) rfl hS ?_
    simp only [Act.put, lsE, lsZ, lsS]
    refine tkE (S := S) (i := 2) (oi := ⟨some 105, .binOp .eql 3 (.tmp 104) (.const (.int .i64 2)) 3, _, _, _, none⟩) (v := .bool false) rfl hS ?_
    simp only [Act.put, lsE, lsZ, lsS]
    refine tkE (S := S) (i := 3) (oi := ⟨some 106, .move (.tmp 105), _, _, _, none⟩) (v := .bool false) rfl hS ?_
    simp only [Act.put, lsE, lsZ, lsS]
    refine tkY (S := S) (i := 4) (oi := ⟨some 107, .move (.tmp 15), _, _, _, some (3, true)⟩) (v := undef) rfl (Or.inr ⟨rfl, rfl⟩) hS ?_
    simp only [Act.put, lsE, lsZ, lsS]
    refine tkY (S := S) (i := 5) (oi := ⟨some 108, .indexAddr 69 (.tmp 107) (.const (.int .i64 1)), _, _, _, some (3, true)⟩) (v := undef) rfl (Or.inr ⟨rfl, rfl⟩) hS ?_
    simp only [Act.put, lsE, lsZ, lsS]
    refine tkY (S := S) (i := 6) (oi := ⟨some 109, .fieldAddr 42 (.tmp 108) 0, _, _, _, some (3, true)⟩) (v := undef) rfl (Or.inr ⟨rfl, rfl⟩) hS ?_
    simp only [Act.put, lsE, lsZ, lsS]
    refine tkY (S := S) (i := 7) (oi := ⟨some 110, .load 3 (.tmp 109), _, _, _, some (3, true)⟩) (v := undef) rfl (Or.inr ⟨rfl, rfl⟩) hS ?_
    simp only [Act.put, lsE, lsZ, lsS]
    refine tkY (S := S) (i := 8) (oi := ⟨some 111, .binOp .neq 3 (.tmp 110) (.const (.int .i64 2)) 3, _, _, _, some (3, true)⟩) (v := undef) rfl (Or.inr ⟨rfl, rfl⟩) hS ?_
    simp only [Act.put, lsE, lsZ, lsS]
    refine tkY (S := S) (i := 9) (oi := ⟨some 112, .move (.tmp 111), _, _, _, some (3, true)⟩) (v := undef) rfl (Or.inr ⟨rfl, rfl⟩) hS ?_
    simp only [Act.put, lsE, lsZ, lsS]
    refine tkY (S := S) (i := 10) (oi := ⟨some 113, .move (.tmp 15), _, _, _, some (9, false)⟩) (v := undef) rfl (Or.inr ⟨rfl, rfl⟩) hS ?_
    simp only [Act.put, lsE, lsZ, lsS]
    refine tkY (S := S) (i := 11) (oi := ⟨some 114, .indexAddr 69 (.tmp 113) (.const (.int .i64 1)), _, _, _, some (9, false)⟩) (v := undef) rfl (Or.inr ⟨rfl, rfl⟩) hS ?_
    simp only [Act.put, lsE, lsZ, lsS]
    refine tkY (S := S) (i := 12) (oi := ⟨some 115, .fieldAddr 42 (.tmp 114) 1, _, _, _, some (9, false)⟩) (v := undef) rfl (Or.inr ⟨rfl, rfl⟩) hS ?_
    simp only [Act.put, lsE, lsZ, lsS]
    refine tkY (S := S) (i := 13) (oi := ⟨some 116, .load 3 (.tmp 115), _, _, _, some (9, false)⟩) (v := undef) rfl (Or.inr ⟨rfl, rfl⟩) hS ?_
    simp only [Act.put, lsE, lsZ, lsS]
    refine tkY (S := S) (i := 14) (oi := ⟨some 117, .binOp .neq 3 (.tmp 116) (.const (.int .i64 1)) 3, _, _, _, some (9, false)⟩) (v := undef) rfl (Or.inr ⟨rfl, rfl⟩) hS ?_
    simp only [Act.put, lsE, lsZ, lsS]
    refine tkY (S := S) (i := 15) (oi := ⟨some 118, .pick (.tmp 112) (.const (.bool true)) (.tmp 117), _, _, _, some (3, true)⟩) (v := undef) rfl (Or.inr ⟨rfl, rfl⟩) hS ?_
    simp only [Act.put, lsE, lsZ, lsS]
    refine tkY (S := S) (i := 16) (oi := ⟨some 119, .move (.tmp 118), _, _, _, some (3, true)⟩) (v := undef) rfl (Or.inr ⟨rfl, rfl⟩) hS ?_
    simp only [Act.put, lsE, lsZ, lsS]
    refine tkY (S := S) (i := 17) (oi := ⟨some 120, .move (.tmp 15), _, _, _, some (16, false)⟩) (v := undef) rfl (Or.inr ⟨rfl, rfl⟩) hS ?_
    simp only [Act.put, lsE, lsZ, lsS]
    refine tkY (S := S) (i := 18) (oi := ⟨some 121, .indexAddr 69 (.tmp 120) (.const (.int .i64 1)), _, _, _, some (16, false)⟩) (v := undef) rfl (Or.inr ⟨rfl, rfl⟩) hS ?_
    simp only [Act.put, lsE, lsZ, lsS]
    refine tkY (S := S) (i := 19) (oi := ⟨some 122, .fieldAddr 42 (.tmp 121) 2, _, _, _, some (16, false)⟩) (v := undef) rfl (Or.inr ⟨rfl, rfl⟩) hS ?_
    simp only [Act.put, lsE, lsZ, lsS]
    refine tkY (S := S) (i := 20) (oi := ⟨some 123, .load 3 (.tmp 122), _, _, _, some (16, false)⟩) (v := undef) rfl (Or.inr ⟨rfl, rfl⟩) hS ?_
    simp only [Act.put, lsE, lsZ, lsS]
    refine tkY (S := S) (i := 21) (oi := ⟨some 124, .binOp .neq 3 (.tmp 123) (.const (.int .i64 1)) 3, _, _, _, some (16, false)⟩) (v := undef) rfl (Or.inr ⟨rfl, rfl⟩) hS ?_
    simp only [Act.put, lsE, lsZ, lsS]
    refine tkY (S := S) (i := 22) (oi := ⟨some 125, .pick (.tmp 119) (.const (.bool true)) (.tmp 124), _, _, _, some (3, true)⟩) (v := undef) rfl (Or.inr ⟨rfl, rfl⟩) hS ?_
    simp only [Act.put, lsE, lsZ, lsS]
    refine tkY (S := S) (i := 23) (oi := ⟨some 126, .move (.tmp 125), _, _, _, some (3, true)⟩) (v := undef) rfl (Or.inr ⟨rfl, rfl⟩) hS ?_
    simp only [Act.put, lsE, lsZ, lsS]
    refine tkY (S := S) (i := 24) (oi := ⟨some 127, .move (.tmp 15), _, _, _, some (23, false)⟩) (v := undef) rfl (Or.inr ⟨rfl, rfl⟩) hS ?_
    simp only [Act.put, lsE, lsZ, lsS]
    refine tkY (S := S) (i := 25) (oi := ⟨some 128, .indexAddr 69 (.tmp 127) (.const (.int .i64 1)), _, _, _, some (23, false)⟩) (v := undef) rfl (Or.inr ⟨rfl, rfl⟩) hS ?_
    simp only [Act.put, lsE, lsZ, lsS]
    refine tkY (S := S) (i := 26) (oi := ⟨some 129, .fieldAddr 42 (.tmp 128) 3, _, _, _, some (23, false)⟩) (v := undef) rfl (Or.inr ⟨rfl, rfl⟩) hS ?_
    simp only [Act.put, lsE, lsZ, lsS]
    refine tkY (S := S) (i := 27) (oi := ⟨some 130, .load 3 (.tmp 129), _, _, _, some (23, false)⟩) (v := undef) rfl (Or.inr ⟨rfl, rfl⟩) hS ?_
    simp only [Act.put, lsE, lsZ, lsS]
    refine tkY (S := S) (i := 28) (oi := ⟨some 131, .move (.tmp 0), _, _, _, some (23, false)⟩) (v := undef) rfl (Or.inr ⟨rfl, rfl⟩) hS ?_
    simp only [Act.put, lsE, lsZ, lsS]
    refine tkY (S := S) (i := 29) (oi := ⟨some 132, .call { callee := .value (.func 27), args := #[(.tmp 131), (.const (.int .i64 2))], argTypes := _ }, _, _, _, some (23, false)⟩) (v := undef) rfl (Or.inr ⟨rfl, rfl⟩) hS ?_
    simp only [Act.put, lsE, lsZ, lsS]
    refine tkY (S := S) (i := 30) (oi := ⟨some 133, .binOp .neq 3 (.tmp 130) (.tmp 132) 3, _, _, _, some (23, false)⟩) (v := undef) rfl (Or.inr ⟨rfl, rfl⟩) hS ?_
    simp only [Act.put, lsE, lsZ, lsS]
    refine tkY (S := S) (i := 31) (oi := ⟨some 134, .pick (.tmp 126) (.const (.bool true)) (.tmp 133), _, _, _, some (3, true)⟩) (v := undef) rfl (Or.inr ⟨rfl, rfl⟩) hS ?_
    simp only [Act.put, lsE, lsZ, lsS]
    refine tkE (S := S) (i := 32) (oi := ⟨some 135, .pick (.tmp 106) (.tmp 134) (.const (.bool false)), _, _, _, none⟩) (v := .bool false) rfl hS ?_
    simp only [Act.put, lsE, lsZ, lsS]
    refine wpAnyH_done (by kernel_rfl) ?_ _
    have hfx : Fr (fun _ => False) w10 W15 := hf11.trans hf15 (fun _ _ h => h)
    have hE15 := hE10.fr hfx id id (fun _ h => h.elim) (fun _ _ => id)
    have hpr15 := hpr10.fr hfx (fun _ _ h => h)
    have hF15w := hF10w.trans hfx (fun _ _ h => h)
    have hs15 := hfx.size
    clear HALL hE10 hpr10 hF10w hf11 hf15 hfx hr11 hrow z0 z1 z2 hl0 hS
    go_wp2_with fail
    refine (HM2 W15).mono ?_
    rintro e wq ⟨rfl, eq⟩
    rw [eq]
    clear eq wq
    go_wp2_with fail
    refine (kSteps_ok W15 2 n2 (by decide) (by omega)).mono ?_
    rintro e w16 ⟨ao16, cap16, rfl, hks16⟩
    obtain ⟨g16, rfl⟩ := own_someS hks16.2 y1
    have hE16 := hE15.fr hks16.1 id id (fun _ h => h.elim) (fun _ _ => id)
    have hpr16 := hpr15.fr hks16.1 (fun _ _ h => h)
    have hF16w := hF15w.trans hks16.1 (fun _ _ h => h)
    have hrows16 := own_rowsS hks16.2
    have hs16 := hks16.1.size
    clear hks16 hE15 hpr15 hF15w
    have HS3 := hE16.third (n1 := n1) (n2 := n2) (cap := cap16) (.inl rfl) hg10 (by decide) (hG.fr hF16w (fun h => h)) x6 y1 y6 hrows16
    go_wp2_with fail
    refine HS3.mono ?_
    rintro e w17 ⟨rfl, rs17, s17, C17, F17, hE17, hg17, hnd17, hC17, hF17, hf17⟩
    have HI0 : Hid (TakI w Pp w.heap.size Y A9 B9 n1 n2 0 ⟨[], [], 0⟩ w17) := TakI.zero hE17 hg17 hnd17 x1 y1 (fun b hb => (hF17 b hb).elim (fun h => by have := hFn10' b h; omega) (fun h => by omega)) (fun b hb => (hC17 b hb).elim (fun h => h.elim) (fun h => by omega)) (by omega) (by omega) (hF16w.trans hf17 (fun b hb h => by
        rcases h with h | h | h | h
        · omega
        · omega
        · exact h.elim
        · have := hFn10' b h; omega)) (hpr16.fr hf17 (fun b hb h => by
        have h1 := hpl b hb
        rcases h with h | h | h | h
        · omega
        · omega
        · exact h.elim
        · have := hFn10' b h; omega)) hPp hlv
    clear HS3 hE16 hpr16 hF16w hrows16 hE17 hf17
    go_wp2
    go_loopw [17] (fun tv wr => ∃ (t : Nat) (ps : PSt), t ≤ 6 ∧ tv = .int .i64 t ∧ Hid (TakI w Pp w.heap.size Y A9 B9 n1 n2 t ps wr)) (fun tv _ => 6 - (intOf tv).toNat)
    case atStart => exact ⟨0, _, Nat.zero_le _, rfl, HI0⟩
    case round =>
      obtain ⟨t, ps, ht, rfl, HI⟩ := hrel
      by_cases hlt : t < 6
      · have hlt' : (t : Int) < 6 := by omega
        have HTK := HI.out.tick (by omega) hG
        clear HI
        go_wp2_with fail
        refine HTK.mono ?_
        rintro e wt ⟨rfl, ps', hI'⟩
        have HI' : Hid (TakI w Pp w.heap.size Y A9 B9 n1 n2 (t + 1) ps' wt) := hI'
        clear HTK hI'
        go_wp2
        go_roundw
        case rel => exact ⟨t + 1, ps', by omega, by go_num, HI'⟩
        case measure => simp [intOf]; omega
      · obtain rfl : t = 6 := by omega
        obtain ⟨rs8, s8, C8, F8, hE8, _⟩ := HI.out.e
        have hst := hE8.sta 2
        go_wp2_with fail
        refine hst.mono ?_
        rintro e w18 ⟨s18, v18, rfl, hf18, hc18⟩
        obtain ⟨rfl, hv18⟩ : s18 = ⟨2, 3, 0, n2, 0, 0⟩ ∧ v18 = .nilIface := TakI.done y6 hc18
        subst hv18
        obtain ⟨F0, ⟨_, lg, ef, l, hpa, _⟩, _⟩ := HI.out.p
        have hfa : Fr (fun _ => False) w18 (w18.alloc (.cells #[.int .i64 2, .int .i64 3, .int .i64 0, .int .i64 n2, .int .i64 0, .int .i64 0] 42)) := (Fr.refl _ _).alloc _
        have hbx := heap_alloc_at w18 (.cells #[.int .i64 2, .int .i64 3, .int .i64 0, .int .i64 n2, .int .i64 0, .int .i64 0] 42)
        have hpa9 := (hpa.fr hf18 (fun _ _ => id)).fr hfa (fun _ _ => id)
        have hFw9 := (HI.out.f.trans hf18 (fun _ _ h => h)).trans hfa (fun _ _ h => h)
        obtain ⟨kk, jj, hsh⟩ := HI.out.shape
        have heff : ps.eff.length ≤ 1000000 := by have := HI.out.effl; omega
        obtain ⟨ea, ec, rfl⟩ : ∃ ea ec, ef = .slice ea ps.eff.length ec := by
          rcases hpa9.eo.2 with ⟨e, hn⟩ | ⟨g, cap, cur, e, _⟩
          · exact ⟨none, 0, by rw [e, hn]⟩
          · exact ⟨_, _, e⟩
        clear hst hE8 hpa hf18 hc18 HI HI0 hfa
        unfold ST.cs
        go_wp2_with fail
        generalize w18.alloc (.cells #[.int .i64 2, .int .i64 3, .int .i64 0, .int .i64 n2, .int .i64 0, .int .i64 0] 42) = W19 at *
        generalize w18.heap.size = Bx at *
        refine (HM2 W19).mono ?_
        rintro e wq ⟨rfl, eq⟩
        rw [eq]
        clear eq wq
        go_wp2_with fail
        refine (kStraight_ok 2 n2 kk jj hpa9.p (own_rowsC hpa9.eo) heff hsh).mono ?_
        rintro e w20 ⟨rfl, hf20⟩
        have q1 : w20.cell? ⟨Bx, 1, none⟩ = some (.int .i64 3) := (cell_of_row _ _ 1 _ _ _ (hf20.keep hbx (fun h => h))).trans rfl
        have HF20 : Hid (Fr (fun _ => False) w w20) := hFw9.trans hf20 (fun _ _ h => h)
        clear hf20 hbx hpa9 hFw9 hsh
        go_wp2
        go_ret
        exact ⟨rfl, HF20.out⟩
  · rcases hv7 with ⟨rfl, _⟩ | ⟨f7, rfl⟩
    · go_wp2_with fail
      refine HALL.mono ?_
      rintro e w11 ⟨ao11, cap11, rfl, hr11, hf11⟩
      have hl0 : ((((recL [Rec.take 1 (kst 1 n1), Rec.take 2 (kst 2 n2)]).take (10 : Int).toNat).map AS.told)) = [⟨1, 1, 1, n1, 0, 0⟩, ⟨2, 1, 1, n2, 0, 0⟩] := by
        show [AS.told (newA 1 (kst 1 n1)), AS.told (newA 2 (kst 2 n2))] = _
        simp [AS.told, newA, kst_len]
      rw [hl0] at hr11 ⊢
      obtain ⟨g11, o11, rfl, hrow⟩ := hr11 0 _ rfl
      have z0 := hrow 0 _ rfl
      have z1 := hrow 1 _ rfl
      have z2 := hrow 2 _ rfl
      obtain ⟨g12, o12, eg12, hrow2⟩ := hr11 1 _ rfl
      cases eg12
      have u0 := hrow2 0 _ rfl
      have u1 := hrow2 1 _ rfl
      have u2 := hrow2 2 _ rfl
      have u3 := hrow2 3 _ rfl
      simp only [Nat.zero_mul, Nat.one_mul, Nat.add_zero] at z0 z1 z2 u0 u1 u2 u3
      go_wp2_with fail
      have hlift : Tryz.prog.follows .mixedOrders = true := by kernel_rfl
      obtain ⟨W15, HW15⟩ : ∃ W15, Hid (W15 = w11.drew) := ⟨_, rfl⟩
      have hf15 : Fr (fun _ => False) w11 W15 := by rw [HW15.out]; exact (Fr.refl _ _).drew
      let S : World → Prop := fun w' => w'.cell? ⟨g11, o11 + 6, none⟩ = some (.int .i64 2) ∧ w'.cell? ⟨g11, o11 + 6 + 1, none⟩ = some (.int .i64 1) ∧ w'.cell? ⟨g11, o11 + 6 + 2, none⟩ = some (.int .i64 1) ∧ w'.cell? ⟨g11, o11 + 6 + 3, none⟩ = some (.int .i64 n2)
      have hS : S W15 := ⟨hf15.cell u0 (fun h => h), hf15.cell u1 (fun h => h), hf15.cell u2 (fun h => h), hf15.cell u3 (fun h => h)⟩
      refine wp_region_held (S := S) hlift ?_
      change wpAnyH _ _ _ _ S _ _ _ (World.drew _)
      rw [← HW15.out]
      clear HW15
      refine tkE (S := S) (i := 0) (oi := ⟨some 103, .move (.tmp 15), _, _, _, none⟩) (v := .slice (some ⟨g11, o11, none⟩) 2 cap11) rfl hS ?_
      simp only [Act.put, lsE, lsZ, lsS]
      refine tkE (S := S) (i := 1) (oi := ⟨some 104, .call { callee := .builtin .len, args := #[(.tmp 103)], argTypes := _ }, _, _, _, none⟩) (v := .int .i64 2) rfl hS ?_
      simp only [Act.put, lsE, lsZ, lsS]
      refine tkE (S := S) (i := 2) (oi := ⟨some 105, .binOp .eql 3 (.tmp 104) (.const (.int .i64 2)) 3, _, _, _, none⟩) (v := .bool true) rfl hS ?_
      simp only [Act.put, lsE, lsZ, lsS]
      refine tkE (S := S) (i := 3) (oi := ⟨some 106, .move (.tmp 105), _, _, _, none⟩) (v := .bool true) rfl hS ?_
      simp only [Act.put, lsE, lsZ, lsS]
      refine tkE (S := S) (i := 4) (oi := ⟨some 107, .move (.tmp 15), _, _, _, some (3, true)⟩) (v := .slice (some ⟨g11, o11, none⟩) 2 cap11) rfl hS ?_
      simp only [Act.put, lsE, lsZ, lsS]
      refine tkE (S := S) (i := 5) (oi := ⟨some 108, .indexAddr 69 (.tmp 107) (.const (.int .i64 1)), _, _, _, some (3, true)⟩) (v := .pointer (some ⟨g11, o11 + 6, none⟩)) rfl hS ?_
      simp only [Act.put, lsE, lsZ, lsS]
      refine tkE (S := S) (i := 6) (oi := ⟨some 109, .fieldAddr 42 (.tmp 108) 0, _, _, _, some (3, true)⟩) (v := .pointer (some ⟨g11, o11 + 6, none⟩)) rfl hS ?_
      simp only [Act.put, lsE, lsZ, lsS]
      refine tkY (S := S) (i := 7) (oi := ⟨some 110, .load 3 (.tmp 109), _, _, _, some (3, true)⟩) (v := .int .i64 2) rfl (Or.inl ⟨rfl, fun w' hs => exec_load 3 (.tmp 109) rfl ⟨g11, o11 + 6, none⟩ rfl (run_loadAt_one hs.1 Tryz.underlying3 rfl)⟩) hS ?_
      simp only [Act.put, lsE, lsZ, lsS]
      refine tkE (S := S) (i := 8) (oi := ⟨some 111, .binOp .neq 3 (.tmp 110) (.const (.int .i64 2)) 3, _, _, _, some (3, true)⟩) (v := .bool false) rfl hS ?_
      simp only [Act.put, lsE, lsZ, lsS]
      refine tkE (S := S) (i := 9) (oi := ⟨some 112, .move (.tmp 111), _, _, _, some (3, true)⟩) (v := .bool false) rfl hS ?_
      simp only [Act.put, lsE, lsZ, lsS]
      refine tkE (S := S) (i := 10) (oi := ⟨some 113, .move (.tmp 15), _, _, _, some (9, false)⟩) (v := .slice (some ⟨g11, o11, none⟩) 2 cap11) rfl hS ?_
      simp only [Act.put, lsE, lsZ, lsS]
      refine tkE (S := S) (i := 11) (oi := ⟨some 114, .indexAddr 69 (.tmp 113) (.const (.int .i64 1)), _, _, _, some (9, false)⟩) (v := .pointer (some ⟨g11, o11 + 6, none⟩)) rfl hS ?_
      simp only [Act.put, lsE, lsZ, lsS]
      refine tkE (S := S) (i := 12) (oi := ⟨some 115, .fieldAddr 42 (.tmp 114) 1, _, _, _, some (9, false)⟩) (v := .pointer (some ⟨g11, o11 + 6 + 1, none⟩)) rfl hS ?_
      simp only [Act.put, lsE, lsZ, lsS]
      refine tkY (S := S) (i := 13) (oi := ⟨some 116, .load 3 (.tmp 115), _, _, _, some (9, false)⟩) (v := .int .i64 1) rfl (Or.inl ⟨rfl, fun w' hs => exec_load 3 (.tmp 115) rfl ⟨g11, o11 + 6 + 1, none⟩ rfl (run_loadAt_one hs.2.1 Tryz.underlying3 rfl)⟩) hS ?_
      simp only [Act.put, lsE, lsZ, lsS]
      refine tkE (S := S) (i := 14) (oi := ⟨some 117, .binOp .neq 3 (.tmp 116) (.const (.int .i64 1)) 3, _, _, _, some (9, false)⟩) (v := .bool false) rfl hS ?_
      simp only [Act.put, lsE, lsZ, lsS]
      refine tkE (S := S) (i := 15) (oi := ⟨some 118, .pick (.tmp 112) (.const (.bool true)) (.tmp 117), _, _, _, some (3, true)⟩) (v := .bool false) rfl hS ?_
      simp only [Act.put, lsE, lsZ, lsS]
      refine tkE (S := S) (i := 16) (oi := ⟨some 119, .move (.tmp 118), _, _, _, some (3, true)⟩) (v := .bool false) rfl hS ?_
      simp only [Act.put, lsE, lsZ, lsS]
      refine tkE (S := S) (i := 17) (oi := ⟨some 120, .move (.tmp 15), _, _, _, some (16, false)⟩) (v := .slice (some ⟨g11, o11, none⟩) 2 cap11) rfl hS ?_
      simp only [Act.put, lsE, lsZ, lsS]
      refine tkE (S := S) (i := 18) (oi := ⟨some 121, .indexAddr 69 (.tmp 120) (.const (.int .i64 1)), _, _, _, some (16, false)⟩) (v := .pointer (some ⟨g11, o11 + 6, none⟩)) rfl hS ?_
      simp only [Act.put, lsE, lsZ, lsS]
      refine tkE (S := S) (i := 19) (oi := ⟨some 122, .fieldAddr 42 (.tmp 121) 2, _, _, _, some (16, false)⟩) (v := .pointer (some ⟨g11, o11 + 6 + 2, none⟩)) rfl hS ?_
      simp only [Act.put, lsE, lsZ, lsS]
      refine tkY (S := S) (i := 20) (oi := ⟨some 123, .load 3 (.tmp 122), _, _, _, some (16, false)⟩) (v := .int .i64 1) rfl (Or.inl ⟨rfl, fun w' hs => exec_load 3 (.tmp 122) rfl ⟨g11, o11 + 6 + 2, none⟩ rfl (run_loadAt_one hs.2.2.1 Tryz.underlying3 rfl)⟩) hS ?_
      simp only [Act.put, lsE, lsZ, lsS]
      refine tkE (S := S) (i := 21) (oi := ⟨some 124, .binOp .neq 3 (.tmp 123) (.const (.int .i64 1)) 3, _, _, _, some (16, false)⟩) (v := .bool false) rfl hS ?_
      simp only [Act.put, lsE, lsZ, lsS]
      refine tkE (S := S) (i := 22) (oi := ⟨some 125, .pick (.tmp 119) (.const (.bool true)) (.tmp 124), _, _, _, some (3, true)⟩) (v := .bool false) rfl hS ?_
      simp only [Act.put, lsE, lsZ, lsS]
      refine tkE (S := S) (i := 23) (oi := ⟨some 126, .move (.tmp 125), _, _, _, some (3, true)⟩) (v := .bool false) rfl hS ?_
      simp only [Act.put, lsE, lsZ, lsS]
      refine tkE (S := S) (i := 24) (oi := ⟨some 127, .move (.tmp 15), _, _, _, some (23, false)⟩) (v := .slice (some ⟨g11, o11, none⟩) 2 cap11) rfl hS ?_
      simp only [Act.put, lsE, lsZ, lsS]
      refine tkE (S := S) (i := 25) (oi := ⟨some 128, .indexAddr 69 (.tmp 127) (.const (.int .i64 1)), _, _, _, some (23, false)⟩) (v := .pointer (some ⟨g11, o11 + 6, none⟩)) rfl hS ?_
      simp only [Act.put, lsE, lsZ, lsS]
      refine tkE (S := S) (i := 26) (oi := ⟨some 129, .fieldAddr 42 (.tmp 128) 3, _, _, _, some (23, false)⟩) (v := .pointer (some ⟨g11, o11 + 6 + 3, none⟩)) rfl hS ?_
      simp only [Act.put, lsE, lsZ, lsS]
      refine tkY (S := S) (i := 27) (oi := ⟨some 130, .load 3 (.tmp 129), _, _, _, some (23, false)⟩) (v := .int .i64 n2) rfl (Or.inl ⟨rfl, fun w' hs => exec_load 3 (.tmp 129) rfl ⟨g11, o11 + 6 + 3, none⟩ rfl (run_loadAt_one hs.2.2.2 Tryz.underlying3 rfl)⟩) hS ?_
      simp only [Act.put, lsE, lsZ, lsS]
      refine tkE (S := S) (i := 28) (oi := ⟨some 131, .move (.tmp 0), _, _, _, some (23, false)⟩) (v := .int .i64 c) rfl hS ?_
      simp only [Act.put, lsE, lsZ, lsS]
      refine wpAnyH_all (rs := [29]) (by kernel_rfl) (by simp) ?_
      intro i29 hi29
      obtain rfl : i29 = 29 := by simpa using hi29
      refine wpOp_callW (o := ⟨some 132, .call { callee := .value (.func 27), args := #[(.tmp 131), (.const (.int .i64 2))], argTypes := _ }, _, _, _, some (23, false)⟩) (f := 27) (args := #[.int .i64 c, .int .i64 2]) rfl rfl (by kernel_rfl) ?_
      refine (HM2 W15).mono ?_
      rintro e wq ⟨rfl, eq⟩
      rw [eq]
      clear eq wq
      refine ⟨_, rfl, hS, ?_⟩
      simp only [Act.put, lsE, lsZ, lsS]
      refine tkE (S := S) (i := 30) (oi := ⟨some 133, .binOp .neq 3 (.tmp 130) (.tmp 132) 3, _, _, _, some (23, false)⟩) (v := .bool ((n2 : Int) != (n2 : Int))) rfl hS ?_
      simp only [Act.put, lsE, lsZ, lsS]
      refine tkE (S := S) (i := 31) (oi := ⟨some 134, .pick (.tmp 126) (.const (.bool true)) (.tmp 133), _, _, _, some (3, true)⟩) (v := .bool ((n2 : Int) != (n2 : Int))) rfl hS ?_
      simp only [Act.put, lsE, lsZ, lsS]
      refine tkE (S := S) (i := 32) (oi := ⟨some 135, .pick (.tmp 106) (.tmp 134) (.const (.bool false)), _, _, _, none⟩) (v := .bool ((n2 : Int) != (n2 : Int))) rfl hS ?_
      simp only [Act.put, lsE, lsZ, lsS]
      refine wpAnyH_done (by kernel_rfl) ?_ _
      have hbn : ((n2 : Int) != (n2 : Int)) = false := by simp
      rw [hbn]
      clear hrow2 u0 u1 u2 u3 hbn
      have hfx : Fr (fun _ => False) w10 W15 := hf11.trans hf15 (fun _ _ h => h)
      have hE15 := hE10.fr hfx id id (fun _ h => h.elim) (fun _ _ => id)
      have hpr15 := hpr10.fr hfx (fun _ _ h => h)
      have hF15w := hF10w.trans hfx (fun _ _ h => h)
      have hs15 := hfx.size
      clear HALL hE10 hpr10 hF10w hf11 hf15 hfx hr11 hrow z0 z1 z2 hl0 hS
      go_wp2_with fail
      refine (HM2 W15).mono ?_
      rintro e wq ⟨rfl, eq⟩
      rw [eq]
      clear eq wq
      go_wp2_with fail
      refine (kSteps_ok W15 2 n2 (by decide) (by omega)).mono ?_
      rintro e w16 ⟨ao16, cap16, rfl, hks16⟩
      obtain ⟨g16, rfl⟩ := own_someS hks16.2 y1
      have hE16 := hE15.fr hks16.1 id id (fun _ h => h.elim) (fun _ _ => id)
      have hpr16 := hpr15.fr hks16.1 (fun _ _ h => h)
      have hF16w := hF15w.trans hks16.1 (fun _ _ h => h)
      have hrows16 := own_rowsS hks16.2
      have hs16 := hks16.1.size
      clear hks16 hE15 hpr15 hF15w
      have HS3 := hE16.third (n1 := n1) (n2 := n2) (cap := cap16) (.inr rfl) hg10 (by decide) (hG.fr hF16w (fun h => h)) x6 y1 y6 hrows16
      go_wp2_with fail
      refine HS3.mono ?_
      rintro e w17 ⟨rfl, rs17, s17, C17, F17, hE17, hg17, hnd17, hC17, hF17, hf17⟩
      have HI0 : Hid (TakI w Pp w.heap.size Y A9 B9 n1 n2 0 ⟨[], [], 0⟩ w17) := TakI.zero hE17 hg17 hnd17 x1 y1 (fun b hb => (hF17 b hb).elim (fun h => by have := hFn10' b h; omega) (fun h => by omega)) (fun b hb => (hC17 b hb).elim (fun h => h.elim) (fun h => by omega)) (by omega) (by omega) (hF16w.trans hf17 (fun b hb h => by
          rcases h with h | h | h | h
          · omega
          · omega
          · exact h.elim
          · have := hFn10' b h; omega)) (hpr16.fr hf17 (fun b hb h => by
          have h1 := hpl b hb
          rcases h with h | h | h | h
          · omega
          · omega
          · exact h.elim
          · have := hFn10' b h; omega)) hPp hlv
      clear HS3 hE16 hpr16 hF16w hrows16 hE17 hf17
      go_wp2
      go_loopw [17] (fun tv wr => ∃ (t : Nat) (ps : PSt), t ≤ 6 ∧ tv = .int .i64 t ∧ Hid (TakI w Pp w.heap.size Y A9 B9 n1 n2 t ps wr)) (fun tv _ => 6 - (intOf tv).toNat)
      case atStart => exact ⟨0, _, Nat.zero_le _, rfl, HI0⟩
      case round =>
        obtain ⟨t, ps, ht, rfl, HI⟩ := hrel
        by_cases hlt : t < 6
        · have hlt' : (t : Int) < 6 := by omega
          have HTK := HI.out.tick (by omega) hG
          clear HI
          go_wp2_with fail
          refine HTK.mono ?_
          rintro e wt ⟨rfl, ps', hI'⟩
          have HI' : Hid (TakI w Pp w.heap.size Y A9 B9 n1 n2 (t + 1) ps' wt) := hI'
          clear HTK hI'
          go_wp2
          go_roundw
          case rel => exact ⟨t + 1, ps', by omega, by go_num, HI'⟩
          case measure => simp [intOf]; omega
        · obtain rfl : t = 6 := by omega
          obtain ⟨rs8, s8, C8, F8, hE8, _⟩ := HI.out.e
          have hst := hE8.sta 2
          go_wp2_with fail
          refine hst.mono ?_
          rintro e w18 ⟨s18, v18, rfl, hf18, hc18⟩
          obtain ⟨rfl, hv18⟩ : s18 = ⟨2, 3, 0, n2, 0, 0⟩ ∧ v18 = .nilIface := TakI.done y6 hc18
          subst hv18
          obtain ⟨F0, ⟨_, lg, ef, l, hpa, _⟩, _⟩ := HI.out.p
          have hfa : Fr (fun _ => False) w18 (w18.alloc (.cells #[.int .i64 2, .int .i64 3, .int .i64 0, .int .i64 n2, .int .i64 0, .int .i64 0] 42)) := (Fr.refl _ _).alloc _
          have hbx := heap_alloc_at w18 (.cells #[.int .i64 2, .int .i64 3, .int .i64 0, .int .i64 n2, .int .i64 0, .int .i64 0] 42)
          have hpa9 := (hpa.fr hf18 (fun _ _ => id)).fr hfa (fun _ _ => id)
          have hFw9 := (HI.out.f.trans hf18 (fun _ _ h => h)).trans hfa (fun _ _ h => h)
          obtain ⟨kk, jj, hsh⟩ := HI.out.shape
          have heff : ps.eff.length ≤ 1000000 := by have := HI.out.effl; omega
          obtain ⟨ea, ec, rfl⟩ : ∃ ea ec, ef = .slice ea ps.eff.length ec := by
            rcases hpa9.eo.2 with ⟨e, hn⟩ | ⟨g, cap, cur, e, _⟩
            · exact ⟨none, 0, by rw [e, hn]⟩
            · exact ⟨_, _, e⟩
          clear hst hE8 hpa hf18 hc18 HI HI0 hfa
          unfold ST.cs
          go_wp2_with fail
          generalize w18.alloc (.cells #[.int .i64 2, .int .i64 3, .int .i64 0, .int .i64 n2, .int .i64 0, .int .i64 0] 42) = W19 at *
          generalize w18.heap.size = Bx at *
          refine (HM2 W19).mono ?_
          rintro e wq ⟨rfl, eq⟩
          rw [eq]
          clear eq wq
          go_wp2_with fail
          refine (kStraight_ok 2 n2 kk jj hpa9.p (own_rowsC hpa9.eo) heff hsh).mono ?_
          rintro e w20 ⟨rfl, hf20⟩
          have q1 : w20.cell? ⟨Bx, 1, none⟩ = some (.int .i64 3) := (cell_of_row _ _ 1 _ _ _ (hf20.keep hbx (fun h => h))).trans rfl
          have HF20 : Hid (Fr (fun _ => False) w w20) := hFw9.trans hf20 (fun _ _ h => h)
          clear hf20 hbx hpa9 hFw9 hsh
          go_wp2
          go_ret
          exact ⟨rfl, HF20.out⟩
    · go_wp2_with fail
      refine HALL.mono ?_
      rintro e w11 ⟨ao11, cap11, rfl, hr11, hf11⟩
      have hl0 : ((((recL [Rec.take 1 (kst 1 n1), Rec.take 2 (kst 2 n2)]).take (10 : Int).toNat).map AS.told)) = [⟨1, 1, 1, n1, 0, 0⟩, ⟨2, 1, 1, n2, 0, 0⟩] := by
        show [AS.told (newA 1 (kst 1 n1)), AS.told (newA 2 (kst 2 n2))] = _
        simp [AS.told, newA, kst_len]
      rw [hl0] at hr11 ⊢
      obtain ⟨g11, o11, rfl, hrow⟩ := hr11 0 _ rfl
      have z0 := hrow 0 _ rfl
      have z1 := hrow 1 _ rfl
      have z2 := hrow 2 _ rfl
      obtain ⟨g12, o12, eg12, hrow2⟩ := hr11 1 _ rfl
      cases eg12
      have u0 := hrow2 0 _ rfl
      have u1 := hrow2 1 _ rfl
      have u2 := hrow2 2 _ rfl
      have u3 := hrow2 3 _ rfl
      simp only [Nat.zero_mul, Nat.one_mul, Nat.add_zero] at z0 z1 z2 u0 u1 u2 u3
      go_wp2_with fail
      have hlift : Tryz.prog.follows .mixedOrders = true := by kernel_rfl
      obtain ⟨W15, HW15⟩ : ∃ W15, Hid (W15 = w11.drew) := ⟨_, rfl⟩
      have hf15 : Fr (fun _ => False) w11 W15 := by rw [HW15.out]; exact (Fr.refl _ _).drew
      let S : World → Prop := fun w' => w'.cell? ⟨g11, o11 + 6, none⟩ = some (.int .i64 2) ∧ w'.cell? ⟨g11, o11 + 6 + 1, none⟩ = some (.int .i64 1) ∧ w'.cell? ⟨g11, o11 + 6 + 2, none⟩ = some (.int .i64 1) ∧ w'.cell? ⟨g11, o11 + 6 + 3, none⟩ = some (.int .i64 n2)
      have hS : S W15 := ⟨hf15.cell u0 (fun h => h), hf15.cell u1 (fun h => h), hf15.cell u2 (fun h => h), hf15.cell u3 (fun h => h)⟩
      refine wp_region_held (S := S) hlift ?_
      change wpAnyH _ _ _ _ S _ _ _ (World.drew _)
      rw [← HW15.out]
      clear HW15
      refine tkE (S := S) (i := 0) (oi := ⟨some 103, .move (.tmp 15), _, _, _, none⟩) (v := .slice (some ⟨g11, o11, none⟩) 2 cap11) rfl hS ?_
      simp only [Act.put, lsE, lsZ, lsS]
      refine tkE (S := S) (i := 1) (oi := ⟨some 104, .call { callee := .builtin .len, args := #[(.tmp 103)], argTypes := _ }, _, _, _, none⟩) (v := .int .i64 2) rfl hS ?_
      simp only [Act.put, lsE, lsZ, lsS]
      refine tkE (S := S) (i := 2) (oi := ⟨some 105, .binOp .eql 3 (.tmp 104) (.const (.int .i64 2)) 3, _, _, _, none⟩) (v := .bool true) rfl hS ?_
      simp only [Act.put, lsE, lsZ, lsS]
      refine tkE (S := S) (i := 3) (oi := ⟨some 106, .move (.tmp 105), _, _, _, none⟩) (v := .bool true) rfl hS ?_
      simp only [Act.put, lsE, lsZ, lsS]
      refine tkE (S := S) (i := 4) (oi := ⟨some 107, .move (.tmp 15), _, _, _, some (3, true)⟩) (v := .slice (some ⟨g11, o11, none⟩) 2 cap11) rfl hS ?_
      simp only [Act.put, lsE, lsZ, lsS]
      refine tkE (S := S) (i := 5) (oi := ⟨some 108, .indexAddr 69 (.tmp 107) (.const (.int .i64 1)), _, _, _, some (3, true)⟩) (v := .pointer (some ⟨g11, o11 + 6, none⟩)) rfl hS ?_
      simp only [Act.put, lsE, lsZ, lsS]
      refine tkE (S := S) (i := 6) (oi := ⟨some 109, .fieldAddr 42 (.tmp 108) 0, _, _, _, some (3, true)⟩) (v := .pointer (some ⟨g11, o11 + 6, none⟩)) rfl hS ?_
      simp only [Act.put, lsE, lsZ, lsS]
      refine tkY (S := S) (i := 7) (oi := ⟨some 110, .load 3 (.tmp 109), _, _, _, some (3, true)⟩) (v := .int .i64 2) rfl (Or.inl ⟨rfl, fun w' hs => exec_load 3 (.tmp 109) rfl ⟨g11, o11 + 6, none⟩ rfl (run_loadAt_one hs.1 Tryz.underlying3 rfl)⟩) hS ?_
      simp only [Act.put, lsE, lsZ, lsS]
      refine tkE (S := S) (i := 8) (oi := ⟨some 111, .binOp .neq 3 (.tmp 110) (.const (.int .i64 2)) 3, _, _, _, some (3, true)⟩) (v := .bool false) rfl hS ?_
      simp only [Act.put, lsE, lsZ, lsS]
      refine tkE (S := S) (i := 9) (oi := ⟨some 112, .move (.tmp 111), _, _, _, some (3, true)⟩) (v := .bool false) rfl hS ?_
      simp only [Act.put, lsE, lsZ, lsS]
      refine tkE (S := S) (i := 10) (oi := ⟨some 113, .move (.tmp 15), _, _, _, some (9, false)⟩) (v := .slice (some ⟨g11, o11, none⟩) 2 cap11) rfl hS ?_
      simp only [Act.put, lsE, lsZ, lsS]
      refine tkE (S := S) (i := 11) (oi := ⟨some 114, .indexAddr 69 (.tmp 113) (.const (.int .i64 1)), _, _, _, some (9, false)⟩) (v := .pointer (some ⟨g11, o11 + 6, none⟩)) rfl hS ?_
      simp only [Act.put, lsE, lsZ, lsS]
      refine tkE (S := S) (i := 12) (oi := ⟨some 115, .fieldAddr 42 (.tmp 114) 1, _, _, _, some (9, false)⟩) (v := .pointer (some ⟨g11, o11 + 6 + 1, none⟩)) rfl hS ?_
      simp only [Act.put, lsE, lsZ, lsS]
      refine tkY (S := S) (i := 13) (oi := ⟨some 116, .load 3 (.tmp 115), _, _, _, some (9, false)⟩) (v := .int .i64 1) rfl (Or.inl ⟨rfl, fun w' hs => exec_load 3 (.tmp 115) rfl ⟨g11, o11 + 6 + 1, none⟩ rfl (run_loadAt_one hs.2.1 Tryz.underlying3 rfl)⟩) hS ?_
      simp only [Act.put, lsE, lsZ, lsS]
      refine tkE (S := S) (i := 14) (oi := ⟨some 117, .binOp .neq 3 (.tmp 116) (.const (.int .i64 1)) 3, _, _, _, some (9, false)⟩) (v := .bool false) rfl hS ?_
      simp only [Act.put, lsE, lsZ, lsS]
      refine tkE (S := S) (i := 15) (oi := ⟨some 118, .pick (.tmp 112) (.const (.bool true)) (.tmp 117), _, _, _, some (3, true)⟩) (v := .bool false) rfl hS ?_
      simp only [Act.put, lsE, lsZ, lsS]
      refine tkE (S := S) (i := 16) (oi := ⟨some 119, .move (.tmp 118), _, _, _, some (3, true)⟩) (v := .bool false) rfl hS ?_
      simp only [Act.put, lsE, lsZ, lsS]
      refine tkE (S := S) (i := 17) (oi := ⟨some 120, .move (.tmp 15), _, _, _, some (16, false)⟩) (v := .slice (some ⟨g11, o11, none⟩) 2 cap11) rfl hS ?_
      simp only [Act.put, lsE, lsZ, lsS]
      refine tkE (S := S) (i := 18) (oi := ⟨some 121, .indexAddr 69 (.tmp 120) (.const (.int .i64 1)), _, _, _, some (16, false)⟩) (v := .pointer (some ⟨g11, o11 + 6, none⟩)) rfl hS ?_
      simp only [Act.put, lsE, lsZ, lsS]
      refine tkE (S := S) (i := 19) (oi := ⟨some 122, .fieldAddr 42 (.tmp 121) 2, _, _, _, some (16, false)⟩) (v := .pointer (some ⟨g11, o11 + 6 + 2, none⟩)) rfl hS ?_
      simp only [Act.put, lsE, lsZ, lsS]
      refine tkY (S := S) (i := 20) (oi := ⟨some 123, .load 3 (.tmp 122), _, _, _, some (16, false)⟩) (v := .int .i64 1) rfl (Or.inl ⟨rfl, fun w' hs => exec_load 3 (.tmp 122) rfl ⟨g11, o11 + 6 + 2, none⟩ rfl (run_loadAt_one hs.2.2.1 Tryz.underlying3 rfl)⟩) hS ?_
      simp only [Act.put, lsE, lsZ, lsS]
      refine tkE (S := S) (i := 21) (oi := ⟨some 124, .binOp .neq 3 (.tmp 123) (.const (.int .i64 1)) 3, _, _, _, some (16, false)⟩) (v := .bool false) rfl hS ?_
      simp only [Act.put, lsE, lsZ, lsS]
      refine tkE (S := S) (i := 22) (oi := ⟨some 125, .pick (.tmp 119) (.const (.bool true)) (.tmp 124), _, _, _, some (3, true)⟩) (v := .bool false) rfl hS ?_
      simp only [Act.put, lsE, lsZ, lsS]
      refine tkE (S := S) (i := 23) (oi := ⟨some 126, .move (.tmp 125), _, _, _, some (3, true)⟩) (v := .bool false) rfl hS ?_
      simp only [Act.put, lsE, lsZ, lsS]
      refine tkE (S := S) (i := 24) (oi := ⟨some 127, .move (.tmp 15), _, _, _, some (23, false)⟩) (v := .slice (some ⟨g11, o11, none⟩) 2 cap11) rfl hS ?_
      simp only [Act.put, lsE, lsZ, lsS]
      refine tkE (S := S) (i := 25) (oi := ⟨some 128, .indexAddr 69 (.tmp 127) (.const (.int .i64 1)), _, _, _, some (23, false)⟩) (v := .pointer (some ⟨g11, o11 + 6, none⟩)) rfl hS ?_
      simp only [Act.put, lsE, lsZ, lsS]
      refine tkE (S := S) (i := 26) (oi := ⟨some 129, .fieldAddr 42 (.tmp 128) 3, _, _, _, some (23, false)⟩) (v := .pointer (some ⟨g11, o11 + 6 + 3, none⟩)) rfl hS ?_
      simp only [Act.put, lsE, lsZ, lsS]
      refine tkY (S := S) (i := 27) (oi := ⟨some 130, .load 3 (.tmp 129), _, _, _, some (23, false)⟩) (v := .int .i64 n2) rfl (Or.inl ⟨rfl, fun w' hs => exec_load 3 (.tmp 129) rfl ⟨g11, o11 + 6 + 3, none⟩ rfl (run_loadAt_one hs.2.2.2 Tryz.underlying3 rfl)⟩) hS ?_
      simp only [Act.put, lsE, lsZ, lsS]
      refine tkE (S := S) (i := 28) (oi := ⟨some 131, .move (.tmp 0), _, _, _, some (23, false)⟩) (v := .int .i64 c) rfl hS ?_
      simp only [Act.put, lsE, lsZ, lsS]
      refine wpAnyH_all (rs := [29]) (by kernel_rfl) (by simp) ?_
      intro i29 hi29
      obtain rfl : i29 = 29 := by simpa using hi29
      refine wpOp_callW (o := ⟨some 132, .call { callee := .value (.func 27), args := #[(.tmp 131), (.const (.int .i64 2))], argTypes := _ }, _, _, _, some (23, false)⟩) (f := 27) (args := #[.int .i64 c, .int .i64 2]) rfl rfl (by kernel_rfl) ?_
      refine (HM2 W15).mono ?_
      rintro e wq ⟨rfl, eq⟩
      rw [eq]
      clear eq wq
      refine ⟨_, rfl, hS, ?_⟩
      simp only [Act.put, lsE, lsZ, lsS]
      refine tkE (S := S) (i := 30) (oi := ⟨some 133, .binOp .neq 3 (.tmp 130) (.tmp 132) 3, _, _, _, some (23, false)⟩) (v := .bool ((n2 : Int) != (n2 : Int))) rfl hS ?_
      simp only [Act.put, lsE, lsZ, lsS]
      refine tkE (S := S) (i := 31) (oi := ⟨some 134, .pick (.tmp 126) (.const (.bool true)) (.tmp 133), _, _, _, some (3, true)⟩) (v := .bool ((n2 : Int) != (n2 : Int))) rfl hS ?_
      simp only [Act.put, lsE, lsZ, lsS]
      refine tkE (S := S) (i := 32) (oi := ⟨some 135, .pick (.tmp 106) (.tmp 134) (.const (.bool false)), _, _, _, none⟩) (v := .bool ((n2 : Int) != (n2 : Int))) rfl hS ?_
      simp only [Act.put, lsE, lsZ, lsS]
      refine wpAnyH_done (by kernel_rfl) ?_ _
      have hbn : ((n2 : Int) != (n2 : Int)) = false := by simp
      rw [hbn]
      clear hrow2 u0 u1 u2 u3 hbn
      have hfx : Fr (fun _ => False) w10 W15 := hf11.trans hf15 (fun _ _ h => h)
      have hE15 := hE10.fr hfx id id (fun _ h => h.elim) (fun _ _ => id)
      have hpr15 := hpr10.fr hfx (fun _ _ h => h)
      have hF15w := hF10w.trans hfx (fun _ _ h => h)
      have hs15 := hfx.size
      clear HALL hE10 hpr10 hF10w hf11 hf15 hfx hr11 hrow z0 z1 z2 hl0 hS
      go_wp2_with fail
      refine (HM2 W15).mono ?_
      rintro e wq ⟨rfl, eq⟩
      rw [eq]
      clear eq wq
      go_wp2_with fail
      refine (kSteps_ok W15 2 n2 (by decide) (by omega)).mono ?_
      rintro e w16 ⟨ao16, cap16, rfl, hks16⟩
      obtain ⟨g16, rfl⟩ := own_someS hks16.2 y1
      have hE16 := hE15.fr hks16.1 id id (fun _ h => h.elim) (fun _ _ => id)
      have hpr16 := hpr15.fr hks16.1 (fun _ _ h => h)
      have hF16w := hF15w.trans hks16.1 (fun _ _ h => h)
      have hrows16 := own_rowsS hks16.2
      have hs16 := hks16.1.size
      clear hks16 hE15 hpr15 hF15w
      have HS3 := hE16.third (n1 := n1) (n2 := n2) (cap := cap16) (.inr rfl) hg10 (by decide) (hG.fr hF16w (fun h => h)) x6 y1 y6 hrows16
      go_wp2_with fail
      refine HS3.mono ?_
      rintro e w17 ⟨rfl, rs17, s17, C17, F17, hE17, hg17, hnd17, hC17, hF17, hf17⟩
      have HI0 : Hid (TakI w Pp w.heap.size Y A9 B9 n1 n2 0 ⟨[], [], 0⟩ w17) := TakI.zero hE17 hg17 hnd17 x1 y1 (fun b hb => (hF17 b hb).elim (fun h => by have := hFn10' b h; omega) (fun h => by omega)) (fun b hb => (hC17 b hb).elim (fun h => h.elim) (fun h => by omega)) (by omega) (by omega) (hF16w.trans hf17 (fun b hb h => by
          rcases h with h | h | h | h
          · omega
          · omega
          · exact h.elim
          · have := hFn10' b h; omega)) (hpr16.fr hf17 (fun b hb h => by
          have h1 := hpl b hb
          rcases h with h | h | h | h
          · omega
          · omega
          · exact h.elim
          · have := hFn10' b h; omega)) hPp hlv
      clear HS3 hE16 hpr16 hF16w hrows16 hE17 hf17
      go_wp2
      go_loopw [17] (fun tv wr => ∃ (t : Nat) (ps : PSt), t ≤ 6 ∧ tv = .int .i64 t ∧ Hid (TakI w Pp w.heap.size Y A9 B9 n1 n2 t ps wr)) (fun tv _ => 6 - (intOf tv).toNat)
      case atStart => exact ⟨0, _, Nat.zero_le _, rfl, HI0⟩
      case round =>
        obtain ⟨t, ps, ht, rfl, HI⟩ := hrel
        by_cases hlt : t < 6
        · have hlt' : (t : Int) < 6 := by omega
          have HTK := HI.out.tick (by omega) hG
          clear HI
          go_wp2_with fail
          refine HTK.mono ?_
          rintro e wt ⟨rfl, ps', hI'⟩
          have HI' : Hid (TakI w Pp w.heap.size Y A9 B9 n1 n2 (t + 1) ps' wt) := hI'
          clear HTK hI'
          go_wp2
          go_roundw
          case rel => exact ⟨t + 1, ps', by omega, by go_num, HI'⟩
          case measure => simp [intOf]; omega
        · obtain rfl : t = 6 := by omega
          obtain ⟨rs8, s8, C8, F8, hE8, _⟩ := HI.out.e
          have hst := hE8.sta 2
          go_wp2_with fail
          refine hst.mono ?_
          rintro e w18 ⟨s18, v18, rfl, hf18, hc18⟩
          obtain ⟨rfl, hv18⟩ : s18 = ⟨2, 3, 0, n2, 0, 0⟩ ∧ v18 = .nilIface := TakI.done y6 hc18
          subst hv18
          obtain ⟨F0, ⟨_, lg, ef, l, hpa, _⟩, _⟩ := HI.out.p
          have hfa : Fr (fun _ => False) w18 (w18.alloc (.cells #[.int .i64 2, .int .i64 3, .int .i64 0, .int .i64 n2, .int .i64 0, .int .i64 0] 42)) := (Fr.refl _ _).alloc _
          have hbx := heap_alloc_at w18 (.cells #[.int .i64 2, .int .i64 3, .int .i64 0, .int .i64 n2, .int .i64 0, .int .i64 0] 42)
          have hpa9 := (hpa.fr hf18 (fun _ _ => id)).fr hfa (fun _ _ => id)
          have hFw9 := (HI.out.f.trans hf18 (fun _ _ h => h)).trans hfa (fun _ _ h => h)
          obtain ⟨kk, jj, hsh⟩ := HI.out.shape
          have heff : ps.eff.length ≤ 1000000 := by have := HI.out.effl; omega
          obtain ⟨ea, ec, rfl⟩ : ∃ ea ec, ef = .slice ea ps.eff.length ec := by
            rcases hpa9.eo.2 with ⟨e, hn⟩ | ⟨g, cap, cur, e, _⟩
            · exact ⟨none, 0, by rw [e, hn]⟩
            · exact ⟨_, _, e⟩
          clear hst hE8 hpa hf18 hc18 HI HI0 hfa
          unfold ST.cs
          go_wp2_with fail
          generalize w18.alloc (.cells #[.int .i64 2, .int .i64 3, .int .i64 0, .int .i64 n2, .int .i64 0, .int .i64 0] 42) = W19 at *
          generalize w18.heap.size = Bx at *
          refine (HM2 W19).mono ?_
          rintro e wq ⟨rfl, eq⟩
          rw [eq]
          clear eq wq
          go_wp2_with fail
          refine (kStraight_ok 2 n2 kk jj hpa9.p (own_rowsC hpa9.eo) heff hsh).mono ?_
          rintro e w20 ⟨rfl, hf20⟩
          have q1 : w20.cell? ⟨Bx, 1, none⟩ = some (.int .i64 3) := (cell_of_row _ _ 1 _ _ _ (hf20.keep hbx (fun h => h))).trans rfl
          have HF20 : Hid (Fr (fun _ => False) w w20) := hFw9.trans hf20 (fun _ _ h => h)
          clear hf20 hbx hpa9 hFw9 hsh
          go_wp2
          go_ret
          exact ⟨rfl, HF20.out⟩
end Go.Proofs.YteebjgfalllbjaaGreatDoor
