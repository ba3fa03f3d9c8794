import Derived.Test.YteebjgfalllbjaaGreatDoorCKhKvKu
namespace Go.Proofs.YteebjgfalllbjaaGreatDoor
open Go.RowKit
theorem six6e {w : World} {g : Nat} {v0 v1 v2 v3 v4 v5 : Value} {t : TypeId} (h : w.heap[g]? = some (.cells #[v0, v1, v2, v3, v4, v5] t (0, 0))) : w.cell? ⟨g, 0, none⟩ = some v0 ∧ w.cell? ⟨g, 1, none⟩ = some v1 ∧ w.cell? ⟨g, 2, none⟩ = some v2 ∧ w.cell? ⟨g, 3, none⟩ = some v3 ∧ w.cell? ⟨g, 4, none⟩ = some v4 ∧ w.cell? ⟨g, 5, none⟩ = some v5 :=
  ⟨(cell_of_row w g 0 _ _ _ h).trans rfl, (cell_of_row w g 1 _ _ _ h).trans rfl, (cell_of_row w g 2 _ _ _ h).trans rfl, (cell_of_row w g 3 _ _ _ h).trans rfl, (cell_of_row w g 4 _ _ _ h).trans rfl, (cell_of_row w g 5 _ _ _ h).trans rfl⟩
theorem intsOk_rl {zs : List Int} (h : ∀ z ∈ zs, I64 z) (n Z : Nat) : ∀ z ∈ rlOf (zs.take n) Z, -9223372036854775808 ≤ z ∧ z ≤ 9223372036854775807 := by
  intro z hz
  rcases List.mem_append.1 hz with hz | hz
  · exact h z (List.mem_of_mem_take hz)
  · rw [(List.mem_replicate.1 hz).2]; decide
set_option maxRecDepth 100000 in
set_option maxHeartbeats 8000000 in
theorem ends_ok (w : World) {la : Option Addr} {zs : List Int} (cap : Nat) (hl : IntsAt w la zs) (hzs : ∀ z ∈ zs, I64 z) (c n : Int) (hc : I64 c) (hn : I64 n) : Calls Tryz.prog 8 #[.int .i64 c, .slice la zs.length cap, .int .i64 n] w fun e w' => e = .returned (.bool true) ∧ Fr (fun _ => False) w w' := by
  obtain ⟨pz, hpz⟩ : ∃ p : Nat, (p : Int) = kpk c 8 := ⟨(kpk c 8).toNat, by have := kpk_in c 8 (by decide); omega⟩
  have hp8 : pz < 8 := by have := kpk_in c 8 (by decide); omega
  obtain ⟨kz, hkz⟩ : ∃ p : Nat, (p : Int) = kpk n 6 := ⟨(kpk n 6).toNat, by have := kpk_in n 6 (by decide); omega⟩
  have hk6 : kz < 6 := by have := kpk_in n 6 (by decide); omega
  obtain ⟨P, hP⟩ : ∃ P, P = 1 + (pz : Int) := ⟨_, rfl⟩
  obtain ⟨k, hk⟩ : ∃ k, k = 1 + kz := ⟨_, rfl⟩
  have ep : wrap64 (1 + (pz : Int)) = P := by unfold wrap64; omega
  have ek : wrap64 (1 + (kz : Int)) = k := by unfold wrap64; omega
  have hP1 : 1 ≤ P := by omega
  have hP8 : P ≤ 8 := by omega
  have hk1 : 1 ≤ k := by omega
  have hk6' : k ≤ 6 := by omega
  clear hP hk hp8 hk6
  obtain ⟨T, hT⟩ : ∃ T : Nat, (T : Int) = (22 + 2 * (k : Int)) * (P + 1) := ⟨((22 + 2 * (k : Int)) * (P + 1)).toNat, by have : 0 ≤ (22 + 2 * (k : Int)) * (P + 1) := Int.mul_nonneg (by omega) (by omega); omega⟩
  have hT3 : (T : Int) ≤ 1000 := by
    rw [hT]
    exact Int.le_trans (Int.mul_le_mul (show 22 + 2 * (k : Int) ≤ 34 by omega) (show P + 1 ≤ 9 by omega) (by omega) (by omega)) (by decide)
  have eT : wrap64 ((20 + 2 * (k : Int) + 2) * (P + 1)) = T := by
    rw [show 20 + 2 * (k : Int) + 2 = 22 + 2 * k by omega, ← hT]
    unfold wrap64
    omega
  have HT : Hid ((T : Int) = (22 + 2 * (k : Int)) * (P + 1)) := hT
  clear hT
  obtain ⟨m, hm⟩ : ∃ m, m = min 20 zs.length := ⟨_, rfl⟩
  obtain ⟨Z, hZ⟩ : ∃ Z : Nat, Z = 200 := ⟨_, rfl⟩
  have HZ : Hid (∀ z ∈ rlOf (zs.take m) Z, -9223372036854775808 ≤ z ∧ z ≤ 9223372036854775807) := intsOk_rl hzs m Z
  have hm20 : m ≤ 20 := by omega
  have hml : (zs.take m).length = m := by rw [List.length_take]; omega
  have HF := kFew_ok w cap hl 20 (by decide)
  rw [← hm] at HF
  clear hl hzs hm
  go_enter Tryz.func8, Tryz.ntmps8
  go_wp2_with fail
  refine HF.mono ?_
  rintro e w1 ⟨ao, c1, rfl, hf1, hown1⟩
  clear HF
  obtain ⟨inf, hi0, hz0, hz1, hz2⟩ := info_parts int_info
  obtain ⟨v2, w2, hrun, hown2, hgrow2, a2, c2, rfl⟩ := run_own_zeros (k := Z) hi0 hz0 hz1 hz2 hown1 (by omega) (by omega) (by omega) hf1.size 24
  have hf2 : Fr (fun _ => False) w w2 := hf1.grown hgrow2 (fun b hb hb2 => by have := (hown1.lt b hb2).1; omega)
  have hown3 : w2.ownsRow w.heap.size 3 1 (.slice a2 (m + Z) c2) (rlOf (zs.take m) Z).length ((rlOf (zs.take m) Z).map fun x => Value.int .i64 x) := by
    have e1 : (rlOf (zs.take m) Z).length = m + Z := by rw [rlOf, List.length_append, hml, List.length_replicate]
    have e2 : ((rlOf (zs.take m) Z).map fun x => Value.int .i64 x) = intC (zs.take m) ++ List.replicate Z (.int .i64 0) := by rw [rlOf, List.map_append, List.map_replicate]; rfl
    rw [e1, e2]
    exact hown2
  obtain ⟨r, hr⟩ : ∃ r, r = zs.take m := ⟨_, rfl⟩
  rw [← hr] at hown3 HZ hml
  have hrl : (rlOf r Z).length ≤ 1000 := by rw [rlOf, List.length_append, hml, List.length_replicate]; omega
  have HP := NewPartner_rows hown3 (by omega)
  have hZi : ((Z : Nat) : Int) = 200 := by omega
  rw [hZi] at hrun
  have hZ1 : 100 ≤ Z := by omega
  have HRun : Hid ((Builtin.append_ #[24, 3] 24 #[.slice ao m c1, .int .i64 200]).run Tryz.prog w1 = .ok (.slice a2 (m + Z) c2) w2) := hrun
  clear hown1 hown2 hown3 hgrow2 hf1 hr hrun hZ hZi
  go_wp2_with (first | (at_builtin; refine Lib.wpList_append_run w1 rfl (.tmp 24) (.const (.int .i64 200)) 24 3 rfl (.slice ao m c1) (.int .i64 200) rfl rfl _ _ HRun.out ?_))
  clear HRun
  refine HP.mono ?_
  rintro e w3 ⟨Pp, lv, rfl, hPp, hpr, hlv, hf3⟩
  have hF3 := hf2.trans hf3 (fun _ _ h => h)
  have hz23 := hf2.size
  clear HP hf2
  go_wp2_with fail
  refine (kPick_ok c 8 w3 hc.1 hc.2 (by decide) (by decide)).mono ?_
  rw [← hpz]
  rintro e w' ⟨rfl, rfl⟩
  clear hpz hc
  go_wp2_with fail
  refine (kPick_ok n 6 w' hn.1 hn.2 (by decide) (by decide)).mono ?_
  rw [← hkz]
  rintro e w4 ⟨rfl, rfl⟩
  clear hkz hn
  go_wp2_with fail
  refine (kBegun_ok w4 60 Pp P (by decide) (by decide) hP1 (Int.le_trans hP8 (by decide))).mono ?_
  rintro e w5 ⟨X, A, B, F, rfl, hE, hU, hFn, hA, hB, hf5⟩
  have hF5 := hF3.trans hf5 (fun _ _ h => h)
  have hz34 := hf3.size
  have hpr5 := hpr.fr hf5 (fun _ _ => id)
  clear hpr hF3
  go_wp2_with fail
  refine (kSteps_ok w5 9 k (by decide) (by omega)).mono ?_
  rintro e w6 ⟨ao6, cap6, rfl, hks⟩
  obtain ⟨g6, rfl⟩ := own_someS hks.2 hk1
  have hE6 := hE.fr hks.1 id id (fun _ _ => id)
  have hU6 : FU w6 F := fun b hb => by obtain ⟨c, t, hc, ht⟩ := hU b hb; exact ⟨c, t, hks.1.keep hc id, ht⟩
  have hpr6 := hpr5.fr hks.1 (fun _ _ => id)
  have hF6 := hF5.trans hks.1 (fun _ _ h => h)
  have HS := hE6.sub (by decide) 9 (kst 9 k) cap6 (own_rowsS hks.2) (fun _ => ⟨g6, rfl⟩)
  rw [kst_len] at HS
  have hz56 := hf5.size
  have hz67 := hks.1.size
  obtain ⟨calls, writes, hd6, hr6⟩ := hE6.disk
  clear hks hE hU hpr5
  go_wp2_with fail
  refine HS.mono ?_
  rintro e w7 ⟨v7, k7, L7, rs7, F7, rfl, hv7, hS7, hn7, hU7, hE7, hf7⟩
  obtain ⟨rfl, rfl⟩ : k7 = 0 ∧ L7 = [newA 9 (kst 9 k)] := by
    rcases hS7 with ⟨h, _⟩ | ⟨_, a, ha, _⟩ | ⟨_, _, ⟨h1, h2, h3⟩ | ⟨_, h, _⟩⟩
    · rw [kst_ok hk1 hk6' (by decide) (by decide)] at h; cases h
    · cases ha
    · exact ⟨h1, h2⟩
    · rw [kst_len] at h; simp at h; omega
  obtain rfl := err0 hv7
  have hpF7 : ∀ b, PartF Pp (.slice none 0 0) (.slice none 0 0) lv b → ¬ (b = A ∨ b = B ∨ F b) := fun b hb h => by
    obtain ⟨c, t, hc, ht⟩ := hpr6.ty hb
    unfold PT at ht
    rcases h with h | h | h
    · rw [h] at hc; have := hc.symm.trans hd6; simp [dcells] at this; rw [this.2] at ht; revert ht; decide
    · rw [h] at hc; have := hc.symm.trans hr6.1; simp at this; rw [this.2] at ht; revert ht; decide
    · exact hU6.ne hc (by intro hu; unfold EngU at hu; rcases ht with rfl | rfl | rfl | rfl <;> revert hu <;> decide) h
  have hI0 : EndI w Pp w2.heap.size X A B Z r P k 0 (newA 9 (kst 9 k)) ⟨[], [], 0⟩ w7 := by
    have hA1 := newA_ok (id := 9) (st := kst 9 k) (kst_ok hk1 hk6' (by decide) (by decide))
    have hlf : (newA 9 (kst 9 k)).left = 2 * k - 1 := by have := hA1.2; rw [kst_len] at this; exact this
    refine ⟨⟨_, F7, hE7.mono (by decide), hU7, fun b hb => ?_⟩, ⟨_, ⟨by have := hf7.size; omega, _, _, _, hpr6.fr hf7 hpF7, fun _ => Iff.rfl⟩, fun b hb => ?_⟩, ⟨by omega, by omega⟩, ?_, ⟨rfl, rfl⟩, .inl ⟨rfl, rfl, 0, rfl, by show 0 + 1 ≤ (kst 9 k).length; rw [kst_len]; exact hk1, .inl rfl⟩, fun _ => ?_, ⟨by omega, by rw [hlf]; show 0 + _ ≤ _; omega⟩, Nat.le_refl _⟩
    · rcases hn7 b hb with h | h
      · have := hFn b h; omega
      · omega
    · rcases hb with h | h | h | h
      · omega
      · cases h
      · cases h
      · have := hlv b h; omega
    · refine hF6.trans hf7 (fun b hb h => ?_)
      rcases h with h | h | h
      · omega
      · omega
      · have := hFn b h; omega
    · unfold pot
      rw [hlf]
      show ((2 * k - 1 : Nat) : Int) + ((r.length - 0 : Nat) : Int) * P + max 0 ((0 : Int) - (0 : Nat) - 1) + (0 : Nat) ≤ 2 * k - 1 + r.length * P
      rw [Nat.sub_zero]
      omega
  have HI0 : Hid (EndI w Pp w2.heap.size X A B Z r P k 0 (newA 9 (kst 9 k)) ⟨[], [], 0⟩ w7) := hI0
  have HASK : Hid (AskOk Pp w2.heap.size (rlOf r Z)) := ask_ok_any (by omega) HZ.out
  clear hI0 hpF7 hS7 hv7 hn7 hU7 hE7 hf7 hF6 hpr6 HS hE6 hU6 hd6 hr6 hlv hFn hF5 hf5 hf3 HZ
  have hb0 : w2.heap.size ≤ w7.heap.size := by obtain ⟨F0, hP, _⟩ := HI0.out.p; exact hP.1
  generalize w2.heap.size = b0 at *
  go_wp2
  go_loopw [14, 15] (fun ev tv wr => ∃ t : Nat, t ≤ T ∧ tv = .int .i64 t ∧ ev = .nilIface ∧ ∃ a s, Hid (EndI w Pp b0 X A B Z r P k t a s wr)) (fun _ tv _ => T - (intOf tv).toNat)
  case atStart => exact ⟨0, Nat.zero_le _, rfl, rfl, _, _, HI0⟩
  case round =>
    obtain ⟨t, ht, rfl, rfl, a, st, HI⟩ := hrel
    by_cases hlt : t < T
    · have hlt' : (t : Int) < T := by omega
      have HTK := HI.out.tick HASK.out hP1 (Int.le_trans hP8 (by decide)) (by omega) hZ1 hk6'
      clear HI
      go_wp2_with fail
      refine HTK.mono ?_
      rintro e wt ⟨rfl, a', s', hI'⟩
      have HI' : Hid (EndI w Pp b0 X A B Z r P k (t + 1) a' s' wt) := hI'
      clear HTK hI'
      go_wp2
      go_roundw
      case rel => exact ⟨t + 1, by omega, by go_num, rfl, a', s', HI'⟩
      case measure => simp [intOf]; omega
    · have htT : t = T := by omega
      have hov := HI.out.over (by omega) hP1 hk6' (by have := HT.out; omega)
      obtain ⟨rs, F8, hE8, _⟩ := HI.out.e
      have hst := hE8.sta 9
      go_wp2_with fail
      refine hst.mono ?_
      rintro e w8 ⟨s8, v8, rfl, hf8, hc8⟩
      obtain ⟨rfl, hv8⟩ : s8 = a.told ∧ v8 = .nilIface := by
        rcases hc8 with ⟨a1, ha, _, rfl, h⟩ | ⟨h, _⟩
        · obtain rfl := List.mem_singleton.1 ha
          exact ⟨rfl, err0 h⟩
        · exact absurd HI.out.i.1 (h _ (List.mem_singleton.2 rfl))
      subst hv8
      obtain ⟨F0, ⟨_, lg, ef, l, hpa, _⟩, _⟩ := HI.out.p
      have hpa8 := hpa.fr hf8 (fun _ _ => id)
      have HF8 : Hid (Fr (fun _ => False) w w8) := HI.out.f.trans hf8 (fun _ _ h => h)
      obtain ⟨aid, ast, ⟨S1, S2⟩, atr, adu⟩ := a
      obtain ⟨hid, hst9⟩ := HI.out.i
      obtain rfl : aid = 9 := hid
      obtain rfl : ast = kst 9 k := hst9
      have hcs : AS.told ⟨9, kst 9 k, (S1, S2), atr, adu⟩ = ⟨9, S1, S2, k, atr, adu⟩ := by simp [AS.told, kst_len]
      rw [hcs]
      have hef := HI.out.ef
      have hszs := HI.out.sz
      clear hst hE8 hpa hf8 hc8 hcs
      obtain ⟨lga, lgc, rfl⟩ : ∃ lga lgc, lg = .slice lga st.log.length lgc := by
        rcases hpa8.lo.2 with ⟨e, hn⟩ | ⟨g, cap, cur, e, _⟩
        · exact ⟨none, 0, by rw [e, hn]⟩
        · exact ⟨_, _, e⟩
      obtain ⟨ea, ec, rfl⟩ : ∃ ea ec, ef = .slice ea st.eff.length ec := by
        rcases hpa8.eo.2 with ⟨e, hn⟩ | ⟨g, cap, cur, e, _⟩
        · exact ⟨none, 0, by rw [e, hn]⟩
        · exact ⟨_, _, e⟩
      obtain ⟨LN, hLN⟩ : ∃ LN, LN = st.log.length := ⟨_, rfl⟩
      have hfa : Fr (fun _ => False) w8 (w8.alloc (.cells #[.int .i64 9, .int .i64 S1, .int .i64 S2, .int .i64 k, .int .i64 atr, .int .i64 adu] 42)) := (Fr.refl _ _).alloc _
      have hbx := heap_alloc_at w8 (.cells #[.int .i64 9, .int .i64 S1, .int .i64 S2, .int .i64 k, .int .i64 atr, .int .i64 adu] 42)
      have hpa9 := hpa8.fr hfa (fun _ _ => id)
      obtain ⟨W9, HW9⟩ : ∃ W9, Hid (W9 = w8.alloc (.cells #[.int .i64 9, .int .i64 S1, .int .i64 S2, .int .i64 k, .int .i64 atr, .int .i64 adu] 42)) := ⟨_, rfl⟩
      have p0 : (w8.alloc (.cells #[.int .i64 9, .int .i64 S1, .int .i64 S2, .int .i64 k, .int .i64 atr, .int .i64 adu] 42)).cell? ⟨Pp, 0, none⟩ = some (.slice lga LN lgc) := by rw [hLN]; exact (cell_of_row _ Pp 0 _ _ _ hpa9.p).trans rfl
      have HLOG : Hid (∀ (i : Nat) (p : CL × Nat), st.log[i]? = some p → ∃ gl, lga = some ⟨gl, 0, none⟩ ∧ W9.cell? ⟨gl, i * 5 + 4, none⟩ = some (.int .i64 p.2)) := fun i p hp => by
        have hi := (List.getElem?_eq_some_iff.1 hp).1
        have hlo := hpa9.lo
        rw [← HW9.out] at hlo
        rcases hlo.2 with ⟨_, h0⟩ | ⟨g, cap', cur, hv, _, hg, _, _, _, hx⟩
        · omega
        · cases hv
          refine ⟨g, rfl, (cell_of_row W9 g _ _ _ _ hg).trans ?_⟩
          have h1 := logC_get st.log i p hp
          rw [← hx, List.getElem?_take] at h1
          split at h1
          · simpa using h1
          · cases h1
      have HW : Hid (PrtAt W9 Pp b0 (.slice lga st.log.length lgc) (.slice ea st.eff.length ec) l st.log st.eff (rlOf r Z) st.at' ∧ W9.heap[w8.heap.size]? = some (.cells #[.int .i64 9, .int .i64 S1, .int .i64 S2, .int .i64 k, .int .i64 atr, .int .i64 adu] 42 (0, 0)) ∧ Fr (fun _ => False) w W9 ∧ LN = st.log.length) := by
        rw [HW9.out]
        exact ⟨hpa9, hbx, HF8.out.trans hfa (fun _ _ h => h), hLN⟩
      have hLN6 : LN ≤ 1000000 := by omega
      clear hfa hbx hpa9 hpa8 HF8 hLN
      unfold ST.cs
      go_wp2
      rw [← HW9.out] at *
      generalize w8.heap.size = Bx at *
      clear HW9
      go_loopw [18, 19] (fun nv iv wx => ∃ i : Nat, i ≤ LN ∧ iv = .int .i64 i ∧ nv = .bool (nvr (st.log.take i)) ∧ wx = W9) (fun _ iv _ => LN - (intOf iv).toNat)
      case atStart => exact ⟨0, Nat.zero_le _, rfl, rfl, rfl⟩
      case round =>
        obtain ⟨i, hi, rfl, rfl, rfl⟩ := hrel
        by_cases hiL : i < LN
        · have hiL' : (i : Int) < LN := by omega
          obtain ⟨p, hp⟩ : ∃ p, st.log[i]? = some p := ⟨_, List.getElem?_eq_getElem (by rw [← HW.out.2.2.2]; exact hiL)⟩
          obtain ⟨gl, rfl, hcl⟩ := HLOG.out i p hp
          have HNX : Hid (nvr (st.log.take (i + 1)) = (nvr (st.log.take i) || decide (p.2 = 2))) := by
            show _ = _
            unfold nvr
            rw [List.take_add_one, hp, List.any_append]
            simp
          clear hp
          cases hnv : nvr (st.log.take i)
          · have HNV : Hid (nvr (st.log.take i) = false) := hnv
            clear hnv
            by_cases h2 : p.2 = 2
            · have h2b : (((p.2 : Nat) : Int) == 2) = true := by simp [h2]
              go_wp2
              go_roundw
              case rel => exact ⟨i + 1, by omega, by go_num, by rw [HNX.out, HNV.out]; simp [h2], trivial⟩
              case measure => simp [intOf]; omega
            · have h2b : (((p.2 : Nat) : Int) == 2) = false := by simp; omega
              go_wp2
              go_roundw
              case rel => exact ⟨i + 1, by omega, by go_num, by rw [HNX.out, HNV.out]; simp [h2], trivial⟩
              case measure => simp [intOf]; omega
          · have HNV : Hid (nvr (st.log.take i) = true) := hnv
            clear hnv
            go_wp2
            go_roundw
            case rel => exact ⟨i + 1, by omega, by go_num, by rw [HNX.out, HNV.out]; rfl, trivial⟩
            case measure => simp [intOf]; omega
        · have hiN : i = LN := by omega
          have htk : st.log.take i = st.log := by rw [hiN, HW.out.2.2.2, List.take_length]
          rw [htk]
          clear htk HLOG
          have hov' : (S1 = 3 ∧ nvr st.log = false) ∨ (S1 = 4 ∧ nvr st.log = true) := hov
          obtain ⟨kk, jj, hsh, h3, h4⟩ := hef.shape
          have hlen : AS.st (⟨9, kst 9 k, (S1, S2), atr, adu⟩ : AS) = kst 9 k := rfl
          rw [hlen, kst_len] at hsh h3 h4
          have heff : st.eff.length ≤ 1000 := by omega
          clear hov hef hszs hlen HI
          rcases hov' with ⟨hs, hnv⟩ | ⟨hs, hnv⟩
          · subst hs
            rw [hnv]
            clear hnv
            have hrb : reachB ⟨9, 3, S2, k, atr, adu⟩ (mine 9 st.eff) = true := by
              obtain ⟨n1, n2⟩ := cn_shape hsh
              obtain ⟨e1, e2⟩ := h3 rfl
              rw [reachB, if_pos rfl, n1, n2]; exact decide_eq_true ⟨by show ((kk : Nat) : Int) = k; omega, by omega⟩
            clear h3 h4
            go_wp2_with fail
            refine (kStraight_ok 9 k kk jj HW.out.1.p (own_rowsC HW.out.1.eo) (by omega) hsh).mono ?_
            rintro e w10 ⟨rfl, hf10⟩
            have hbx10 := hf10.keep HW.out.2.1 (fun h => h)
            obtain ⟨x0, x1, x2, x3, x4, x5⟩ := six6e hbx10
            have hpa10 := HW.out.1.fr hf10 (fun _ _ => id)
            have HR := kReached_ok ⟨9, 3, S2, k, atr, adu⟩ hpa10.p (own_rowsC hpa10.eo) (by omega)
            have e9 : ST.id ⟨9, 3, S2, k, atr, adu⟩ = 9 := rfl
            rw [e9, hrb] at HR
            have HF10 : Hid (Fr (fun _ => False) w w10 ∧ w10.heap[Bx]? = some (.cells #[.int .i64 9, .int .i64 3, .int .i64 S2, .int .i64 k, .int .i64 atr, .int .i64 adu] 42 (0, 0))) := ⟨HW.out.2.2.1.trans hf10 (fun _ _ h => h), hbx10⟩
            unfold ST.cs at HR
            clear hf10 hbx10 hpa10 hsh hrb
            go_wp2_with fail
            refine HR.mono ?_
            rintro e w11 ⟨rfl, hf11⟩
            clear x0 x1 x2 x3 x4 x5
            obtain ⟨x0, x1, x2, x3, x4, x5⟩ := six6e (hf11.keep HF10.out.2 (fun h => h))
            have HF11 : Hid (Fr (fun _ => False) w w11) := HF10.out.1.trans hf11 (fun _ _ h => h)
            clear HR hf11
            go_wp2
            go_ret
            exact ⟨rfl, HF11.out⟩
          · subst hs
            rw [hnv]
            clear hnv
            have hrb : reachB ⟨9, 4, S2, k, atr, adu⟩ (mine 9 st.eff) = true := by
              obtain ⟨n1, n2⟩ := cn_shape hsh
              obtain ⟨e1, e2⟩ := h4 rfl
              rw [reachB, if_neg (show ¬ (4 : Int) = 3 by decide), n1, n2]; exact decide_eq_true (.inr ⟨by omega, by show ((kk : Nat) : Int) < k; omega⟩)
            clear h3 h4
            go_wp2_with fail
            refine (kStraight_ok 9 k kk jj HW.out.1.p (own_rowsC HW.out.1.eo) (by omega) hsh).mono ?_
            rintro e w10 ⟨rfl, hf10⟩
            have hbx10 := hf10.keep HW.out.2.1 (fun h => h)
            obtain ⟨x0, x1, x2, x3, x4, x5⟩ := six6e hbx10
            have hpa10 := HW.out.1.fr hf10 (fun _ _ => id)
            have HR := kReached_ok ⟨9, 4, S2, k, atr, adu⟩ hpa10.p (own_rowsC hpa10.eo) (by omega)
            have e9 : ST.id ⟨9, 4, S2, k, atr, adu⟩ = 9 := rfl
            rw [e9, hrb] at HR
            have HF10 : Hid (Fr (fun _ => False) w w10 ∧ w10.heap[Bx]? = some (.cells #[.int .i64 9, .int .i64 4, .int .i64 S2, .int .i64 k, .int .i64 atr, .int .i64 adu] 42 (0, 0))) := ⟨HW.out.2.2.1.trans hf10 (fun _ _ h => h), hbx10⟩
            unfold ST.cs at HR
            clear hf10 hbx10 hpa10 hsh hrb
            go_wp2_with fail
            refine HR.mono ?_
            rintro e w11 ⟨rfl, hf11⟩
            clear x0 x1 x2 x3 x4 x5
            obtain ⟨x0, x1, x2, x3, x4, x5⟩ := six6e (hf11.keep HF10.out.2 (fun h => h))
            have HF11 : Hid (Fr (fun _ => False) w w11) := HF10.out.1.trans hf11 (fun _ _ h => h)
            clear HR hf11
            go_wp2
            go_ret
            exact ⟨rfl, HF11.out⟩
end Go.Proofs.YteebjgfalllbjaaGreatDoor
