import Derived.Test.YteebjgfalllbjaaGreatDoorCKy
namespace Go.Proofs.YteebjgfalllbjaaGreatDoor
open Go.RowKit
theorem ndF_pos (c : Int) {k : Nat} (h : 1 ≤ k) : 4 ≤ ndF c k := by
  have h1 := ndF_mono c h
  have h2 : ndF c 1 = 0 + 2 * kmn c ((0 + 1 : Nat) : Int) + 2 := rfl
  have := kmn_in c ((0 + 1 : Nat) : Int)
  omega
theorem SpI.frz {w0 W W' : World} {Pp b0 X A B Z N : Nat} {r : List Int} {c : Int} {q t : Nat} {L : List AS} {s : PSt} (h : SpI w0 Pp b0 X A B Z N r c q t L s W) (hf : Fr (fun _ => False) W W') : SpI w0 Pp b0 X A B Z N r c q t L s W' := by
  obtain ⟨⟨rs, F, hE, hU, hFn⟩, ⟨F0, ⟨h1, lg, ef, l, h2, h3⟩, hFn0⟩, hAB, hf0, h4, h5, h6, h7, h8, h9, h10, h11⟩ := h
  exact ⟨⟨rs, F, hE.fr hf (fun h => h) (fun h => h) (fun _ _ h => h), fun b hb => by obtain ⟨c, t, hc, ht⟩ := hU b hb; exact ⟨c, t, hf.keep hc (fun h => h), ht⟩, hFn⟩, ⟨F0, ⟨Nat.le_trans h1 hf.size, lg, ef, l, h2.fr hf (fun _ _ h => h), h3⟩, hFn0⟩, hAB, hf0.trans hf (fun _ _ h => h), h4, h5, h6, h7, h8, h9, h10, h11⟩
/-- Ahead of the last ticks. -/
theorem SpI.pot0 {w0 W : World} {Pp b0 X A B Z N : Nat} {r : List Int} {c : Int} {q t : Nat} {L : List AS} {s : PSt} (h : SpI w0 Pp b0 X A B Z N r c q t L s W) (hr : r.length ≤ 60) : ∀ a ∈ L, pot r.length 1 t a s.at' ≤ 71 := by
  intro a ha
  obtain ⟨rs, F, hE, _⟩ := h.e
  have h1 := (hE.1.mem ha).1
  have h2 := h.du a ha
  have h3 : a.left ≤ 11 := by
    have := h1.l6
    unfold AS.left
    by_cases e1 : a.S.1 = 1
    · rw [if_pos e1]
      have := (h1.p (.inl e1)).1
      omega
    · rw [if_neg e1]
      by_cases e2 : a.S.1 = 2
      · rw [if_pos e2]
        have := (h1.p (.inr e2)).2
        omega
      · rw [if_neg e2]; omega
  unfold pot
  omega
set_option maxRecDepth 100000 in
set_option maxHeartbeats 8000000 in
theorem spare_ok (w : World) {la : Option Addr} {zs : List Int} (cap : Nat) (hl : IntsAt w la zs) (hzs : ∀ z ∈ zs, I64 z) (c n : Int) (hc : I64 c) (hn : I64 n) : Calls Tryz.prog 13 #[.int .i64 c, .slice la zs.length cap, .int .i64 n] w fun e w' => e = .returned (.bool true) ∧ Fr (fun _ => False) w w' := by
  obtain ⟨kz, HKZ, hk12⟩ : ∃ p : Nat, Hid ((p : Int) = kpk n 12) ∧ p < 12 := ⟨(kpk n 12).toNat, (by have := kpk_in n 12 (by decide); show (((kpk n 12).toNat : Nat) : Int) = kpk n 12; omega), by have := kpk_in n 12 (by decide); omega⟩
  obtain ⟨nd, km, HNK⟩ : ∃ (nd km : Nat → Nat), Hid (nd = ndF c ∧ km = fun q => kmn c ((q + 1 : Nat) : Int)) := ⟨_, _, rfl, rfl⟩
  have HNS : Hid (∀ q, nd (q + 1) = nd q + 2 * km q + 2) := fun q => by rw [HNK.out.1, HNK.out.2]; rfl
  have HKI : Hid (∀ q, 1 ≤ km q ∧ km q ≤ 6) := fun q => by rw [HNK.out.2]; exact kmn_in c _
  have HND : Hid (∀ q, q ≤ 12 → nd q ≤ 168) := fun q hq => by rw [HNK.out.1]; have := ndF_le c q; omega
  have HMN : Hid (∀ q p, q ≤ p → nd q ≤ nd p) := fun q p h => by rw [HNK.out.1]; exact ndF_mono c h
  have hn0 : nd 0 = 0 := by rw [HNK.out.1]; rfl
  obtain ⟨k, hk⟩ : ∃ k, k = 1 + kz := ⟨_, rfl⟩
  have ek : wrap64 (1 + (kz : Int)) = k := by rw [wrap64_id (by omega)]; omega
  have hk1 : 1 ≤ k := by omega
  have hk2 : k ≤ 12 := by omega
  have hnd4 : 4 ≤ nd k := by rw [HNK.out.1]; exact ndF_pos c hk1
  have hnd168 : nd k ≤ 168 := HND.out k hk2
  clear hk hk12
  obtain ⟨m, hm⟩ : ∃ m, m = min 60 zs.length := ⟨_, rfl⟩
  obtain ⟨Z, hZ⟩ : ∃ Z : Nat, Z = 300 := ⟨_, rfl⟩
  have HZ : Hid (∀ z ∈ rlOf (zs.take m) Z, -9223372036854775808 ≤ z ∧ z ≤ 9223372036854775807) := intsOk_rl hzs m Z
  have hm60 : m ≤ 60 := by omega
  have hml : (zs.take m).length = m := by rw [List.length_take]; omega
  have HF := kFew_ok w cap hl 60 (by decide)
  rw [← hm] at HF
  clear hl hzs hm
  go_enter Tryz.func13, Tryz.ntmps13
  go_wp2_with fail
  refine HF.mono ?_
  rintro e w1 ⟨ao, c1, rfl, hf1, hown1⟩
  clear HF
  obtain ⟨inf, hi0, hz0, hz1, hz2⟩ := info_parts int_info
  obtain ⟨v2, w2, hrun, hown2, hgrow2, a2, c2, rfl⟩ := run_own_zeros (k := Z) hi0 hz0 hz1 hz2 hown1 (by omega) (by omega) (by omega) hf1.size 24
  have hf2 : Fr (fun _ => False) w w2 := hf1.grown hgrow2 (fun b hb hb2 => by have := (hown1.lt b hb2).1; omega)
  have hown3 : w2.ownsRow w.heap.size 3 1 (.slice a2 (m + Z) c2) (rlOf (zs.take m) Z).length ((rlOf (zs.take m) Z).map fun x => Value.int .i64 x) := by
    have e1 : (rlOf (zs.take m) Z).length = m + Z := by rw [rlOf, List.length_append, hml, List.length_replicate]
    have e2 : ((rlOf (zs.take m) Z).map fun x => Value.int .i64 x) = intC (zs.take m) ++ List.replicate Z (.int .i64 0) := by rw [rlOf, List.map_append, List.map_replicate]; rfl
    rw [e1, e2]
    exact hown2
  obtain ⟨r, hr⟩ : ∃ r, r = zs.take m := ⟨_, rfl⟩
  rw [← hr] at hown3 HZ hml
  have hrl : (rlOf r Z).length ≤ 1000 := by rw [rlOf, List.length_append, hml, List.length_replicate]; omega
  have HP := NewPartner_rows hown3 (by omega)
  have hZi : ((Z : Nat) : Int) = 300 := by omega
  rw [hZi] at hrun
  have hZ1 : 200 ≤ Z := by omega
  have HRun : Hid ((Builtin.append_ #[24, 3] 24 #[.slice ao m c1, .int .i64 300]).run Tryz.prog w1 = .ok (.slice a2 (m + Z) c2) w2) := hrun
  clear hown1 hown2 hown3 hgrow2 hf1 hr hrun hZ hZi
  go_wp2_with (first | (at_builtin; refine Lib.wpList_append_run w1 rfl (.tmp 22) (.const (.int .i64 300)) 24 3 rfl (.slice ao m c1) (.int .i64 300) rfl rfl _ _ HRun.out ?_))
  clear HRun
  refine HP.mono ?_
  rintro e w3 ⟨Pp, lv, rfl, hPp, hpr, hlv, hf3⟩
  have hF3 := hf2.trans hf3 (fun _ _ h => h)
  have hz23 := hf2.size
  clear HP hf2
  go_wp2_with fail
  refine (kPick_ok n 12 w3 hn.1 hn.2 (by decide) (by decide)).mono ?_
  rw [← HKZ.out]
  rintro e w4 ⟨rfl, rfl⟩
  clear HKZ hn
  go_wp2
  rw [ek]
  clear ek
  go_loopw [10, 11] (fun nv iv wr => ∃ q : Nat, q ≤ k ∧ iv = .int .i64 ((q : Int) + 1) ∧ nv = .int .i64 (4 + (nd q : Nat)) ∧ wr = w4) (fun _ iv _ => k + 1 - (intOf iv).toNat)
  case atStart => exact ⟨0, Nat.zero_le _, rfl, by rw [hn0]; rfl, rfl⟩
  case round =>
    obtain ⟨q, hq, rfl, rfl, rfl⟩ := hrel
    by_cases hlt : q < k
    · have hlt' : (q : Int) + 1 ≤ k := by omega
      have h168 := HND.out q (by omega)
      have HKM := kMany_ok c ((q + 1 : Nat) : Int) wr hc.1 hc.2 (by omega) (by omega)
      have hki := HKI.out q
      have HN := HNS.out q
      have ekm : kmn c ((q + 1 : Nat) : Int) = km q := by rw [HNK.out.2]
      rw [ekm] at HKM
      generalize km q = kn at *
      have HN2 : Hid (nd (q + 1) = nd q + 2 * kn + 2) := HN
      clear ekm HN
      generalize nd q = nq at *
      have eq1 : ((q + 1 : Nat) : Int) = (q : Int) + 1 := by push_cast; rfl
      rw [eq1] at HKM
      clear eq1
      have hq1 : q + 1 ≤ k := by omega
      have hq2 : (q : Int) ≤ 12 := by omega
      have hn2 : (nq : Int) ≤ 168 := by omega
      have hk6 : (kn : Int) ≤ 6 := by omega
      go_wp2_with fail
      refine HKM.mono ?_
      rintro e w' ⟨rfl, rfl⟩
      go_wp2
      go_roundw
      case rel => exact ⟨q + 1, hq1, by push_cast; rfl, by rw [HN2.out]; push_cast; congr 1; omega, trivial⟩
      case measure => simp [intOf]; omega
    · have hqk : q = k := by omega
      subst hqk
      obtain ⟨N, hN⟩ : ∃ N : Nat, (N : Int) = 4 + (nd q : Nat) := ⟨4 + nd q, by push_cast; rfl⟩
      have hN8 : 8 ≤ N := by omega
      have hN4 : N ≤ 400 := by omega
      have hNq : 4 + nd q = N := by omega
      have HNQ : Hid (4 + nd q = N) := hNq
      rw [← hN]
      clear hnd4 hnd168 hNq hN hn0
      have hn8' : ¬ (N : Int) < 8 := by omega
      go_wp2_with fail
      refine (kBegun_ok wr N Pp 1 hN8 hN4 (by decide) (by decide)).mono ?_
      rintro e w5 ⟨X, A, B, F, rfl, hE, hU, hFn, hA, hB, hf5⟩
      have hF5 := hF3.trans hf5 (fun _ _ h => h)
      have hz34 := hf3.size
      have hpr5 := hpr.fr hf5 (fun _ _ => id)
      have hz5 := hf5.size
      have hI0 : SpI w Pp w2.heap.size X A B Z N r c 0 0 [] ⟨[], [], 0⟩ w5 :=
        ⟨⟨_, F, hE, hU, fun b hb => by have := hFn b hb; omega⟩, ⟨_, ⟨by omega, _, _, _, hpr5, fun _ => Iff.rfl⟩, fun b hb => by
          rcases hb with h | h | h | h
          · omega
          · cases h
          · cases h
          · have := hlv b h; omega⟩, ⟨by omega, by omega⟩, hF5, rfl, (fun a ha => by cases ha), rfl, (fun a ha => by cases ha), (fun _ _ => rfl), ⟨Nat.zero_le _, Nat.zero_le _⟩, (fun a ha => by cases ha), Nat.le_refl _⟩
      have HI0 : Hid (SpI w Pp w2.heap.size X A B Z N r c 0 0 [] ⟨[], [], 0⟩ w5) := hI0
      have HASK : Hid (AskOk Pp w2.heap.size (rlOf r Z)) := ask_ok_any (by omega) HZ.out
      have hrm : r.length ≤ 60 := by omega
      clear hI0 hpr5 hF5 hE hU hFn hA hB hf5 hpr hlv hf3 hF3 HZ hPp hz34 hz5 hz23 hml hrl
      generalize w2.heap.size = b0 at *
      go_wp2
      go_loopw [14, 15] (fun iv ev wr => ∃ (p : Nat) (L : List AS) (s : PSt), p ≤ q ∧ iv = .int .i64 ((p : Int) + 1) ∧ Hid (SpI w Pp b0 X A B Z N r c p p L s wr)) (fun iv _ _ => q + 1 - (intOf iv).toNat)
      case atStart => exact ⟨0, _, _, Nat.zero_le _, rfl, HI0⟩
      case round =>
        obtain ⟨p, L, s, hp, rfl, HI⟩ := hrel
        by_cases hpq : p < q
        · have hpq' : (p : Int) + 1 ≤ q := by omega
          have hp12 : (p : Int) ≤ 12 := by omega
          have hp1 : p + 1 ≤ q := by omega
          have HKM := kMany_ok c ((p + 1 : Nat) : Int) wr hc.1 hc.2 (by omega) (by omega)
          have hki := HKI.out p
          have ekm : kmn c ((p + 1 : Nat) : Int) = km p := by rw [HNK.out.2]
          have eq1 : ((p + 1 : Nat) : Int) = (p : Int) + 1 := by push_cast; rfl
          have hNp : 4 + ndF c (p + 1) ≤ N := by
            have h1 := HMN.out (p + 1) q hp1
            have h2 := HNQ.out
            rw [HNK.out.1] at h1 h2
            omega
          have HNP : Hid (4 + ndF c (p + 1) ≤ N) := hNp
          rw [ekm, eq1] at HKM
          have HKS := kSteps_ok wr (p + 1) (km p) (by omega) (by omega)
          rw [eq1] at HKS
          have HSUB : Hid (∀ (W : World) (g cap' : Nat), Fr (fun _ => False) wr W → RowsOf W (some ⟨g, 0, none⟩) 2 ((kst (p + 1) (km p)).map stv) → Calls Tryz.prog 21 #[.pointer (some ⟨X, 0, none⟩), .int .i64 ((p : Int) + 1), .slice (some ⟨g, 0, none⟩) (km p) cap'] W fun e w' => e = .returned .nilIface ∧ ∃ L', SpI w Pp b0 X A B Z N r c (p + 1) p L' s w') := fun W g cap' hfW hrows => by
            have := (HI.out.frz hfW).sub (by omega) (by omega) hNp (g := g) cap' (by rw [ekm]; exact hrows)
            rw [ekm, eq1] at this
            exact this
          clear hNp ekm eq1
          generalize km p = kn at *
          go_wp2_with fail
          refine HKM.mono ?_
          rintro e w6 ⟨rfl, rfl⟩
          go_wp2_with fail
          refine HKS.mono ?_
          rintro e w7 ⟨ao7, cap7, rfl, hks⟩
          obtain ⟨g7, rfl⟩ := own_someS hks.2 hki.1
          have HS := HSUB.out w7 g7 cap7 hks.1 (own_rowsS hks.2)
          clear HKM HKS HSUB hks
          go_wp2_with fail
          refine HS.mono ?_
          rintro e w8 ⟨rfl, L8, hI8⟩
          have HT := hI8.tick HASK.out (by omega) (by omega) hZ1
          clear HS hI8
          go_wp2_with fail
          refine HT.mono ?_
          rintro e w9 ⟨rfl, L9, s9, hI9, _⟩
          have HI9 : Hid (SpI w Pp b0 X A B Z N r c (p + 1) (p + 1) L9 s9 w9) := hI9
          clear HT hI9
          go_wp2
          go_roundw
          case rel => exact ⟨p + 1, L9, s9, hp1, by push_cast; rfl, HI9⟩
          case measure => simp [intOf]; omega
        · have hpq0 : p = q := by omega
          subst hpq0
          have hpt0 := HI.out.pot0 hrm
          have HP0 : Hid (∀ a ∈ L, pot r.length 1 p a s.at' ≤ 71) := hpt0
          clear hpt0
          have hnle : ¬ (p : Int) + 1 ≤ p := by omega
          go_wp2
          go_loopw [16, 17] (fun tv ev wx => ∃ (t : Nat) (L : List AS) (s : PSt), t ≤ 120 ∧ tv = .int .i64 t ∧ Hid (SpI w Pp b0 X A B Z N r c p (p + t) L s wx ∧ ∀ a ∈ L, a.open → pot r.length 1 ((p + t : Nat) : Int) a s.at' + t ≤ 71)) (fun tv _ _ => 120 - (intOf tv).toNat)
          case atStart => exact ⟨0, L, s, Nat.zero_le _, rfl, HI.out, fun a ha _ => by have := HP0.out a ha; simpa using this⟩
          case round =>
            obtain ⟨t, L2, s2, ht, rfl, HI2⟩ := hrel
            by_cases htl : t < 120
            · have htl' : (t : Int) < 120 := by omega
              have HT := HI2.out.1.tick HASK.out (by omega) (by omega) hZ1
              have HPT : Hid (∀ a ∈ L2, a.open → pot r.length 1 ((p + t : Nat) : Int) a s2.at' + t ≤ 71) := HI2.out.2
              clear HI2
              go_wp2_with fail
              refine HT.mono ?_
              rintro e w9 ⟨rfl, L9, s9, hI9, hp9⟩
              have HI9 : Hid (SpI w Pp b0 X A B Z N r c p (p + (t + 1)) L9 s9 w9 ∧ ∀ a ∈ L9, a.open → pot r.length 1 ((p + (t + 1) : Nat) : Int) a s9.at' + ((t + 1 : Nat) : Int) ≤ 71) := ⟨hI9, fun b hb ho => by
                obtain ⟨a, ha, ho', hpt⟩ := hp9 b hb ho
                have := HPT.out a ha ho'
                rw [show p + (t + 1) = p + t + 1 by omega]
                push_cast
                push_cast at hpt this
                omega⟩
              clear HT hI9 hp9
              go_wp2
              go_roundw
              case rel => exact ⟨t + 1, L9, s9, by omega, by go_num, HI9⟩
              case measure => simp [intOf]; omega
            · have ht0 : t = 120 := by omega
              obtain ⟨rs, F, hE, _⟩ := HI2.out.1.e
              obtain ⟨F0, ⟨_, lg, ef, lx, hpa, _⟩, _⟩ := HI2.out.1.p
              obtain ⟨calls, writes, hd, _⟩ := hE.disk
              have HA := hE.all 100
              have hln := HI2.out.1.ln
              have e100 : L2.take (100 : Int).toNat = L2 := List.take_of_length_le (by show L2.length ≤ 100; omega)
              rw [e100] at HA
              have HCL : Hid (∀ a ∈ L2, a.told.state = 3 ∧ reachB a.told (mine a.told.id s2.eff) = true ∨ a.told.state = 4 ∧ reachB a.told (mine a.told.id s2.eff) = true) := fun a ha => by
                have hno : ¬ a.open := fun ho => by
                  have h1 := HI2.out.2 a ha ho
                  have h2 := (hE.1.mem ha).1.left1 ho
                  unfold pot at h1
                  omega
                obtain ⟨nv, hef⟩ := HI2.out.1.ef a ha
                obtain ⟨kk, jj, hsh, h3, h4⟩ := hef.shape
                obtain ⟨n1, n2⟩ := cn_shape hsh
                have hs : a.S.1 = 3 ∨ a.S.1 = 4 := by
                  rcases hef with ⟨h, _⟩ | ⟨h, _⟩ | ⟨h, _⟩ | ⟨h, _⟩
                  · exact absurd (.inl h) hno
                  · exact .inl h
                  · exact absurd (.inr h) hno
                  · exact .inr h
                have hid : a.told.id = a.id := rfl
                have hst : a.told.state = a.S.1 := rfl
                have hsp : a.told.steps = (a.st.length : Nat) := rfl
                rcases hs with hs | hs
                · left
                  refine ⟨hs, ?_⟩
                  obtain ⟨e1, e2⟩ := h3 hs
                  rw [reachB, hst, if_pos hs, hid, n1, n2, hsp]
                  exact decide_eq_true ⟨by omega, by omega⟩
                · right
                  refine ⟨hs, ?_⟩
                  obtain ⟨e1, e2⟩ := h4 hs
                  rw [reachB, hst, if_neg (by omega), hid, n1, n2, hsp]
                  exact decide_eq_true (.inr ⟨by omega, by omega⟩)
              obtain ⟨ea, ec, rfl⟩ : ∃ ea ec, ef = .slice ea s2.eff.length ec := by
                rcases hpa.eo.2 with ⟨e, hn⟩ | ⟨g, cap, cur, e, _⟩
                · exact ⟨none, 0, by rw [e, hn]⟩
                · exact ⟨_, _, e⟩
              have heff : s2.eff.length ≤ 1000000 := by have := HI2.out.1.sz; omega
              have HW0 : Hid (PrtAt wr Pp b0 lg (.slice ea s2.eff.length ec) lx s2.log s2.eff (rlOf r Z) s2.at' ∧ DiskAt wr A B N (.slice none 0 0) calls writes ∧ Fr (fun _ => False) w wr) := ⟨hpa, hd, HI2.out.1.f⟩
              clear hpa hd hE HI2 e100 HP0 HI
              have htn : ¬ (t : Int) < 120 := by omega
              go_wp2_with fail
              refine HA.mono ?_
              rintro e wa ⟨aa, ca, rfl, hrows, hfa⟩
              rw [List.length_map, hln]
              have HWA : Hid (RowsOf wa aa 6 ((L2.map AS.told).map ST.cs) ∧ Fr (fun _ => False) wr wa) := ⟨hrows, hfa⟩
              clear HA hrows hfa
              go_wp2
              go_loopw [19, 20] (fun iv sv wx => ∃ i : Nat, i ≤ p ∧ iv = .int .i64 i ∧ Hid (Fr (fun _ => False) wa wx)) (fun iv _ _ => p - (intOf iv).toNat)
              case atStart => exact ⟨0, Nat.zero_le _, rfl, Fr.refl _ _⟩
              case round =>
                obtain ⟨i, hi, rfl, HR⟩ := hrel
                by_cases hil : i < p
                · have hil' : (i : Int) < p := by omega
                  obtain ⟨a, ha⟩ : ∃ a, L2[i]? = some a := ⟨_, List.getElem?_eq_getElem (by omega)⟩
                  obtain ⟨g, off, rfl, hrg⟩ := HWA.out.1 i a.told.cs (by simp [ha])
                  have hcl := HCL.out a (List.mem_of_getElem? ha)
                  have hfw := (HWA.out.2.trans HR.out (fun _ _ h => h))
                  have hpaw := HW0.out.1.fr hfw (fun _ _ h => h)
                  have HRE := kReached_ok a.told hpaw.p (own_rowsC hpaw.eo) heff
                  generalize a.told = tt at *
                  obtain ⟨tid, ts, tst, tsn, ttr, tdu⟩ := tt
                  obtain ⟨hrb, hst3⟩ : reachB ⟨tid, ts, tst, tsn, ttr, tdu⟩ (mine tid s2.eff) = true ∧ ¬ ts < 3 := by
                    rcases hcl with ⟨h1, h2⟩ | ⟨h1, h2⟩
                    · exact ⟨h2, by have : ts = 3 := h1; omega⟩
                    · exact ⟨h2, by have : ts = 4 := h1; omega⟩
                  have e9 : ST.id ⟨tid, ts, tst, tsn, ttr, tdu⟩ = tid := rfl
                  rw [e9, hrb] at HRE
                  have HRG : Hid (wa.rangeAt g (off + i * 6) [.int .i64 tid, .int .i64 ts, .int .i64 tst, .int .i64 tsn, .int .i64 ttr, .int .i64 tdu]) := hrg
                  have hrw := range_fr HRG.out HR.out
                  have d0 : wr.cell? ⟨g, off + i * 6, none⟩ = some (.int .i64 tid) := hrw 0 _ rfl
                  have d1 : wr.cell? ⟨g, off + i * 6 + 1, none⟩ = some (.int .i64 ts) := hrw 1 _ rfl
                  have d2 : wr.cell? ⟨g, off + i * 6 + 2, none⟩ = some (.int .i64 tst) := hrw 2 _ rfl
                  have d3 : wr.cell? ⟨g, off + i * 6 + 3, none⟩ = some (.int .i64 tsn) := hrw 3 _ rfl
                  have d4 : wr.cell? ⟨g, off + i * 6 + 4, none⟩ = some (.int .i64 ttr) := hrw 4 _ rfl
                  have d5 : wr.cell? ⟨g, off + i * 6 + 5, none⟩ = some (.int .i64 tdu) := hrw 5 _ rfl
                  unfold ST.cs at HRE
                  clear ha hrg hcl hfw hpaw hrw hrb e9
                  go_wp2_with fail
                  refine HRE.mono ?_
                  rintro e wb ⟨rfl, hfb⟩
                  have HRb : Hid (Fr (fun _ => False) wa wb) := HR.out.trans hfb (fun _ _ h => h)
                  clear d0 d1 d2 d3 d4 d5
                  have d1 : wb.cell? ⟨g, off + i * 6 + 1, none⟩ = some (.int .i64 ts) := range_fr HRG.out HRb.out 1 _ rfl
                  clear HRE hfb
                  go_wp2
                  go_roundw
                  case rel => exact ⟨i + 1, by omega, by go_num, HRb⟩
                  case measure => simp [intOf]; omega
                · have hip : i = p := by omega
                  subst hip
                  have hFW := HWA.out.2.trans HR.out (fun _ _ h => h)
                  have hdw := HW0.out.2.1.fr hFW (fun h => h)
                  have hFF := HW0.out.2.2.trans hFW (fun _ _ h => h)
                  have HTO := dTold_ok hdw
                  clear hdw
                  go_wp2_with fail
                  refine HTO.mono ?_
                  rintro e wc ⟨rfl, rfl⟩
                  have HFF : Hid (Fr (fun _ => False) w wc) := hFF
                  clear HTO hFF hFW
                  go_wp2
                  go_ret
                  exact ⟨rfl, HFF.out⟩
end Go.Proofs.YteebjgfalllbjaaGreatDoor
