import Derived.Test.YteebjgfalllbjaaGreatDoorCYmYnYo
namespace Go.Proofs.YteebjgfalllbjaaGreatDoor
open Go.RowKit
set_option maxRecDepth 100000 in
set_option maxHeartbeats 4000000 in
theorem again_ok (w : World) {lr la : Option Addr} {rr zs : List Int} (cr cap : Nat) (hlr : IntsAt w lr rr) (hri : ∀ z ∈ rr, I64 z) (hl : IntsAt w la zs) (c a0 : Int) (hc : I64 c) (ha0 : I64 a0) (hG : GOk w) :
    Calls Tryz.prog 11 #[.int .i64 c, .slice lr rr.length cr, .int .i64 a0, .slice la zs.length cap] w fun e w' => e = .returned (.bool true) ∧ Fr (fun _ => False) w w' := by
  have HL : Hid (IntsAt w la zs) := hl
  obtain ⟨hc1, hc2⟩ := hc
  obtain ⟨ha1, ha2⟩ := ha0
  obtain ⟨n1, hn1⟩ : ∃ n1, n1 = kmn c 1 := ⟨_, rfl⟩
  obtain ⟨n2, hn2⟩ : ∃ n2, n2 = kmn c 2 := ⟨_, rfl⟩
  obtain ⟨x1, x6⟩ := kmn_in c 1
  obtain ⟨y1, y6⟩ := kmn_in c 2
  rw [← hn1] at x1 x6
  rw [← hn2] at y1 y6
  obtain ⟨pk, hpk⟩ : ∃ pk, pk = kpk a0 12 := ⟨_, rfl⟩
  obtain ⟨pk0, pk1⟩ := kpk_in a0 12 (by decide)
  rw [← hpk] at pk0 pk1
  have hGl : 0 < w.heap.size := World.block_lt_of_cell? w _ hG
  have HM1 := fun W => kMany_ok c 1 W hc1 hc2 (by decide) (by decide)
  have HM2 := fun W => kMany_ok c 2 W hc1 hc2 (by decide) (by decide)
  have HP := fun W => kPick_ok a0 12 W ha1 ha2 (by decide) (by decide)
  rw [← hn1] at HM1
  rw [← hn2] at HM2
  rw [← hpk] at HP
  have HFW := kFew_ok w cr hlr 60 (by decide)
  obtain ⟨rl, hrl⟩ : ∃ rl, rl = rr.take (min 60 rr.length) := ⟨_, rfl⟩
  have hrll : rl.length = min 60 rr.length := by rw [hrl, List.length_take]; omega
  have hrli : ∀ z ∈ rl, -9223372036854775808 ≤ z ∧ z ≤ 9223372036854775807 := fun z hz => by
    rw [hrl] at hz
    obtain ⟨h1, h2⟩ := hri z (List.mem_of_mem_take hz)
    exact ⟨by omega, by omega⟩
  have hr60 : rl.length ≤ 60 := by omega
  have HFW2 : Calls Tryz.prog 17 #[.slice lr rr.length cr, .int .i64 (60 : Nat)] w fun e w' => ∃ ao c, e = .returned (.slice ao rl.length c) ∧ Fr (fun _ => False) w w' ∧ w'.ownsRow w.heap.size 3 1 (.slice ao rl.length c) rl.length (rl.map fun x => Value.int .i64 x) := HFW.mono (by
    rintro e w0 ⟨ao0, cap0, rfl, hf0, hown0⟩
    rw [hrll, hrl]
    exact ⟨ao0, cap0, rfl, hf0, hown0⟩)
  have hok1 := kst_ok (id := 1) x1 x6 (k := 1) (by decide) (by decide)
  have hok2 := kst_ok (id := 2) y1 y6 (k := 2) (by decide) (by decide)
  have hnd2 : needC [Rec.take 1 (kst 1 n1), Rec.take 2 (kst 2 n2)] ≤ 24 := by rw [need12.2]; omega
  clear hn1 hn2 hpk hl hlr hri HFW hrl hrll
  go_enter Tryz.func11, Tryz.ntmps11
  go_wp2_with fail
  refine HFW2.mono ?_
  rintro e w0 ⟨ao0, cap0, rfl, hf0, hown0⟩
  go_wp2_with fail
  refine (NewPartner_rows hown0 (by omega)).mono ?_
  rintro e w1 ⟨Pp, lv, rfl, hPp, hpr, hlv, hf1⟩
  go_wp2_with fail
  refine (kBegun_ok w1 120 Pp 2 (by decide) (by decide) (by decide) (by decide)).mono ?_
  rintro e w2 ⟨X, A, B, F, rfl, hE2, hU2, hFn2, hA2, hB2, hf2⟩
  have hs0 := hf0.size
  have hs1 := hf1.size
  have hs2 := hf2.size
  obtain ⟨s2, hE2', hg2, _, _⟩ := hE2.eg w1.heap.size (by omega) hA2 hB2 hFn2
  have hF2 : Fr (fun _ => False) w w2 := (hf0.trans hf1 (fun _ _ h => h)).trans hf2 (fun _ _ h => h)
  have hpr2 := hpr.fr hf2 (fun _ _ h => h)
  have hpl : ∀ b, PartF Pp (.slice none 0 0) (.slice none 0 0) lv b → b < w1.heap.size := fun b hb => by obtain ⟨c, t, hc, _⟩ := hpr.ty hb; exact lt_of_heap hc
  have hpw : ∀ b, PartF Pp (.slice none 0 0) (.slice none 0 0) lv b → w.heap.size ≤ b := fun b hb => by
    rcases hb with h | h | h | h
    · omega
    · cases h
    · cases h
    · have := hlv b h; omega
  clear hE2 hf0 hf1 hf2 hpr hown0 HFW2
  go_wp2_with fail
  refine (HM1 w2).mono ?_
  rintro e w2' ⟨rfl, e2⟩
  rw [e2]
  clear e2 w2'
  go_wp2_with fail
  refine (kSteps_ok w2 1 n1 (by decide) (by omega)).mono ?_
  rintro e w3 ⟨ao3, cap3, rfl, hks3⟩
  obtain ⟨g3, rfl⟩ := own_someS hks3.2 x1
  have hE3 := hE2'.fr hks3.1 id id (fun _ h => h.elim) (fun _ _ => id)
  have hpr3 := hpr2.fr hks3.1 (fun _ _ h => h)
  have hF3 := hF2.trans hks3.1 (fun _ _ h => h)
  have hrows3 := own_rowsS hks3.2
  have hs3 := hks3.1.size
  clear hks3 hE2' hU2 hpr2 hF2
  have HS1 := hE3.new (cap := cap3) hg2 (by decide) (by decide) (hG.fr hF3 (fun h => h)) 1 (kst 1 n1) hok1 (fun a ha => by cases ha) (by rw [kst_len]; show 1 + 0 + 2 * n1 ≤ 120; omega) hrows3
  rw [kst_len] at HS1
  go_wp2_with fail
  refine HS1.mono ?_
  rintro e w4 ⟨rfl, s4, C4, F4, hE4, hg4, hJ4, hU4, hC4, hF4, hf4⟩
  have hC4' : ∀ b, C4 b → w1.heap.size ≤ b := fun b hb => (hC4 b hb).elim (fun h => h.elim) (fun h => by omega)
  have hF4' : ∀ b, F4 b → w1.heap.size ≤ b := fun b hb => (hF4 b hb).elim (hFn2 b) (fun h => by omega)
  have hfw : ∀ {wa wb : World} {C F : Nat → Prop}, Fr (fun b => b = A ∨ b = B ∨ C b ∨ F b) wa wb → (∀ b, C b → w1.heap.size ≤ b) → (∀ b, F b → w1.heap.size ≤ b) → Fr (fun b => w1.heap.size ≤ b) wa wb := fun h h1 h2 => h.mono (fun b _ hb => by
    rcases hb with hb | hb | hb | hb
    · omega
    · omega
    · exact h1 b hb
    · exact h2 b hb)
  have hf4' := hfw hf4 (fun _ h => h.elim) hFn2
  have hF4w : Fr (fun _ => False) w w4 := hF3.trans hf4' (fun b hb h => by omega)
  have hpr4 := hpr3.fr hf4' (fun b hb h => by have := hpl b hb; omega)
  have hs4 := hf4.size
  clear HS1 hE3 hpr3 hF3 hrows3 hf4 hf4' hC4 hF4 hJ4 hU4
  go_wp2_with fail
  refine (HM2 w4).mono ?_
  rintro e w4' ⟨rfl, e4⟩
  rw [e4]
  clear e4 w4'
  go_wp2_with fail
  refine (kSteps_ok w4 2 n2 (by decide) (by omega)).mono ?_
  rintro e w5 ⟨ao5, cap5, rfl, hks5⟩
  obtain ⟨g5, rfl⟩ := own_someS hks5.2 y1
  have hE5 := hE4.fr hks5.1 id id (fun _ _ => id) (fun _ _ => id)
  have hpr5 := hpr4.fr hks5.1 (fun _ _ h => h)
  have hF5w := hF4w.trans hks5.1 (fun _ _ h => h)
  have hrows5 := own_rowsS hks5.2
  have hs5 := hks5.1.size
  clear hks5 hE4 hpr4 hF4w
  have HS2 := hE5.new (cap := cap5) hg4 (by decide) (by show 1 + 1 < 100; decide) (hG.fr hF5w (fun h => h)) 2 (kst 2 n2) hok2 (fun a ha => by
    have ha : a ∈ [newA 1 (kst 1 n1)] := ha
    obtain rfl := List.mem_singleton.1 ha
    show ¬ (1 : Int) = 2; decide) (by rw [kst_len]; show 1 + ((2 * (kst 1 n1).length) + 0) + 2 * n2 ≤ 120; rw [kst_len]; omega) hrows5
  rw [kst_len] at HS2
  go_wp2_with fail
  refine HS2.mono ?_
  rintro e w6 ⟨rfl, s6, C6, F6, hE6, hg6, hJ6, hU6, hC6, hF6, hf6⟩
  have hC6' : ∀ b, C6 b → w1.heap.size ≤ b := fun b hb => (hC6 b hb).elim (hC4' b) (fun h => by omega)
  have hF6' : ∀ b, F6 b → w1.heap.size ≤ b := fun b hb => (hF6 b hb).elim (hF4' b) (fun h => by omega)
  have hf6' := hfw hf6 hC4' hF4'
  have hF6w : Fr (fun _ => False) w w6 := hF5w.trans hf6' (fun b hb h => by omega)
  have hpr6 := hpr5.fr hf6' (fun b hb h => by have := hpl b hb; omega)
  have hs6 := hf6.size
  have hJZ6 := hJ6.jz
  obtain ⟨L6, hL6⟩ : ∃ L6, L6 = insA (newA 2 (kst 2 n2)) (insA (newA 1 (kst 1 n1)) []) := ⟨_, rfl⟩
  obtain ⟨rs6, hrs6⟩ : ∃ rs6, rs6 = ([] ++ [Rec.take (1 : Int).toNat (kst 1 n1)]) ++ [Rec.take (2 : Int).toNat (kst 2 n2)] := ⟨_, rfl⟩
  have hl6 : L6.length = 2 := by rw [hL6]; rfl
  have hr6 : (recL rs6).length = 2 := by rw [hrs6]; rfl
  have hn6 : needC rs6 ≤ 24 := by rw [hrs6]; exact hnd2
  rw [← hL6, ← hrs6] at hE6
  rw [← hrs6] at hJZ6
  clear HS2 hE5 hpr5 hF5w hrows5 hf6 hf6' hC6 hF6 hJ6 hU6 hL6 hrs6
  have hP6 : PrtI Pp w0.heap.size rl ⟨[], [], 0⟩ (PartF Pp (.slice none 0 0) (.slice none 0 0) lv) w6 := ⟨by omega, _, _, _, hpr6, fun _ => Iff.rfl⟩
  obtain ⟨P, hPe⟩ : ∃ P : Ptn (askV Pp), P = ptn (ask_ok_any (Pp := Pp) (b0 := w0.heap.size) (rl := rl) (by omega) hrli) := ⟨_, rfl⟩
  have HT1 := hE6.tickG (ptn (ask_ok_any (Pp := Pp) (b0 := w0.heap.size) (rl := rl) (by omega) hrli)) (s0 := (⟨[], [], 0⟩ : PSt)) hg6 hJZ6 hr6 hn6 (by decide) (hG.fr hF6w (fun h => h)) (fun h => by have := hF6' _ h; omega) (fun h => by have := hpw _ h; omega) (by decide) (by decide) (by decide) hP6 (by show 0 + L6.length ≤ _; omega)
  go_wp2_with fail
  refine HT1.mono ?_
  rintro e w7 ⟨rfl, L7, rs7, s7, C7, F7, p7, F07, hE7, hg7, hJ7, hr7, hn7, hl7, hP7, hz7, hC7, hF7, hF07, hf7⟩
  have hC7' : ∀ b, C7 b → w1.heap.size ≤ b := fun b hb => (hC7 b hb).elim (hC6' b) (fun h => by omega)
  have hF7' : ∀ b, F7 b → w1.heap.size ≤ b := fun b hb => (hF7 b hb).elim (hF6' b) (fun h => by omega)
  have hF07' : ∀ b, F07 b → w.heap.size ≤ b := fun b hb => (hF07 b hb).elim (hpw b) (fun h => by omega)
  have hfv : ∀ {wa wb : World} {C F F0 : Nat → Prop}, Fr (fun b => b = A ∨ b = B ∨ C b ∨ F b ∨ F0 b) wa wb → (∀ b, C b → w1.heap.size ≤ b) → (∀ b, F b → w1.heap.size ≤ b) → (∀ b, F0 b → w.heap.size ≤ b) → Fr (fun b => w.heap.size ≤ b) wa wb := fun h h1 h2 h3 => h.mono (fun b _ hb => by
    rcases hb with hb | hb | hb | hb | hb
    · omega
    · omega
    · have := h1 b hb; omega
    · have := h2 b hb; omega
    · exact h3 b hb)
  have hf7' := hfv hf7 hC6' hF6' hpw
  have hF7w : Fr (fun _ => False) w w7 := hF6w.trans hf7' (fun b hb h => by omega)
  have hs7 := hf7.size
  have hz7' : (ptn (ask_ok_any (Pp := Pp) (b0 := w0.heap.size) (rl := rl) (by omega) hrli)).sz p7 ≤ 0 + 2 := by rw [← hl6]; exact hz7
  clear HT1 hE6 hJZ6 hpr6 hP6 hF6w hf7 hf7' hC7 hF7 hF07 hz7
  go_wp2_with fail
  refine (HP w7).mono ?_
  rintro e w7' ⟨rfl, e7⟩
  rw [e7]
  clear e7 w7'
  have HOF := hE7.off (by decide) pk pk0 (by omega)
  go_wp2_with fail
  refine HOF.mono ?_
  rintro e w8 ⟨rfl, hE8, hf8⟩
  have hJ8 : JZ 120 ⟨{ s7.d with off := s7.d.calls + pk }, s7.ents, s7.bs⟩ (rs7.map Rec.bytes) := hJ7.keep rfl rfl rfl
  have hF8w : Fr (fun _ => False) w w8 := hF7w.trans hf8 (fun b hb h => by omega)
  have hP8 := (ptn (ask_ok_any (Pp := Pp) (b0 := w0.heap.size) (rl := rl) (by omega) hrli)).fr hP7 hf8 (fun b hb => by
    obtain ⟨c, t, h1, h2⟩ := (ptn (ask_ok_any (Pp := Pp) (b0 := w0.heap.size) (rl := rl) (by omega) hrli)).ty hP7 hb
    exact hE7.disk.np h1 h2)
  have hs8 := hf8.size
  clear HOF hE7 hJ7 hF7w hf8 hP7
  have HT2 := hE8.tickS (W := w1) (ptn (ask_ok_any (Pp := Pp) (b0 := w0.heap.size) (rl := rl) (by omega) hrli)) (s0 := p7) hJ8 hr7 hn7 (by decide) (hG.fr hF8w (fun h => h)) (fun h => by have := hF7' _ h; omega) (fun h => by have := hF07' _ h; omega) (by decide) (by decide) (by decide) hP8 (by omega) hC7' (by omega)
  go_wp2_with fail
  refine HT2.mono ?_
  rintro e w9 ⟨⟨v9, rfl⟩, hA9, ⟨p9, F9, hP9, hF9⟩, hf9⟩
  have hf9' := hfv hf9 hC7' hF7' hF07'
  have hF9w : Fr (fun _ => False) w w9 := hF8w.trans hf9' (fun b hb h => by omega)
  have hs9 := hf9.size
  obtain ⟨hPl9, aoL, lenL, capL, hL9⟩ := PrtI.log hP9
  clear HT2 hE8 hJ8 hP8 hP9 hF8w hf9 hf9' hF9
  have HFE := kFew_ok w9 cap (HL.out.frz hF9w) 40 (by decide)
  go_wp2_with fail
  refine HFE.mono ?_
  rintro e w10 ⟨ao10, cap10, rfl, hf10, hown10⟩
  have hin10 := own_ints hown10
  have el10 : (zs.take (min 40 zs.length)).length = min 40 zs.length := by rw [List.length_take]; omega
  have hs10 := hf10.size
  have hF10w := hF9w.trans hf10 (fun _ _ h => h)
  have HCT := (hA9.frz hf10).cut (kc := cap10) (by omega) hin10 (by omega)
  rw [el10] at HCT
  have hL10 := hf10.cell hL9 (fun h => h)
  clear HFE hown10 hA9 hF9w hf10 hin10 el10 hL9
  go_wp2_with fail
  refine HCT.mono ?_
  rintro e w11 ⟨A', B', s11, rs, rfl, ⟨hD11, hg11, he11, hw11, hok, hnd, hr2, hJ11, hAw, hBw⟩, hA11, hB11, hf11⟩
  have hs11 := hf11.size
  have hF11w := hF10w.trans hf11 (fun _ _ h => h)
  have hL11 := hf11.cell hL10 (fun h => h)
  clear HCT hF10w hf11 hL10
  have HBY := hD11.bytes (by decide) (by decide) hJ11.u8
  obtain ⟨bt, HB0⟩ : ∃ bt, Hid (bt = bytesT (s11.bs.take (120 * 128))) := ⟨_, rfl⟩
  rw [← HB0.out] at HBY
  go_wp2_with fail
  refine HBY.mono ?_
  rintro e w12 ⟨rfl, hf12⟩
  have hs12 := hf12.size
  have hF12w := hF11w.trans hf12 (fun _ _ h => h)
  have hL12 := hf12.cell hL11 (fun h => h)
  have hD12 := hD11.fr hf12 (fun h => h) (fun h => h) (fun _ h => h.elim)
  clear HBY hF11w hf12 hL11 hD11
  have HOP := hD12.open (Pp := Pp) hJ11.jd (by decide) 2 (by decide) (by decide) (by decide) (by decide) hok (by omega) hg11 (hG.fr hF12w (fun h => h))
  go_wp2_with fail
  refine HOP.mono ?_
  rintro e w13 ⟨Y, FY, cY, rfl, hE13, hU13, hFn13, hf13⟩
  have hs13 := hf13.size
  have hF13w : Fr (fun _ => False) w w13 := hF12w.trans hf13 (fun b hb h => by omega)
  have hL13 := hf13.cell hL12 (fun h => by have h : Pp = A' := h; omega)
  clear HOP hF12w hf13 hL12 hD12
  have HOP := hE13.disk.open (Pp := Pp) (after_jd hJ11.jd cY) (by decide) 2 (by decide) (by decide) (by decide) (by decide) hok (by omega) (hg11.after cY) (hG.fr hF13w (fun h => h))
  go_wp2_with fail
  refine HOP.mono ?_
  rintro e w14 ⟨Z, FZ, cZ, rfl, hE14, hU14, hFn14, hf14⟩
  have hs14 := hf14.size
  have hF14w : Fr (fun _ => False) w w14 := hF13w.trans hf14 (fun b hb h => by omega)
  have hL14 := hf14.cell hL13 (fun h => by have h : Pp = A' := h; omega)
  have HAY := hE13.allL hf14 10
  clear HOP hF13w hf14 hL13 hE13 hU13 hU14
  obtain ⟨a1, a2, ha12⟩ : ∃ a1 a2, recL rs = [a1, a2] := by
    rcases h : recL rs with _ | ⟨a1, _ | ⟨a2, _ | ⟨a3, l⟩⟩⟩
    · rw [h] at hr2; cases hr2
    · rw [h] at hr2; cases hr2
    · exact ⟨_, _, rfl⟩
    · rw [h] at hr2; simp at hr2
  obtain ⟨t1, ht1⟩ : ∃ t1, t1 = a1.told := ⟨_, rfl⟩
  obtain ⟨t2, ht2⟩ : ∃ t2, t2 = a2.told := ⟨_, rfl⟩
  have hta : (((recL rs).take (10 : Int).toNat).map AS.told) = [t1, t2] := by rw [ha12, ht1, ht2]; rfl
  have HAZ := fun W (hf : Fr (fun _ => False) w14 W) => (hE14.fr hf (fun h => h) (fun h => h) (fun _ h => h.elim) (fun _ _ h => h)).all 10
  rw [hta] at HAY
  simp only [hta] at HAZ
  have hD14 := hE14.disk
  obtain ⟨sZ, hsZ⟩ : ∃ sZ, sZ = (s11.after cY).after cZ := ⟨_, rfl⟩
  rw [← hsZ] at hD14
  have hwZ : sZ.d.writes = 0 := by
    rw [hsZ, DS.after_after]
    show (s11.d.nx _).writes = 0
    rw [(s11.d.nx_calls _).2.1, hw11]
  have heZ : sZ.ents.length = 0 := by rw [hsZ]; show s11.ents.length = 0; rw [he11]; rfl
  have hbZ : sZ.bs = s11.bs := by rw [hsZ]; rfl
  have huZ : U8s sZ.bs := by rw [hbZ]; exact hJ11.u8
  have hbt := HB0.out
  rw [← hbZ] at hbt
  have HWR := fun W (hf : Fr (fun _ => False) w14 W) => (hD14.fr hf (fun h => h) (fun h => h) (fun _ h => h.elim)).writes
  have HPE := fun W (hf : Fr (fun _ => False) w14 W) => (hD14.fr hf (fun h => h) (fun h => h) (fun _ h => h.elim)).pend
  have HBT := fun W (hf : Fr (fun _ => False) w14 W) => (hD14.fr hf (fun h => h) (fun h => h) (fun _ h => h.elim)).bytes (by decide) (by decide) huZ
  simp only [hwZ] at HWR
  simp only [heZ] at HPE
  simp only [← hbt] at HBT
  clear ha12 hta ht1 ht2 hE14 hD14 hsZ hwZ heZ hbZ huZ hbt HB0 hJ11 hr2
  go_wp2_with fail
  refine HAY.mono ?_
  rintro e w15 ⟨ao15, cap15, rfl, hr15, hf15⟩
  go_wp2_with fail
  refine (HAZ w15 hf15).mono ?_
  rintro e w16 ⟨ao16, cap16, rfl, hr16, hf16⟩
  have hr15' := hr15.frz hf16
  have hf16' := hf15.trans hf16 (fun _ _ h => h)
  have hL16 := hf16'.cell hL14 (fun h => h)
  have hF16w := hF14w.trans hf16' (fun _ _ h => h)
  obtain ⟨g15, o15, rfl, hy1⟩ := hr15' 0 _ rfl
  obtain ⟨g15', o15', eg15, hy2⟩ := hr15' 1 _ rfl
  cases eg15
  obtain ⟨g16, o16, rfl, hz1⟩ := hr16 0 _ rfl
  obtain ⟨g16', o16', eg16, hz2⟩ := hr16 1 _ rfl
  cases eg16
  simp only [Nat.zero_mul, Nat.one_mul, Nat.add_zero] at hy1 hy2 hz1 hz2
  clear hr15 hr15' hr16 hL14 HAY HAZ hf15 hf16 hF14w
  have y10 := hy1 0 _ rfl
  have y11 := hy1 1 _ rfl
  have y12 := hy1 2 _ rfl
  have y13 := hy1 3 _ rfl
  have y14 := hy1 4 _ rfl
  have y15 := hy1 5 _ rfl
  have y20 := hy2 0 _ rfl
  have y21 := hy2 1 _ rfl
  have y22 := hy2 2 _ rfl
  have y23 := hy2 3 _ rfl
  have y24 := hy2 4 _ rfl
  have y25 := hy2 5 _ rfl
  have z10 := hz1 0 _ rfl
  have z11 := hz1 1 _ rfl
  have z12 := hz1 2 _ rfl
  have z13 := hz1 3 _ rfl
  have z14 := hz1 4 _ rfl
  have z15 := hz1 5 _ rfl
  have z20 := hz2 0 _ rfl
  have z21 := hz2 1 _ rfl
  have z22 := hz2 2 _ rfl
  have z23 := hz2 3 _ rfl
  have z24 := hz2 4 _ rfl
  have z25 := hz2 5 _ rfl
  simp only [Nat.add_zero] at y10 y20 z10 z20
  clear hy1 hy2 hz1 hz2 hfv hfw hpl hpw hF07' hF7' hC7' hz7' hC6' hF6' hC4' hF4' HM1 HM2 HP hok1 hok2 hnd2 hFn13 hFn14 hFn2 hlv hPe P HL hg11 hg7 hg6 hg4 hg2 hok hr7 hr6
  go_wp2_with fail
  go_region
  obtain ⟨w17, HW17⟩ : ∃ w17, Hid (w17 = w16.drew) := ⟨_, rfl⟩
  have hf17 : Fr (fun _ => False) w14 w17 := by rw [HW17.out]; exact hf16'.drew
  have hF17w : Fr (fun _ => False) w w17 := by rw [HW17.out]; exact hF16w.drew
  have hL17 : w17.cell? ⟨Pp, 0, none⟩ = some (.slice aoL lenL capL) := by
    rw [HW17.out]
    exact ((Fr.refl (fun _ => False) w16).drew).cell hL16 (fun h => h)
  rw [← HW17.out]
  have H1 := HWR w17 hf17
  have H2 := HPE w17 hf17
  have H3 := HBT w17 hf17
  clear HW17 HWR HPE HBT hf16' hF16w hL16 y10 y11 y12 y13 y14 y15 y20 y21 y22 y23 y24 y25 z10 z11 z12 z13 z14 z15 z20 z21 z22 z23 z24 z25 hf17
  go_wp2_with fail
  refine H1.mono ?_
  rintro e wq ⟨rfl, eq⟩
  rw [eq]
  clear eq wq
  go_wp2_with fail
  refine H2.mono ?_
  rintro e wq ⟨rfl, eq⟩
  rw [eq]
  clear eq wq
  go_wp2_with fail
  refine H3.mono ?_
  rintro e w18 ⟨rfl, hf18⟩
  have hL18 := hf18.cell hL17 (fun h => h)
  go_wp2
  go_ret
  exact ⟨rfl, hF17w.trans hf18 (fun _ _ h => h)⟩
end Go.Proofs.YteebjgfalllbjaaGreatDoor
