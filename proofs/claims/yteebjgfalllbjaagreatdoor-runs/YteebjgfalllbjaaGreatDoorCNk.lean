import Derived.Test.YteebjgfalllbjaaGreatDoorCNjNl
import Derived.Test.YteebjgfalllbjaaGreatDoorCLpLqLr
import Derived.Test.YteebjgfalllbjaaGreatDoorCVcVdVh
import Derived.Test.YteebjgfalllbjaaGreatDoorCTlLmLn
namespace Go.Proofs.YteebjgfalllbjaaGreatDoor
open Go.RowKit
theorem load7 {w : World} {g : Nat} {r : RS} (h : Box7 w g r) : (Instr.loadAt 223 (.pointer (some ⟨g, 0, none⟩))).run Tryz.prog w = .ok (.agg r.cs.toArray) w :=
  run_loadAt_mid w g 0 223 r.cs _ (fun j v hv => (cell_of_row w g (0 + j) _ _ _ h).trans (by simpa using hv)) Tryz.underlying223 rfl (by rw [saga_size, r.len])
theorem index_sagas (g n c i : Nat) (h : i < n) (w : World) : (Instr.indexAt 107 (.slice (some ⟨g, 0, none⟩) n c) (.int .i64 i)).run Tryz.prog w = .ok (.pointer (some ⟨g, i * 7, none⟩)) w := by
  have h' : (i : Int) < n := by omega
  go_simp
set_option maxRecDepth 100000 in
set_option maxHeartbeats 4000000 in
theorem ticked_ok {w : World} {D A B Pp n b : Nat} {nn : Bool} {xp : Option Addr} {pause clock calls writes : Int} {cache Lv : Value} {L : List RS} {L' : List AS} {log0 : List (CL × Nat)} {Post : World → Prop} {fails : Bool}
    (h : LawAt w D A Pp n nn (.pointer xp) pause clock Lv) (hdk : DiskAt w A B n cache calls writes) (hlog : LogR w Pp log0) (_hl0 : log0.length ≤ 20000000) (hn : L.length ≤ 100000) (hc0 : 0 ≤ clock) (hc1 : clock ≤ 100000) (hp0 : 1 ≤ pause) (hp1 : pause ≤ 64) (hok : ∀ r ∈ L, r.a.Ok clock)
    (hT : Calls Tryz.prog 23 #[.pointer xp] w fun e w' => e = .returned .nilIface ∧ LawAt w' D A Pp n nn (.pointer xp) pause clock Lv ∧ LAt w' b Lv L ∧ Post w' ∧ ∃ new, new.length ≤ 100000 ∧ LogR w' Pp (log0 ++ new) ∧ (if fails then new = [] ∧ FolF (clock + 1) pause (L.map RS.a) L' else Fol (clock + 1) pause (L.map RS.a) new L')) :
    Calls Tryz.prog 85 #[.pointer (some ⟨D, 0, none⟩), .bool fails] w fun e w' => e = .returned (.bool true) ∧ ∃ wS Lv' Ln, Post wS ∧ LawAt w' D A Pp n nn (.pointer xp) pause (clock + 1) Lv' ∧ LAt w' b Lv' Ln ∧ Ln.map RS.a = L' ∧ (∀ c, Lv'.ownBlock = some c → Lv.ownBlock = some c ∨ wS.heap.size ≤ c) ∧ Fr (fun c => c = D ∨ Lv.ownBlock = some c) wS w' := by
  have hlift : Tryz.prog.follows .mixedOrders = true := by kernel_rfl
  have HOK : Hid (∀ r ∈ L, r.a.Ok clock) := hok
  obtain ⟨la0, lc0, ef0, lv0, v0, hp, hlc0, _, _⟩ := hlog
  have p0 : w.cell? ⟨Pp, 0, none⟩ = some (.slice la0 log0.length lc0) := (cell_of_row _ _ 0 _ _ _ hp).trans rfl
  have c0 := h.c0
  have c1 : w.cell? ⟨D, 1, none⟩ = some (.pointer (some ⟨Pp, 0, none⟩)) := h.c rfl
  have c5 := h.c5
  have ec : wrap64 (clock + 1) = clock + 1 := wrap64_id (by omega)
  clear hok h
  go_enter Tryz.func85, Tryz.ntmps85
  go_wp2_with fail
  refine (dTold_ok hdk).mono ?_
  rintro e w' ⟨rfl, rfl⟩
  go_wp2_with fail
  refine hT.mono ?_
  rintro e w1 ⟨rfl, hd1, ha1, hpost, new, hnew, ⟨la, lc, ef, lv, v, hp1', hlc, hrows, hlty⟩, hfol⟩
  have HPOST : Hid (Post w1) := hpost
  have HFOL : Hid (if fails then new = [] ∧ FolF (clock + 1) pause (L.map RS.a) L' else Fol (clock + 1) pause (L.map RS.a) new L') := hfol
  clear c0 c1 c5 p0 hp hdk hT hpost hfol
  go_wp2_with fail
  refine (Told_nil w1).mono ?_
  rintro e w1' ⟨rfl, rfl⟩
  go_wp2_with fail
  refine (num_ok 0 w1').mono ?_
  rintro e w1'' ⟨rfl, rfl⟩
  obtain ⟨vl, HVL⟩ : ∃ vl : Value, Hid (vl = .slice la (log0 ++ new).length lc) := ⟨_, rfl⟩
  have q0 : w1''.cell? ⟨Pp, 0, none⟩ = some vl := by rw [HVL.out]; exact (cell_of_row _ _ 0 _ _ _ hp1').trans rfl
  have c1 : w1''.cell? ⟨D, 1, none⟩ = some (.pointer (some ⟨Pp, 0, none⟩)) := hd1.c rfl
  have c7 := hd1.c7
  have c8 := hd1.c8
  have c9 := hd1.c9
  have fz : ∀ j, w1''.frozen? ⟨D, j, none⟩ = false := hd1.fz
  have HLR : Hid (RowsOf w1'' (if lc = log0.length then la else la.map (fun x => x.add (log0.length * 5))) 5 (new.map lgv)) := by have := log_cut (k := log0.length) hrows hlc; rwa [List.drop_left] at this
  obtain ⟨sa, hsa⟩ : ∃ sa, (if lc = log0.length then la else la.map (fun x => x.add (log0.length * 5))) = sa := ⟨_, rfl⟩
  have HCUT : Hid (∀ W, (Instr.sliceAt 45 vl (some (.int .i64 log0.length)) none none).run Tryz.prog W = .ok (.slice sa new.length (lc - log0.length)) W) := fun W => by rw [HVL.out, ← hsa, cut_log la _ lc log0.length (by simp) W, List.length_append, Nat.add_sub_cancel_left]
  have HLTY : Hid (∀ ad, sa = some ad → ∃ c, w1''.heap[ad.block]? = some (.cells c 52 (0, 0))) := fun ad e => by
    rw [← hsa] at e
    split at e
    · exact hlty ad e
    · obtain ⟨ad0, e0, e1⟩ := Option.map_eq_some_iff.1 e
      rw [← e1, show (ad0.add (log0.length * 5)).block = ad0.block from by unfold Addr.add; split <;> rfl]; exact hlty ad0 e0
  rw [hsa] at HLR
  obtain ⟨ao, cap, rfl, hnil, hoff⟩ := own_shape ha1.o
  have HA1 : Hid (LAt w1'' b (.slice ao L.length cap) L) := ha1
  have HD1 : Hid (LawAt w1'' D A Pp n nn (.pointer xp) pause clock (.slice ao L.length cap)) := hd1
  have HNIL : Hid (ao = none → L.length = 0 ∧ cap = 0) := hnil
  have HOFF : Hid (∀ g off, ao = some ⟨g, off, none⟩ → off = 0) := fun g off e => by have := hoff _ e; simp at this; exact this
  clear hnil hoff hd1 ha1 hp1' hrows hsa HVL hlty
  by_cases hn0 : new.length = 0
  · obtain rfl : new = [] := List.eq_nil_of_length_eq_zero hn0
    simp only [List.length_nil] at HCUT
    have h7 : (Instr.storeAt 3 (.pointer (some ⟨D, 7, none⟩)) (.int .i64 (clock + 1))).run Tryz.prog w1'' = .ok () (w1''.setCell ⟨D, 7, none⟩ (.int .i64 (clock + 1))) := run_storeAt_one c7 (fz 7) (by kernel_rfl) rfl
    obtain ⟨W2, HW2⟩ : ∃ W2, Hid (W2 = w1''.setCell ⟨D, 7, none⟩ (.int .i64 (clock + 1))) := ⟨_, rfl⟩
    have hD2 : LawAt W2 D A Pp n nn (.pointer xp) pause (clock + 1) (.slice ao L.length cap) := by rw [HW2.out]; exact HD1.out.set7 _
    have hF2 : Fr (· = D) w1'' W2 := by rw [HW2.out]; exact FrD.set (Fr.refl _ _)
    rw [← HW2.out] at h7
    clear HW2
    go_wp2_with (first | (refine wpList_sliceAt 45 _ _ _ _ rfl rfl (by exact HCUT.out _) ?_) | (refine wpList_store 3 (w' := W2) _ _ rfl rfl ?_ ?_; exact h7))
    have hDT : ∀ b c t, w1''.heap[b]? = some (.cells c t (0, 0)) → t = 223 ∨ t = 165 ∨ t = 220 → ¬ b = D := by
      intro b c t hb ht e
      subst e
      have := HD1.out.symm.trans hb
      simp at this
      rw [← this.2] at ht
      revert ht
      decide
    have HI : Hid (TwI w1'' D A Pp n nn (.pointer xp) pause (clock + 1) b L L' ao cap 0 L W2) := ⟨hD2, HA1.out.fr hF2 hDT, rfl, by simp, hF2.mono (fun _ _ h => .inl h)⟩
    have HX : Hid (L'.length = L.length ∧ ∀ (i : Nat) (a : AS), (L.map RS.a)[i]? = some a → if a.dueB (clock + 1) = true then fails = true ∧ L'[i]? = some (a.vain (clock + 1) pause) else L'[i]? = some a) := by
      have hf := HFOL.out
      cases fails with
      | true =>
        have hF : FolF (clock + 1) pause (L.map RS.a) L' := by simpa using hf
        refine ⟨by rw [hF]; simp, fun i a ha => ?_⟩
        rw [hF, List.getElem?_map, ha]
        split
        · exact ⟨rfl, by simp_all⟩
        · simp_all
      | false =>
        obtain ⟨h1, h2, h3⟩ : Fol (clock + 1) pause (L.map RS.a) [] L' := by simpa using hf
        refine ⟨by rw [h2]; simp, fun i a ha => ?_⟩
        have h4 := h3 i a ha
        by_cases hd : a.dueB (clock + 1) = true
        · rw [if_pos hd] at h4
          obtain ⟨r, _, h5, _⟩ := h4
          simp at h5
        · rw [if_neg hd] at h4 ⊢
          exact h4
    clear c1 c7 c8 c9 fz q0 h7 hDT hF2 hD2 HFOL
    go_loopw [11, 12] (fun kv c wr => ∃ (i : Nat) (Lc : List RS), i ≤ L.length ∧ kv = .int .i64 0 ∧ c = .int .i64 i ∧ Hid (TwI w1'' D A Pp n nn (.pointer xp) pause (clock + 1) b L L' ao cap i Lc wr)) (fun _ c _ => L.length - (intOf c).toNat)
    case atStart => exact ⟨0, L, Nat.zero_le _, rfl, rfl, HI⟩
    case round =>
      obtain ⟨i, Lc, hi, rfl, rfl, HR⟩ := hrel
      have c9 := HR.out.law.c9
      have c7 := HR.out.law.c7
      have c6 := HR.out.law.c6
      by_cases hlt : i < L.length
      · have hlt' : (i : Int) < L.length := by omega
        have hltc : i < Lc.length := by rw [HR.out.ln]; exact hlt
        obtain ⟨r, hr⟩ : ∃ r, Lc[i]? = some r := ⟨_, List.getElem?_eq_getElem hltc⟩
        obtain ⟨g, off, rfl, hrg⟩ := (HR.out.ln ▸ HR.out.at' : LAt wr b (.slice ao Lc.length cap) Lc).sagas.get hr
        obtain rfl : off = 0 := HOFF.out g off rfl
        rw [Nat.zero_add] at hrg
        obtain ⟨s0, s1, s2, s3, s4, s5, s6⟩ := seven_of hrg
        have hra := walk_at HX.out.1 HR.out.a hlt hr
        have hxi := HX.out.2 i r.a hra
        have hOkr : r.a.Ok clock := by
          rw [List.getElem?_map] at hra
          obtain ⟨r0, h0, e0⟩ := Option.map_eq_some_iff.1 hra
          rw [← e0]; exact HOK.out r0 (List.mem_of_getElem? h0)
        have hS0 : ¬ r.S.1 = 0 := by have := hOkr.s; have e : r.a.S.1 = r.S.1 := rfl; omega
        go_wp2_with fail
        obtain ⟨W3, HW3⟩ : ∃ W3, Hid (W3 = wr.alloc (.cells #[.int .i64 r.id, .slice r.sa r.st.length r.sc, .int .i64 r.S.1, .int .i64 r.S.2, .int .i64 r.tries, .int .i64 r.due, .slice r.ma r.may.length r.mc] 223)) := ⟨_, rfl⟩
        have hf3 : Fr (fun _ => False) wr W3 := by rw [HW3.out]; exact (Fr.refl _ _).alloc _
        have b3 : Box7 W3 wr.heap.size r := by rw [HW3.out]; exact heap_alloc_at wr _
        rw [← HW3.out]
        have d3 := HR.out.law.fr hf3 (fun h => h)
        have e7 := d3.c7
        have e6 := d3.c6
        obtain ⟨t0, t1, t2, t3, t4, t5, t6⟩ := b3.c
        clear s0 s1 s2 s3 s4 s5 s6 c9 c7 c6 HW3
        refine wp_region_still_tail 11 (by kernel_rfl) (by kernel_rfl) (Bx.out ?_)
        simp only [List.take_succ_cons, List.take_zero, List.drop_succ_cons, List.drop_zero]
        repeat (refine bx_step (fun K hK => ?_); go_simp; refine hK _ ?_; clear hK K)
        refine bx_nil ?_
        obtain ⟨W4, HW4⟩ : ∃ W4, Hid (W4 = W3.drew) := ⟨_, rfl⟩
        have hf4 : Fr (fun _ => False) W3 W4 := by rw [HW4.out]; exact (Fr.refl _ _).drew
        rw [show ({ heap := W3.heap, tape := W3.tape, drawn := W3.drawn + 1, os := W3.os, output := W3.output } : World) = W4 from HW4.out.symm]
        clear HW4 t0 t1 t2 t3 t4 t5 t6 e6 e7
        go_wp2_with fail
        refine (Waits_ok W4 r (clock + 1)).mono ?_
        rintro e w5 ⟨rfl, hf5⟩
        have hf5' := (hf3.trans hf4 (fun _ _ h => h)).trans hf5 (fun _ _ h => h)
        have b5 : Box7 w5 wr.heap.size r := hf5.keep (hf4.keep b3 (fun h => h)) (fun h => h)
        have d5 := HR.out.law.fr hf5' (fun h => h)
        clear hf3 hf4 hf5 b3 d3 hrg
        rw [waits_due hOkr]
        by_cases hw : r.a.dueB (clock + 1) = true
        · rw [if_pos hw] at hxi
          obtain ⟨rfl, hxi⟩ := hxi
          rw [hw]
          have e9 := d5.c9
          have e7 := d5.c7
          have e6 := d5.c6
          obtain ⟨t0, t1, t2, t3, t4, t5, t6⟩ := b5.c
          have hS0b : (r.S.1 != 0) = true := by simpa using hS0
          go_wp2_with fail
          obtain ⟨U, HU⟩ : ∃ U, Hid (U = w5.drew) := ⟨_, rfl⟩
          have hf6 : Fr (fun _ => False) w5 U := by rw [HU.out]; exact (Fr.refl _ _).drew
          let SU : World → Prop := fun w' => LawAt w' D A Pp n nn (.pointer xp) pause (clock + 1) (.slice (some ⟨g, 0, none⟩) L.length cap) ∧ Box7 w' wr.heap.size r
          have hS : SU U := ⟨d5.fr hf6 (fun h => h), hf6.keep b5 (fun h => h)⟩
          refine wp_region_held (S := SU) hlift ?_
          change wpAnyH _ _ _ _ SU _ _ _ (World.drew _)
          rw [← HU.out]
          clear HU t0 t1 t2 t3 t4 t5 t6 e6 e7 e9
          refine tkE (S := SU) (i := 0) (oi := ⟨some 134, .move (.tmp 0), _, _, _, none⟩) (v := .pointer (some ⟨D, 0, none⟩)) rfl hS ?_
          simp only [Act.put, lsE, lsZ, lsS]
          refine tkE (S := SU) (i := 1) (oi := ⟨some 135, .nilCheck (.tmp 134), _, _, _, none⟩) (v := .pointer (some ⟨D, 0, none⟩)) rfl hS ?_
          simp only [Act.put, lsE, lsZ, lsS]
          refine tkE (S := SU) (i := 2) (oi := ⟨some 136, .fieldAddr 111 (.tmp 135) 6, _, _, _, none⟩) (v := .pointer (some ⟨D, 6, none⟩)) rfl hS ?_
          simp only [Act.put, lsE, lsZ, lsS]
          refine tkE (S := SU) (i := 3) (oi := ⟨some 137, .fieldAddr 109 (.tmp 136) 3, _, _, _, none⟩) (v := .pointer (some ⟨D, 9, none⟩)) rfl hS ?_
          simp only [Act.put, lsE, lsZ, lsS]
          refine tkY (S := SU) (i := 4) (oi := ⟨some 138, .load 107 (.tmp 137), _, _, _, none⟩) (v := .slice (some ⟨g, 0, none⟩) L.length cap) rfl (Or.inl ⟨rfl, fun w' hs => exec_load 107 (.tmp 137) rfl ⟨D, 9, none⟩ rfl (run_loadAt_one hs.1.c9 Tryz.underlying107 rfl)⟩) hS ?_
          simp only [Act.put, lsE, lsZ, lsS]
          refine tkE (S := SU) (i := 5) (oi := ⟨some 139, .move (.tmp 12), _, _, _, none⟩) (v := .int .i64 i) rfl hS ?_
          simp only [Act.put, lsE, lsZ, lsS]
          refine tkY (S := SU) (i := 6) (oi := ⟨some 140, .load 223 (.tmp 13), _, _, _, none⟩) (v := .agg r.cs.toArray) rfl (Or.inl ⟨rfl, fun w' hs => exec_load 223 (.tmp 13) rfl ⟨wr.heap.size, 0, none⟩ rfl (load7 hs.2)⟩) hS ?_
          simp only [Act.put, lsE, lsZ, lsS]
          refine tkE (S := SU) (i := 7) (oi := ⟨some 141, .move (.tmp 0), _, _, _, none⟩) (v := .pointer (some ⟨D, 0, none⟩)) rfl hS ?_
          simp only [Act.put, lsE, lsZ, lsS]
          refine tkE (S := SU) (i := 8) (oi := ⟨some 142, .nilCheck (.tmp 141), _, _, _, none⟩) (v := .pointer (some ⟨D, 0, none⟩)) rfl hS ?_
          simp only [Act.put, lsE, lsZ, lsS]
          refine tkE (S := SU) (i := 9) (oi := ⟨some 143, .fieldAddr 111 (.tmp 142) 6, _, _, _, none⟩) (v := .pointer (some ⟨D, 6, none⟩)) rfl hS ?_
          simp only [Act.put, lsE, lsZ, lsS]
          refine tkE (S := SU) (i := 10) (oi := ⟨some 144, .fieldAddr 109 (.tmp 143) 1, _, _, _, none⟩) (v := .pointer (some ⟨D, 7, none⟩)) rfl hS ?_
          simp only [Act.put, lsE, lsZ, lsS]
          refine tkY (S := SU) (i := 11) (oi := ⟨some 145, .load 3 (.tmp 144), _, _, _, none⟩) (v := .int .i64 (clock + 1)) rfl (Or.inl ⟨rfl, fun w' hs => exec_load 3 (.tmp 144) rfl ⟨D, 7, none⟩ rfl (run_loadAt_one hs.1.c7 Tryz.underlying3 rfl)⟩) hS ?_
          simp only [Act.put, lsE, lsZ, lsS]
          refine tkE (S := SU) (i := 12) (oi := ⟨some 146, .move (.tmp 0), _, _, _, none⟩) (v := .pointer (some ⟨D, 0, none⟩)) rfl hS ?_
          simp only [Act.put, lsE, lsZ, lsS]
          refine tkE (S := SU) (i := 13) (oi := ⟨some 147, .nilCheck (.tmp 146), _, _, _, none⟩) (v := .pointer (some ⟨D, 0, none⟩)) rfl hS ?_
          simp only [Act.put, lsE, lsZ, lsS]
          refine tkE (S := SU) (i := 14) (oi := ⟨some 148, .fieldAddr 111 (.tmp 147) 6, _, _, _, none⟩) (v := .pointer (some ⟨D, 6, none⟩)) rfl hS ?_
          simp only [Act.put, lsE, lsZ, lsS]
          refine tkE (S := SU) (i := 15) (oi := ⟨some 149, .fieldAddr 109 (.tmp 148) 0, _, _, _, none⟩) (v := .pointer (some ⟨D, 6, none⟩)) rfl hS ?_
          simp only [Act.put, lsE, lsZ, lsS]
          refine tkY (S := SU) (i := 16) (oi := ⟨some 150, .load 3 (.tmp 149), _, _, _, none⟩) (v := .int .i64 pause) rfl (Or.inl ⟨rfl, fun w' hs => exec_load 3 (.tmp 149) rfl ⟨D, 6, none⟩ rfl (run_loadAt_one hs.1.c6 Tryz.underlying3 rfl)⟩) hS ?_
          simp only [Act.put, lsE, lsZ, lsS]
          refine wpAnyH_all (rs := [17]) (by kernel_rfl) (by simp) ?_
          intro i17 h17
          obtain rfl : i17 = 17 := by simpa using h17
          refine wpOp_call (o := ⟨some 151, .call { callee := .value (.func 131), args := #[.tmp 140, .tmp 145, .tmp 150], argTypes := _ }, _, _, _, none⟩) (f := 131) (args := #[.agg r.cs.toArray, .int .i64 (clock + 1), .int .i64 pause]) rfl rfl (by kernel_rfl) ?_
          refine (Vain_ok U r (clock + 1) pause hOkr.t0 (by have : r.a.tries = r.tries := rfl; have := hOkr.t1; omega) (by omega) (by omega) hp0 hp1).mono ?_
          rintro e w7 ⟨rfl, hf7⟩
          obtain ⟨rv, HRV⟩ : ∃ rv, Hid (rv = r.vain (clock + 1) pause) := ⟨_, rfl⟩
          rw [← HRV.out]
          have hf7' := (hf5'.trans hf6 (fun _ _ h => h)).trans hf7 (fun _ _ h => h)
          have la7 := HR.out.at'.frz hf7'
          have hlc' := HR.out.ln
          rw [← hlc'] at la7
          obtain ⟨w8, hst, ho8, hf8⟩ := row_set (i := i) rv la7.o hltc
          have la8 : LAt w8 b (.slice (some ⟨g, 0, none⟩) Lc.length cap) (Lc.set i rv) := la7.set hr ho8 (own_ty la7.o rfl) hf8 (by rw [HRV.out]; rfl) (by rw [HRV.out]; rfl) (by rw [HRV.out]; rfl) (by rw [HRV.out]; exact la7.m r (List.mem_of_getElem? hr))
          have d7 := HR.out.law.fr hf7' (fun h => h)
          have hgD : ¬ D = g := by
            intro e
            obtain ⟨cs, hcs⟩ := own_ty la7.o (b := g) rfl
            rw [← e] at hcs
            have := d7.symm.trans hcs
            simp at this
          have HN : Hid (TwI w1'' D A Pp n nn (.pointer xp) pause (clock + 1) b L L' (some ⟨g, 0, none⟩) cap (i + 1) (Lc.set i rv) w8) := ⟨d7.fr hf8 hgD, by rw [← hlc']; exact la8, by rw [List.length_set]; exact hlc', walk_set HX.out.1 HR.out.a hlt (by rw [HRV.out]; exact hxi), (HR.out.fr.trans hf7' (fun _ _ h => h.elim)).trans hf8 (fun _ _ h => .inr (by rw [h]; rfl))⟩
          refine ⟨_, rfl, ⟨hS.1.fr hf7 (fun h => h), hf7.keep hS.2 (fun h => h)⟩, ?_⟩
          simp only [Act.put, lsE, lsZ, lsS]
          refine tkY (S := SU) (i := 18) (oi := ⟨some 152, .indexAddr 107 (.tmp 138) (.tmp 139), _, _, _, none⟩) (v := .pointer (some ⟨g, i * 7, none⟩)) rfl (Or.inl ⟨rfl, fun w' _ => exec_indexAddr 107 _ _ rfl rfl rfl (index_sagas g L.length cap i hlt w')⟩) ⟨hS.1.fr hf7 (fun h => h), hf7.keep hS.2 (fun h => h)⟩ ?_
          simp only [Act.put, lsE, lsZ, lsS]
          refine wpAnyH_all (rs := [19]) (by kernel_rfl) (by simp) ?_
          intro i19 h19
          obtain rfl : i19 = 19 := by simpa using h19
          have hS8 : SU w8 := ⟨d7.fr hf8 hgD, hf8.keep (hf7.keep hS.2 (fun h => h)) (by intro e; have := (HR.out.at'.o.lt g rfl).2; omega)⟩
          refine wpOp_skip (o := ⟨none, .store 223 (.tmp 152) (.tmp 151), _, _, _, none⟩) (w' := w8) rfl rfl (exec_store 223 _ _ rfl ⟨g, i * 7, none⟩ _ rfl rfl hst) ⟨hS8, ?_⟩
          simp only [Act.put]
          refine wpAnyH_done (by kernel_rfl) ?_ _
          clear hS8 d5 b5 hf5' hxi hra hOkr d7 la7 la8 hf8 ho8 hf7' hf7 hf6 hgD hw hS
          go_wp2
          go_roundw
          case rel => exact ⟨i + 1, Lc.set i rv, by omega, rfl, by go_num, HN⟩
          case measure => simp [intOf]; omega
        · rw [if_neg hw] at hxi
          have hw' : r.a.dueB (clock + 1) = false := by simpa using hw
          rw [hw']
          have HN : Hid (TwI w1'' D A Pp n nn (.pointer xp) pause (clock + 1) b L L' (some ⟨g, 0, none⟩) cap (i + 1) Lc w5) := ⟨d5, HR.out.at'.frz hf5', HR.out.ln, walk_skip HX.out.1 HR.out.a hlt hr hxi, HR.out.fr.trans hf5' (fun _ _ h => h.elim)⟩
          clear d5 b5 hf5' hxi hra hOkr
          go_wp2
          go_roundw
          case rel => exact ⟨i + 1, Lc, by omega, rfl, by go_num, HN⟩
          case measure => simp [intOf]; omega
      · have hlt' : ¬ (i : Int) < L.length := by omega
        obtain rfl : i = L.length := by omega
        go_wp2
        go_ret
        have hT := HR.out
        have hA : Lc.map RS.a = L' := by rw [hT.a, List.drop_length, List.map_nil, List.append_nil, ← HX.out.1, List.take_length]
        refine ⟨rfl, w1'', HPOST.out, .slice ao L.length cap, hT.law, Lc, hT.at', hA, (fun _ h => .inl h), hT.fr.mono (fun c _ h => ?_)⟩
        rcases h with h | h
        · exact .inl h
        · refine .inr ?_
          cases ao with
          | none => cases h
          | some ad => simpa [Value.ownBlock] using h
  · have hff : fails = false := by
      cases fails with
      | true => exact absurd (by have h9 := HFOL.out; simp only [if_true] at h9; rw [h9.1]; rfl) hn0
      | false => rfl
    subst hff
    have hfol : Fol (clock + 1) pause (L.map RS.a) new L' := by have h9 := HFOL.out; simpa using h9
    have HFO : Hid (Fol (clock + 1) pause (L.map RS.a) new L') := hfol
    have hnp : (0 : Int) < new.length := by omega
    have hnp2 : ((new.length : Int) > 0) := hnp
    obtain ⟨g5, off5, hsa5, _⟩ := HLR.out 0 (lgv (new[0]'(by omega))) (by rw [List.getElem?_map, List.getElem?_eq_getElem (by omega)]; rfl)
    subst hsa5
    have hL0 : 0 < L.length := by
      rcases Nat.eq_zero_or_pos L.length with h0 | h0
      · have h9 := hfol.1
        rw [List.eq_nil_of_length_eq_zero h0] at h9
        exact absurd h9 hn0
      · exact h0
    have h7 : (Instr.storeAt 3 (.pointer (some ⟨D, 7, none⟩)) (.int .i64 (clock + 1))).run Tryz.prog w1'' = .ok () (w1''.setCell ⟨D, 7, none⟩ (.int .i64 (clock + 1))) := run_storeAt_one c7 (fz 7) (by kernel_rfl) rfl
    obtain ⟨W2, HW2⟩ : ∃ W2, Hid (W2 = w1''.setCell ⟨D, 7, none⟩ (.int .i64 (clock + 1))) := ⟨_, rfl⟩
    have hD2 : LawAt W2 D A Pp n nn (.pointer xp) pause (clock + 1) (.slice ao L.length cap) := by rw [HW2.out]; exact HD1.out.set7 _
    have hF2 : Fr (· = D) w1'' W2 := by rw [HW2.out]; exact FrD.set (Fr.refl _ _)
    rw [← HW2.out] at h7
    clear HW2
    have hDT : ∀ b c t, w1''.heap[b]? = some (.cells c t (0, 0)) → t = 223 ∨ t = 165 ∨ t = 220 → ¬ b = D := by
      intro b c t hb ht e
      subst e
      have := HD1.out.symm.trans hb
      simp at this
      rw [← this.2] at ht
      revert ht
      decide
    have la2 : LAt W2 b (.slice ao L.length cap) L := HA1.out.fr hF2 hDT
    have hb2 : b ≤ W2.heap.size := by
      obtain ⟨g, cap', e, hbg, hgl⟩ := la2.o.form hL0
      omega
    have d9 := hD2.c9
    have hst0 : ∀ r ∈ L, r.S.1 ≠ 0 := fun r hr => by have h9 := (HOK.out r hr).s; have e : r.a.S.1 = r.S.1 := rfl; omega
    have HSET : Hid (SagasAt W2 ao L ∧ L.length ≤ 1000000 ∧ ∀ r ∈ L, r.S.1 ≠ 0) := ⟨la2.sagas, by omega, hst0⟩
    have HLA2 : Hid (LAt W2 b (.slice ao L.length cap) L) := la2
    have HF2 : Hid (Fr (· = D) w1'' W2) := hF2
    have HD2 : Hid (LawAt W2 D A Pp n nn (.pointer xp) pause (clock + 1) (.slice ao L.length cap)) := hD2
    clear la2 hst0 hF2 hD2 hfol
    go_wp2_with (first | (refine wpList_sliceAt 45 _ _ _ _ rfl rfl (by exact HCUT.out _) ?_) | (refine wpList_store 3 (w' := W2) _ _ rfl rfl ?_ ?_; exact h7))
    refine (settled_ok HSET.out.1 HSET.out.2.1 HSET.out.2.2).mono ?_
    rintro e w3 ⟨Lv1, Ls, rfl, hR, hown, hmay, hf3⟩
    have d3 := HD2.out.fr hf3 (fun h => h)
    have h9 : (Instr.storeAt 107 (.pointer (some ⟨D, 9, none⟩)) Lv1).run Tryz.prog w3 = .ok () (w3.setCell ⟨D, 9, none⟩ Lv1) := run_storeAt_one d3.c9 (d3.fz 9) (by kernel_rfl) (by obtain ⟨_, _, e, _⟩ := own_shape hown; rw [e]; rfl)
    obtain ⟨W4, HW4⟩ : ∃ W4, Hid (W4 = w3.setCell ⟨D, 9, none⟩ Lv1) := ⟨_, rfl⟩
    have hD4 : LawAt W4 D A Pp n nn (.pointer xp) pause (clock + 1) Lv1 := by rw [HW4.out]; exact d3.set9 _
    have hF4 : Fr (· = D) w3 W4 := by rw [HW4.out]; exact FrD.set (Fr.refl _ _)
    rw [← HW4.out] at h9
    have hF14 : Fr (· = D) w1'' W4 := (HF2.out.trans (hf3.mono (fun _ _ h => h.elim)) (fun _ _ h => h)).trans hF4 (fun _ _ h => h)
    have hDT3 : ∀ b c t, w3.heap[b]? = some (.cells c t (0, 0)) → t = 223 ∨ t = 165 ∨ t = 220 → ¬ b = D := by
      intro b c t hb ht e
      subst e
      have := d3.symm.trans hb
      simp at this
      rw [← this.2] at ht
      revert ht
      decide
    have hown4 := own_frT hown hF4 (fun b c hb => hDT3 b c _ hb (.inl rfl))
    have hmay4 : ∀ r ∈ Ls, MayAt W4 r := fun r hr => (hmay r hr).fr hF4 (fun b c hb => hDT3 b c _ hb (.inr (.inr rfl)))
    have la4 : LAt W4 b Lv1 Ls := settl_lat HA1.out hF14 (fun b c hb => hDT b c _ hb (.inr (.inl rfl))) hR hown4 hb2 hmay4
    rw [← hR.1] at hown4
    obtain ⟨ax, cx, rfl, hnil2, hoff2⟩ := own_shape hown4
    have HOFF2 : Hid (∀ g off, ax = some ⟨g, off, none⟩ → off = 0) := fun g off e => by have := hoff2 _ e; simp at this; exact this
    have HNEW : Hid (∀ c, ax.map (·.block) = some c → W2.heap.size ≤ c) := fun c hc => by
      cases ax with
      | none => cases hc
      | some ad =>
        have := (hown4.lt ad.block (by simp [Value.ownBlock])).1
        simp at hc
        rw [← hc]; exact this
    have hlen := hR.1
    have HMA : Hid (Ls.map RS.a = L.map RS.a) := settl_a hR
    have HOKS : Hid (∀ r ∈ Ls, r.a.Ok clock) := fun r hr => by
      have h8 : r.a ∈ Ls.map RS.a := List.mem_map_of_mem hr
      rw [HMA.out] at h8
      obtain ⟨r0, h0, e0⟩ := List.mem_map.1 h8
      rw [← e0]; exact HOK.out r0 h0
    have HLL : Hid (L'.length = Ls.length) := by show L'.length = Ls.length; rw [hlen, HFO.out.2.1, List.length_map]
    have HI : Hid (TwI w1'' D A Pp n nn (.pointer xp) pause (clock + 1) b Ls L' ax cx 0 Ls W4) := ⟨hD4, la4, rfl, by simp, hF14.mono (fun _ _ h => .inl h)⟩
    have hS2 : w1''.heap.size ≤ W2.heap.size := HF2.out.size
    have hns : Ls.length ≤ 100000 := by omega
    have HLEN : Hid (Ls.length = L.length) := hlen
    clear hlen
    have k9 := d3.c9
    have f9 : w3.frozen? ⟨D, 9, none⟩ = false := d3.fz 9
    clear c1 c7 c8 c9 fz q0 h7 hDT d9 HSET d3 hF4 hF14 hDT3 hown4 hmay4 la4 hown hmay hD4 hnil2 hoff2 hR
    go_wp2_with (refine wpList_store 107 (w' := W4) _ _ rfl rfl ?_ ?_; exact h9)
    clear h9 k9 f9
    try rw [← HW4.out]
    clear HW4
    go_loopw [11, 12] (fun kv c wr => ∃ (i kk : Nat) (Lc : List RS), i ≤ Ls.length ∧ kk ≤ 100000 ∧ Hid (kk = cntD (clock + 1) ((L.map RS.a).take i)) ∧ kv = .int .i64 kk ∧ c = .int .i64 i ∧ Hid (TwI w1'' D A Pp n nn (.pointer xp) pause (clock + 1) b Ls L' ax cx i Lc wr)) (fun _ c _ => Ls.length - (intOf c).toNat)
    case atStart => exact ⟨0, 0, Ls, Nat.zero_le _, Nat.zero_le _, rfl, rfl, rfl, HI⟩
    case round =>
      obtain ⟨i, kk, Lc, hi, hkb, HKK, rfl, rfl, HR⟩ := hrel
      have c9 := HR.out.law.c9
      have c7 := HR.out.law.c7
      have c6 := HR.out.law.c6
      by_cases hlt : i < Ls.length
      · have hlt' : (i : Int) < Ls.length := by omega
        have hltc : i < Lc.length := by rw [HR.out.ln]; exact hlt
        obtain ⟨r, hr⟩ : ∃ r, Lc[i]? = some r := ⟨_, List.getElem?_eq_getElem hltc⟩
        obtain ⟨g, off, rfl, hrg⟩ := (HR.out.ln ▸ HR.out.at' : LAt wr b (.slice ax Lc.length cx) Lc).sagas.get hr
        obtain rfl : off = 0 := HOFF2.out g off rfl
        rw [Nat.zero_add] at hrg
        obtain ⟨s0, s1, s2, s3, s4, s5, s6⟩ := seven_of hrg
        have hra := walk_at HLL.out HR.out.a hlt hr
        have hOkr : r.a.Ok clock := by
          rw [List.getElem?_map] at hra
          obtain ⟨r0, h0, e0⟩ := Option.map_eq_some_iff.1 hra
          rw [← e0]; exact HOKS.out r0 (List.mem_of_getElem? h0)
        rw [HMA.out] at hra
        have hxi := HFO.out.2.2 i r.a hra
        have hS0 : ¬ r.S.1 = 0 := by have := hOkr.s; have e : r.a.S.1 = r.S.1 := rfl; omega
        go_wp2_with fail
        obtain ⟨W3, HW3⟩ : ∃ W3, Hid (W3 = wr.alloc (.cells #[.int .i64 r.id, .slice r.sa r.st.length r.sc, .int .i64 r.S.1, .int .i64 r.S.2, .int .i64 r.tries, .int .i64 r.due, .slice r.ma r.may.length r.mc] 223)) := ⟨_, rfl⟩
        have hf3 : Fr (fun _ => False) wr W3 := by rw [HW3.out]; exact (Fr.refl _ _).alloc _
        have b3 : Box7 W3 wr.heap.size r := by rw [HW3.out]; exact heap_alloc_at wr _
        rw [← HW3.out]
        have d3 := HR.out.law.fr hf3 (fun h => h)
        have e7 := d3.c7
        have e6 := d3.c6
        obtain ⟨t0, t1, t2, t3, t4, t5, t6⟩ := b3.c
        clear s0 s1 s2 s3 s4 s5 s6 c9 c7 c6 HW3
        refine wp_region_still_tail 11 (by kernel_rfl) (by kernel_rfl) (Bx.out ?_)
        simp only [List.take_succ_cons, List.take_zero, List.drop_succ_cons, List.drop_zero]
        repeat (refine bx_step (fun K hK => ?_); go_simp; refine hK _ ?_; clear hK K)
        refine bx_nil ?_
        obtain ⟨W4', HW4⟩ : ∃ W4', Hid (W4' = W3.drew) := ⟨_, rfl⟩
        have hf4 : Fr (fun _ => False) W3 W4' := by rw [HW4.out]; exact (Fr.refl _ _).drew
        rw [show ({ heap := W3.heap, tape := W3.tape, drawn := W3.drawn + 1, os := W3.os, output := W3.output } : World) = W4' from HW4.out.symm]
        clear HW4 t0 t1 t2 t3 t4 t5 t6 e6 e7
        go_wp2_with fail
        refine (Waits_ok W4' r (clock + 1)).mono ?_
        rintro e w5 ⟨rfl, hf5⟩
        have hf5' := (hf3.trans hf4 (fun _ _ h => h)).trans hf5 (fun _ _ h => h)
        have b5 : Box7 w5 wr.heap.size r := hf5.keep (hf4.keep b3 (fun h => h)) (fun h => h)
        have d5 := HR.out.law.fr hf5' (fun h => h)
        clear hf3 hf4 hf5 b3 d3 hrg
        rw [waits_due hOkr]
        by_cases hw : r.a.dueB (clock + 1) = true
        · rw [if_pos hw] at hxi
          obtain ⟨rp, hrp, hlg, hxi⟩ := hxi
          have hlg : new[kk]? = some (r.a.asks, rp) := by rw [HKK.out]; exact hlg
          have hkl : kk < new.length := (List.getElem?_eq_some_iff.1 hlg).1
          obtain ⟨g5', off5', hsa5, hr5⟩ := HLR.out kk (lgv (r.a.asks, rp)) (by rw [List.getElem?_map, hlg]; rfl)
          simp only [Option.some.injEq, Addr.mk.injEq, and_true] at hsa5
          obtain ⟨e5a, e5b⟩ := hsa5
          subst e5a
          subst e5b
          obtain ⟨c5, hc5⟩ := HLTY.out _ rfl
          have hng : ¬ (g5 = D ∨ (some (⟨g, 0, none⟩ : Addr)).map (·.block) = some g5) := by
            rintro (e | e)
            · subst e; have := HD1.out.symm.trans hc5; simp at this
            · have h1 := HNEW.out g5 e
              have h2 : g5 < w1''.heap.size := lt_of_heap hc5
              omega
          have hr5w : w5.rangeAt g5 (off5 + kk * 5) (lgv (r.a.asks, rp)) := fun j u hu => hf5'.cell (HR.out.fr.cell (hr5 j u hu) hng) (fun h => h)
          have hope : r.a.open := by
            have := hw
            unfold AS.dueB at this
            exact (of_decide_eq_true this).1
          obtain ⟨kst, pst, hk1, hk2, hask⟩ := rs_asks hOkr hope
          have hst5 := (HR.out.at'.s r (List.mem_of_getElem? hr)).fr hf5' (fun _ _ _ h => h)
          have hrst : RowsOf w5 r.sa 2 (r.st.map stv) := hst5.rows
          rw [hw]
          have e9 := d5.c9
          have e7 := d5.c7
          have e6 := d5.c6
          obtain ⟨t0, t1, t2, t3, t4, t5, t6⟩ := b5.c
          have hS0b : (r.S.1 != 0) = true := by simpa using hS0
          have hkne : ((kk : Int) == (new.length : Int)) = false := by simp; omega
          have hl100 : r.st.length ≤ 100 := by have := hOkr.l6; have e : r.a.st.length = r.st.length := rfl; omega
          have HASK : Hid (RowsOf w5 r.sa 2 (r.st.map stv) ∧ r.S.2 = (kst : Int) + 1 ∧ r.st[kst]? = some pst ∧ r.st.length ≤ 100) := ⟨hrst, hk1, hk2, hl100⟩
          have HR5 : Hid (w5.rangeAt g5 (off5 + kk * 5) (lgv (r.a.asks, rp))) := hr5w
          clear hrst hk1 hk2 hst5 hr5w hr5 hng hc5
          go_wp2_with fail
          refine (Asks_ok HASK.out.1 HASK.out.2.1 HASK.out.2.2.1 HASK.out.2.2.2).mono ?_
          rintro e w6 ⟨rfl, hf6⟩
          rw [← hask]
          obtain ⟨ca, HCA⟩ : ∃ ca : CL, Hid (ca = r.a.asks) := ⟨_, rfl⟩
          rw [← HCA.out]
          rw [← HCA.out] at HR5
          have hf6' := hf5'.trans hf6 (fun _ _ h => h)
          have b6 : Box7 w6 wr.heap.size r := hf6.keep b5 (fun h => h)
          have hr6 : w6.rangeAt g5 (off5 + kk * 5) (lgv (ca, rp)) := fun j u hu => hf6.cell (HR5.out j u hu) (fun h => h)
          obtain ⟨q0, q1, q2, q3, q4⟩ := five_of hr6
          unfold CL.cs
          simp only [List.toArray]
          clear t0 t1 t2 t3 t4 t5 t6 e6 e7 e9 hr6 HASK
          go_wp2_with fail
          obtain ⟨W7, HW7⟩ : ∃ W7, Hid (W7 = w6.alloc (.cells #[.int .i64 ca.saga, .int .i64 ca.step, .bool ca.back, .string ca.data] 233)) := ⟨_, rfl⟩
          have hf7 : Fr (fun _ => False) w6 W7 := by rw [HW7.out]; exact (Fr.refl _ _).alloc _
          have hb7 : W7.heap[w6.heap.size]? = some (.cells #[.int .i64 ca.saga, .int .i64 ca.step, .bool ca.back, .string ca.data] 233 (0, 0)) := by rw [HW7.out]; exact heap_alloc_at w6 _
          rw [← HW7.out]
          have x0 : W7.cell? ⟨w6.heap.size, 0, none⟩ = some (.int .i64 ca.saga) := (cell_of_row _ _ 0 _ _ _ hb7).trans rfl
          have x1 : W7.cell? ⟨w6.heap.size, 1, none⟩ = some (.int .i64 ca.step) := (cell_of_row _ _ 1 _ _ _ hb7).trans rfl
          have x2 : W7.cell? ⟨w6.heap.size, 2, none⟩ = some (.bool ca.back) := (cell_of_row _ _ 2 _ _ _ hb7).trans rfl
          have x3 : W7.cell? ⟨w6.heap.size, 3, none⟩ = some (.string ca.data) := (cell_of_row _ _ 3 _ _ _ hb7).trans rfl
          have y0 := hf7.cell q0 (fun h => h)
          have y1 := hf7.cell q1 (fun h => h)
          have y2 := hf7.cell q2 (fun h => h)
          have y3 := hf7.cell q3 (fun h => h)
          have hkl' : (kk : Int) < new.length := by omega
          have HQ4 : Hid (w6.cell? ⟨g5, off5 + kk * 5 + 4, none⟩ = some (.int .i64 (rp : Nat))) := q4
          clear q0 q1 q2 q3 q4 HW7 hb7
          refine wp_region_still_tail 6 (by kernel_rfl) (by kernel_rfl) (Bx.out ?_)
          simp only [List.take_succ_cons, List.take_zero, List.drop_succ_cons, List.drop_zero]
          repeat (refine bx_step (fun K hK => ?_); go_simp; refine hK _ ?_; clear hK K)
          refine bx_nil ?_
          obtain ⟨W8, HW8⟩ : ∃ W8, Hid (W8 = W7.drew) := ⟨_, rfl⟩
          have hf8 : Fr (fun _ => False) W7 W8 := by rw [HW8.out]; exact (Fr.refl _ _).drew
          rw [show ({ heap := W7.heap, tape := W7.tape, drawn := W7.drawn + 1, os := W7.os, output := W7.output } : World) = W8 from HW8.out.symm]
          clear HW8 x0 x1 x2 x3 y0 y1 y2 y3
          go_wp2_with fail
          refine (asked_ok W8 ca ca).mono ?_
          rintro e w9 ⟨rfl, hf9⟩
          rw [decide_eq_true (show ca.saga = ca.saga ∧ ca.step = ca.step ∧ ca.back = ca.back ∧ ca.data = ca.data from ⟨rfl, rfl, rfl, rfl⟩)]
          have hf69 := (hf7.trans hf8 (fun _ _ h => h)).trans hf9 (fun _ _ h => h)
          have hf9' := hf6'.trans hf69 (fun _ _ h => h)
          have b9 : Box7 w9 wr.heap.size r := hf69.keep b6 (fun h => h)
          have d9 := HR.out.law.fr hf9' (fun h => h)
          have z4 := hf69.cell HQ4.out (fun h => h)
          clear hf7 hf8 hf9 b6 b5 d5 hf5' hf6 hf6'
          go_wp2_with fail
          obtain ⟨U, HU⟩ : ∃ U, Hid (U = w9.drew) := ⟨_, rfl⟩
          have hfU : Fr (fun _ => False) w9 U := by rw [HU.out]; exact (Fr.refl _ _).drew
          let SU : World → Prop := fun w' => LawAt w' D A Pp n nn (.pointer xp) pause (clock + 1) (.slice (some ⟨g, 0, none⟩) Ls.length cx) ∧ Box7 w' wr.heap.size r
          have hS : SU U := ⟨d9.fr hfU (fun h => h), hfU.keep b9 (fun h => h)⟩
          refine wp_region_held (S := SU) hlift ?_
          change wpAnyH _ _ _ _ SU _ _ _ (World.drew _)
          rw [← HU.out]
          clear HU z4
          refine tkE (S := SU) (i := 0) (oi := ⟨some 189, .move (.tmp 0), _, _, _, none⟩) (v := .pointer (some ⟨D, 0, none⟩)) rfl hS ?_
          simp only [Act.put, lsE, lsZ, lsS]
          refine tkE (S := SU) (i := 1) (oi := ⟨some 190, .nilCheck (.tmp 189), _, _, _, none⟩) (v := .pointer (some ⟨D, 0, none⟩)) rfl hS ?_
          simp only [Act.put, lsE, lsZ, lsS]
          refine tkE (S := SU) (i := 2) (oi := ⟨some 191, .fieldAddr 111 (.tmp 190) 6, _, _, _, none⟩) (v := .pointer (some ⟨D, 6, none⟩)) rfl hS ?_
          simp only [Act.put, lsE, lsZ, lsS]
          refine tkE (S := SU) (i := 3) (oi := ⟨some 192, .fieldAddr 109 (.tmp 191) 3, _, _, _, none⟩) (v := .pointer (some ⟨D, 9, none⟩)) rfl hS ?_
          simp only [Act.put, lsE, lsZ, lsS]
          refine tkY (S := SU) (i := 4) (oi := ⟨some 193, .load 107 (.tmp 192), _, _, _, none⟩) (v := .slice (some ⟨g, 0, none⟩) Ls.length cx) rfl (Or.inl ⟨rfl, fun w' hs => exec_load 107 (.tmp 192) rfl ⟨D, 9, none⟩ rfl (run_loadAt_one hs.1.c9 Tryz.underlying107 rfl)⟩) hS ?_
          simp only [Act.put, lsE, lsZ, lsS]
          refine tkE (S := SU) (i := 5) (oi := ⟨some 194, .move (.tmp 12), _, _, _, none⟩) (v := .int .i64 i) rfl hS ?_
          simp only [Act.put, lsE, lsZ, lsS]
          refine tkE (S := SU) (i := 6) (oi := ⟨some 195, .move (.tmp 0), _, _, _, none⟩) (v := .pointer (some ⟨D, 0, none⟩)) rfl hS ?_
          simp only [Act.put, lsE, lsZ, lsS]
          refine tkY (S := SU) (i := 7) (oi := ⟨some 196, .load 223 (.tmp 13), _, _, _, none⟩) (v := .agg r.cs.toArray) rfl (Or.inl ⟨rfl, fun w' hs => exec_load 223 (.tmp 13) rfl ⟨wr.heap.size, 0, none⟩ rfl (load7 hs.2)⟩) hS ?_
          simp only [Act.put, lsE, lsZ, lsS]
          refine tkE (S := SU) (i := 8) (oi := ⟨some 197, .move (.tmp 17), _, _, _, none⟩) (v := .int .i64 (rp : Nat)) rfl hS ?_
          simp only [Act.put, lsE, lsZ, lsS]
          refine tkE (S := SU) (i := 9) (oi := ⟨some 198, .move (.tmp 18), _, _, _, none⟩) (v := .bool false) rfl hS ?_
          simp only [Act.put, lsE, lsZ, lsS]
          refine wpAnyH_all (rs := [10]) (by kernel_rfl) (by simp) ?_
          intro i10 h10
          obtain rfl : i10 = 10 := by simpa using h10
          refine wpOp_call (o := ⟨some 199, .call { callee := .value (.func 134), args := #[.tmp 195, .tmp 196, .tmp 197, .tmp 198], argTypes := _ }, _, _, _, none⟩) (f := 134) (args := #[.pointer (some ⟨D, 0, none⟩), .agg r.cs.toArray, .int .i64 (rp : Nat), .bool false]) rfl rfl (by kernel_rfl) ?_
          have hpr : 1 ≤ r.S.2 ∧ r.S.2 ≤ 6 := by
            have h1 : 1 ≤ r.S.2 ∧ r.S.2 ≤ r.st.length := hOkr.p hope
            have h2 : r.st.length ≤ 6 := hOkr.l6
            omega
          have htr : 0 ≤ r.tries ∧ r.tries ≤ 1000000 := by
            have h1 : 0 ≤ r.tries := hOkr.t0
            have h2 : r.tries ≤ clock := hOkr.t1
            omega
          refine (replied_ok hS.1 r (rp : Nat) hpr.1 hpr.2 htr.1 htr.2 (by omega) (by omega) hp0 hp1).mono ?_
          rintro e w7 ⟨rv, rfl, hrv, hf7⟩
          have hrva : rv.a = r.a.after rp (clock + 1) pause := by
            by_cases hmv : r.moves (rp : Nat) = true
            · rw [if_pos hmv] at hrv
              obtain ⟨M, e1, _⟩ := hrv
              rw [e1]; exact rs_turn hmv
            · rw [if_neg hmv] at hrv
              rw [hrv]; exact rs_vain hmv
          have hrvs : rv.sa = r.sa ∧ rv.sc = r.sc ∧ rv.st = r.st := by
            by_cases hmv : r.moves (rp : Nat) = true
            · rw [if_pos hmv] at hrv
              obtain ⟨M, e1, _⟩ := hrv
              rw [e1]; exact ⟨rfl, rfl, rfl⟩
            · rw [if_neg hmv] at hrv
              rw [hrv]; exact ⟨rfl, rfl, rfl⟩
          have hf7' := (hf9'.trans hfU (fun _ _ h => h)).trans hf7 (fun _ _ h => h)
          have la7 := HR.out.at'.frz hf7'
          have hlc' := HR.out.ln
          rw [← hlc'] at la7
          have hrvm : MayAt w7 rv ∧ rv.may = [rv.S] ∧ rv.mc = 1 := by
            by_cases hmv : r.moves (rp : Nat) = true
            · rw [if_pos hmv] at hrv
              obtain ⟨M, e1, e2, _⟩ := hrv
              exact ⟨e2, by rw [e1]; rfl, by rw [e1]; rfl⟩
            · rw [if_neg hmv] at hrv
              rw [hrv]; exact la7.m r (List.mem_of_getElem? hr)
          obtain ⟨w8, hst, ho8, hf8⟩ := row_set (i := i) rv la7.o hltc
          have la8 : LAt w8 b (.slice (some ⟨g, 0, none⟩) Lc.length cx) (Lc.set i rv) := la7.set hr ho8 (own_ty la7.o rfl) hf8 hrvs.1 hrvs.2.1 hrvs.2.2 hrvm
          have d7 := HR.out.law.fr hf7' (fun h => h)
          have hgD : ¬ D = g := by
            intro e
            obtain ⟨cs, hcs⟩ := own_ty la7.o (b := g) rfl
            rw [← e] at hcs
            have := d7.symm.trans hcs
            simp at this
          have HN : Hid (TwI w1'' D A Pp n nn (.pointer xp) pause (clock + 1) b Ls L' (some ⟨g, 0, none⟩) cx (i + 1) (Lc.set i rv) w8) := ⟨d7.fr hf8 hgD, by rw [← hlc']; exact la8, by rw [List.length_set]; exact hlc', walk_set HLL.out HR.out.a hlt (by rw [hrva]; exact hxi), (HR.out.fr.trans hf7' (fun _ _ h => h.elim)).trans hf8 (fun _ _ h => .inr (by rw [h]; rfl))⟩
          have hK1 : kk + 1 = cntD (clock + 1) ((L.map RS.a).take (i + 1)) := by rw [cntD_map hra, if_pos hw, ← HKK.out]
          have HK1 : Hid (kk + 1 = cntD (clock + 1) ((L.map RS.a).take (i + 1))) := hK1
          refine ⟨_, rfl, ⟨hS.1.fr hf7 (fun h => h), hf7.keep hS.2 (fun h => h)⟩, ?_⟩
          simp only [Act.put, lsE, lsZ, lsS]
          refine tkY (S := SU) (i := 11) (oi := ⟨some 200, .indexAddr 107 (.tmp 193) (.tmp 194), _, _, _, none⟩) (v := .pointer (some ⟨g, i * 7, none⟩)) rfl (Or.inl ⟨rfl, fun w' _ => exec_indexAddr 107 _ _ rfl rfl rfl (index_sagas g Ls.length cx i hlt w')⟩) ⟨hS.1.fr hf7 (fun h => h), hf7.keep hS.2 (fun h => h)⟩ ?_
          simp only [Act.put, lsE, lsZ, lsS]
          refine wpAnyH_all (rs := [12]) (by kernel_rfl) (by simp) ?_
          intro i12 h12
          obtain rfl : i12 = 12 := by simpa using h12
          have hS8 : SU w8 := ⟨d7.fr hf8 hgD, hf8.keep (hf7.keep hS.2 (fun h => h)) (by intro e; have := (HR.out.at'.o.lt g rfl).2; omega)⟩
          refine wpOp_skip (o := ⟨none, .store 223 (.tmp 200) (.tmp 199), _, _, _, none⟩) (w' := w8) rfl rfl (exec_store 223 _ _ rfl ⟨g, i * 7, none⟩ _ rfl rfl hst) ⟨hS8, ?_⟩
          simp only [Act.put]
          refine wpAnyH_done (by kernel_rfl) ?_ _
          have hkb1 : kk + 1 ≤ 100000 := by omega
          clear hS8 d9 b9 hf9' hxi hra hOkr d7 la7 la8 hf8 ho8 hf7' hf7 hfU hgD hw hS hrvm hrvs hrva hrv hK1 hf69 HR5 hlg hope
          go_wp2
          go_roundw
          case rel => exact ⟨i + 1, kk + 1, Lc.set i rv, by omega, hkb1, HK1, by go_num, by go_num, HN⟩
          case measure => simp [intOf]; omega
        · rw [if_neg hw] at hxi
          have hw' : r.a.dueB (clock + 1) = false := by simpa using hw
          rw [hw']
          have HN : Hid (TwI w1'' D A Pp n nn (.pointer xp) pause (clock + 1) b Ls L' (some ⟨g, 0, none⟩) cx (i + 1) Lc w5) := ⟨d5, HR.out.at'.frz hf5', HR.out.ln, walk_skip HLL.out HR.out.a hlt hr hxi, HR.out.fr.trans hf5' (fun _ _ h => h.elim)⟩
          have HK1 : Hid (kk = cntD (clock + 1) ((L.map RS.a).take (i + 1))) := by show kk = _; rw [cntD_map hra, if_neg hw, ← HKK.out]; rfl
          clear d5 b5 hf5' hxi hra hOkr
          go_wp2
          go_roundw
          case rel => exact ⟨i + 1, kk, Lc, by omega, hkb, HK1, rfl, by go_num, HN⟩
          case measure => simp [intOf]; omega
      · have hlt' : ¬ (i : Int) < Ls.length := by omega
        obtain rfl : i = Ls.length := by omega
        have hke : kk = new.length := by
          have h8 := HKK.out
          rw [HLEN.out, List.take_of_length_le (by simp), ← HFO.out.1] at h8
          exact h8
        have hkeb : ((kk : Int) == (new.length : Int)) = true := by simp; omega
        go_wp2
        go_ret
        have hT := HR.out
        have hA : Lc.map RS.a = L' := by rw [hT.a, List.drop_length, List.map_nil, List.append_nil, ← HLL.out, List.take_length]
        refine ⟨rfl, w1'', HPOST.out, .slice ax Ls.length cx, hT.law, Lc, hT.at', hA, (fun c hc => .inr ?_), hT.fr.mono (fun c hc h => ?_)⟩
        · have h8 : ax.map (·.block) = some c := by
            cases ax with
            | none => cases hc
            | some ad => simpa [Value.ownBlock] using hc
          have := HNEW.out c h8
          omega
        · rcases h with h | h
          · exact .inl h
          · have := HNEW.out c h
            omega
end Go.Proofs.YteebjgfalllbjaaGreatDoor
