import Derived.Test.YteebjgfalllbjaaGreatDoorCGd0NdVa
namespace Go.Proofs.YteebjgfalllbjaaGreatDoor
open Go.RowKit
/-- The wait, doubled so often as it is below the pause. -/
def waitR (p : Int) : Nat → Int
  | 0 => 1
  | n + 1 => if waitR p n < p then 2 * waitR p n else waitR p n
def RS.vain (r : RS) (clock pause : Int) : RS := { r with tries := r.tries + 1, due := clock + (if waitR pause r.tries.toNat > pause then pause else waitR pause r.tries.toNat) }
theorem waitR_pos (p : Int) (n : Nat) : 1 ≤ waitR p n := by
  induction n with
  | zero => exact Int.le_refl 1
  | succ n ih => rw [waitR]; split <;> omega
theorem waitR_le (p : Int) (h : 1 ≤ p) (n : Nat) : waitR p n ≤ 2 * p := by
  induction n with
  | zero => show (1 : Int) ≤ 2 * p; omega
  | succ n ih => rw [waitR]; split <;> omega
theorem waitR_stop (p : Int) (n : Nat) (h : p ≤ waitR p n) (k : Nat) : waitR p (n + k) = waitR p n := by
  induction k with
  | zero => rfl
  | succ k ih => rw [← Nat.add_assoc, waitR, ih, if_neg (by omega)]
set_option maxRecDepth 100000 in
set_option maxHeartbeats 1000000 in
theorem Vain_ok (w : World) (r : RS) (clock pause : Int) (h0 : 0 ≤ r.tries) (h1 : r.tries ≤ 1000000) (hc0 : 0 ≤ clock) (hc1 : clock ≤ 1000000) (hp0 : 1 ≤ pause) (hp1 : pause ≤ 64) : Calls Tryz.prog 131 #[.agg r.cs.toArray, .int .i64 clock, .int .i64 pause] w fun e w' => e = .returned (.agg (r.vain clock pause).cs.toArray) ∧ Fr (fun _ => False) w w' := by
  obtain ⟨id, sa, sc, st, ⟨s1, s2⟩, tries, due, ma, mc, may⟩ := r
  obtain ⟨n, rfl⟩ : ∃ n : Nat, tries = n := ⟨tries.toNat, by have : 0 ≤ tries := h0; omega⟩
  have hn : (n : Int) ≤ 1000000 := h1
  have e1 : wrap64 ((n : Int) + 1) = (n : Int) + 1 := wrap64_id (by omega)
  obtain ⟨d, hd⟩ : ∃ d, d = clock + (if pause < waitR pause n then pause else waitR pause n) := ⟨_, rfl⟩
  have ev : (RS.vain ⟨id, sa, sc, st, (s1, s2), (n : Int), due, ma, mc, may⟩ clock pause).cs = [.int .i64 id, .slice sa st.length sc, .int .i64 s1, .int .i64 s2, .int .i64 ((n : Int) + 1), .int .i64 d, .slice ma may.length mc] := by rw [hd]; rfl
  rw [ev]
  have HD : Hid (d = clock + (if pause < waitR pause n then pause else waitR pause n)) := hd
  clear ev hd
  have FIN : ∀ (d' : Int) (tmps : Array Value), d = d' → tmps.getD 6 undef = .pointer (some ⟨w.heap.size + 1, 0, none⟩) → (results Tryz.f131 tmps).run Tryz.prog ((w.alloc (.cells #[.int .i64 id, .slice sa st.length sc, .int .i64 s1, .int .i64 s2, .int .i64 ((n : Int) + 1), .int .i64 d', .slice ma may.length mc] 223)).alloc (.cells #[.int .i64 id, .slice sa st.length sc, .int .i64 s1, .int .i64 s2, .int .i64 ((n : Int) + 1), .int .i64 d', .slice ma may.length mc] 223)) = .ok (.agg #[.int .i64 id, .slice sa st.length sc, .int .i64 s1, .int .i64 s2, .int .i64 ((n : Int) + 1), .int .i64 d, .slice ma may.length mc]) ((w.alloc (.cells #[.int .i64 id, .slice sa st.length sc, .int .i64 s1, .int .i64 s2, .int .i64 ((n : Int) + 1), .int .i64 d', .slice ma may.length mc] 223)).alloc (.cells #[.int .i64 id, .slice sa st.length sc, .int .i64 s1, .int .i64 s2, .int .i64 ((n : Int) + 1), .int .i64 d', .slice ma may.length mc] 223)) := fun d' tmps hp h4 => by
    rw [hp]
    refine results_cell_row Tryz.results131 tmps _ (w.heap.size + 1) 223 #[.int .i64 id, .slice sa st.length sc, .int .i64 s1, .int .i64 s2, .int .i64 ((n : Int) + 1), .int .i64 d', .slice ma may.length mc] (0, 0) _ h4 ?_ Tryz.underlying223 rfl (by kernel_rfl)
    have := heap_alloc_at (w.alloc (.cells #[.int .i64 id, .slice sa st.length sc, .int .i64 s1, .int .i64 s2, .int .i64 ((n : Int) + 1), .int .i64 d', .slice ma may.length mc] 223)) (.cells #[.int .i64 id, .slice sa st.length sc, .int .i64 s1, .int .i64 s2, .int .i64 ((n : Int) + 1), .int .i64 d', .slice ma may.length mc] 223)
    simpa using this
  have FF : ∀ d' : Int, Fr (fun _ => False) w ((w.alloc (.cells #[.int .i64 id, .slice sa st.length sc, .int .i64 s1, .int .i64 s2, .int .i64 ((n : Int) + 1), .int .i64 d', .slice ma may.length mc] 223)).alloc (.cells #[.int .i64 id, .slice sa st.length sc, .int .i64 s1, .int .i64 s2, .int .i64 ((n : Int) + 1), .int .i64 d', .slice ma may.length mc] 223)) := fun d' => ((Fr.refl _ _).alloc _).alloc _
  unfold RS.cs
  go_enter Tryz.func131, Tryz.ntmps131
  go_wp2
  go_loopw [7, 8] (fun x i wr => ∃ k : Nat, k ≤ n ∧ x = .int .i64 (waitR pause k) ∧ i = .int .i64 ((k : Int) + 1) ∧ wr = ((w.alloc (.cells #[.int .i64 id, .slice sa st.length sc, .int .i64 s1, .int .i64 s2, .int .i64 ((n : Int) + 1), .int .i64 due, .slice ma may.length mc] 223)).alloc (.cells #[.int .i64 0, .slice none 0 0, .int .i64 0, .int .i64 0, .int .i64 0, .int .i64 0, .slice none 0 0] 223))) (fun _ i _ => n + 1 - (intOf i).toNat)
  case atStart => exact ⟨0, Nat.zero_le _, rfl, rfl, rfl⟩
  case round =>
    obtain ⟨k, hk, rfl, rfl, rfl⟩ := hrel
    have hw1 := waitR_pos pause k
    have hw2 := waitR_le pause hp0 k
    obtain ⟨x, hx⟩ : ∃ x, x = waitR pause k := ⟨_, rfl⟩
    rw [← hx] at hw1 hw2
    rw [← hx]
    have HX : Hid (x = waitR pause k) := hx
    clear hx
    by_cases hlt : k < n
    · have hlt' : (k : Int) < n := by omega
      by_cases hwp : x < pause
      · have e2 : wrap64 (2 * x) = 2 * x := wrap64_id (by omega)
        have e3 : wrap64 ((k : Int) + 1 + 1) = ((k + 1 : Nat) : Int) + 1 := by rw [wrap64_id (by omega)]; push_cast; rfl
        have HX2 : Hid (2 * x = waitR pause (k + 1)) := by show 2 * x = waitR pause (k + 1); rw [waitR, ← HX.out, if_pos hwp]
        go_wp2
        go_roundw
        case rel => exact ⟨k + 1, by omega, by rw [← HX2.out], by push_cast; rfl, trivial⟩
        case measure => simp [intOf]; omega
      · have HN : Hid (x = waitR pause n) := (by show x = waitR pause n; have h9 := waitR_stop pause k (by rw [← HX.out]; omega) (n - k); rw [show k + (n - k) = n by omega] at h9; rw [h9]; exact HX.out)
        have f1 : wrap64 (clock + x) = clock + x := wrap64_id (by omega)
        have f2 : wrap64 (clock + pause) = clock + pause := wrap64_id (by omega)
        by_cases hgt : pause < x
        · go_wp2
          exact bodyPost_ret (FIN _ _ (by rw [HD.out, ← HN.out, if_pos hgt]) rfl) rfl ⟨rfl, (FF _)⟩
        · go_wp2
          exact bodyPost_ret (FIN _ _ (by rw [HD.out, ← HN.out, if_neg (by omega)]) rfl) rfl ⟨rfl, (FF _)⟩
    · have hkn : k = n := by omega
      have HN : Hid (x = waitR pause n) := by rw [← hkn]; exact HX
      subst hkn
      have f1 : wrap64 (clock + x) = clock + x := wrap64_id (by omega)
      have f2 : wrap64 (clock + pause) = clock + pause := wrap64_id (by omega)
      by_cases hgt : pause < x
      · go_wp2
        exact bodyPost_ret (FIN _ _ (by rw [HD.out, ← HN.out, if_pos hgt]) rfl) rfl ⟨rfl, (FF _)⟩
      · go_wp2
        exact bodyPost_ret (FIN _ _ (by rw [HD.out, ← HN.out, if_neg (by omega)]) rfl) rfl ⟨rfl, (FF _)⟩
end Go.Proofs.YteebjgfalllbjaaGreatDoor
namespace Go.Proofs.YteebjgfalllbjaaGreatDoor
open Go.RowKit
/-- A saga behind a reply that was written down. -/
def RS.turn (r : RS) (reply : Int) (M : Nat) : RS := { r with S := r.next reply, tries := 0, due := 0, ma := some ⟨M, 0, none⟩, mc := 1, may := [r.next reply] }
theorem run_store7 {w : World} {g : Nat} {cs : List Value} {r : RS} {t : TypeId} (hg : w.heap[g]? = some (.cells cs.toArray t (0, 0))) (hc : cs.length = 7) : (Instr.storeAt 223 (.pointer (some ⟨g, 0, none⟩)) (.agg r.cs.toArray)).run Tryz.prog w = .ok () (w.setRow g r.cs.toArray) := by
  have := run_storeAt_row (P := Tryz.prog) (o := 0) (ty := 223) (vs := r.cs) hg (by rw [r.len]; omega) r.one (by rw [saga_size, r.len])
  rwa [show splice cs 0 r.cs = r.cs from by simp [splice, r.len, hc]] at this
set_option maxRecDepth 100000 in
set_option maxHeartbeats 2000000 in
theorem replied_ok {w : World} {D A Pp n : Nat} {nn : Bool} {x Lv : Value} {pause clock : Int} (h : LawAt w D A Pp n nn x pause clock Lv) (r : RS) (reply : Int) (h2 : 1 ≤ r.S.2) (h3 : r.S.2 ≤ 6) (h0 : 0 ≤ r.tries) (h1 : r.tries ≤ 1000000) (hc0 : 0 ≤ clock) (hc1 : clock ≤ 1000000) (hp0 : 1 ≤ pause) (hp1 : pause ≤ 64) :
    Calls Tryz.prog 134 #[.pointer (some ⟨D, 0, none⟩), .agg r.cs.toArray, .int .i64 reply, .bool false] w fun e w' => ∃ r', e = .returned (.agg r'.cs.toArray) ∧ (if r.moves reply then ∃ M, r' = r.turn reply M ∧ MayAt w' r' ∧ w.heap.size ≤ M else r' = r.vain clock pause) ∧ Fr (fun _ => False) w w' := by
  have HM := fun w' => rsMoves_ok w' r reply
  have HV := fun w' => Vain_ok w' r clock pause h0 h1 hc0 hc1 hp0 hp1
  have HN := fun w' => rsNext_ok w' r reply h2 h3
  obtain ⟨rv, HRV⟩ : ∃ rv, Hid (rv = r.vain clock pause) := ⟨_, rfl⟩
  obtain ⟨nx, HNX⟩ : ∃ nx, Hid (nx = r.next reply) := ⟨_, rfl⟩
  rw [← HRV.out] at HV
  rw [← HNX.out] at HN
  obtain ⟨Z, HZ⟩ : ∃ Z : List Value, Hid (Z = [.int .i64 0, .slice none 0 0, .int .i64 0, .int .i64 0, .int .i64 0, .int .i64 0, .slice none 0 0]) := ⟨_, rfl⟩
  obtain ⟨W, HW⟩ : ∃ W, Hid (W = (w.alloc (.cells #[.int .i64 r.id, .slice r.sa r.st.length r.sc, .int .i64 r.S.1, .int .i64 r.S.2, .int .i64 r.tries, .int .i64 r.due, .slice r.ma r.may.length r.mc] 223)).alloc (.cells Z.toArray 223)) := ⟨_, rfl⟩
  have hF : Fr (fun _ => False) w W := by rw [HW.out]; exact ((Fr.refl _ _).alloc _).alloc _
  have r0 : Box7 W w.heap.size r := by unfold Box7; rw [HW.out, heap_alloc_lt _ _ _ (by simp)]; exact heap_alloc_at _ _
  have r1 : W.heap[w.heap.size + 1]? = some (.cells Z.toArray 223 (0, 0)) := by rw [HW.out]; exact heap_alloc2_new w _ _
  have hZ7 : Z.length = 7 := by rw [HZ.out]; rfl
  rw [HZ.out] at HW
  unfold RS.cs at *
  go_enter Tryz.func134, Tryz.ntmps134
  go_wp2_with fail
  rw [← HW.out]
  refine (HM W).mono ?_
  rintro e w2 ⟨rfl, hf2⟩
  have hF2 := hF.trans hf2 (fun _ _ h => h)
  have b2 : Box7 w2 w.heap.size r := hf2.keep r0 (fun h => h)
  have z2 := hf2.keep r1 (fun h => h)
  have hd2 := h.fr hF2 (fun h => h)
  obtain ⟨s0, s1, s2, s3, s4, s5, s6⟩ := b2.c
  have c6 := hd2.c6
  have c7 := hd2.c7
  clear HW hF r0 r1 hf2 hd2 h
  by_cases hm : r.moves reply = true
  · rw [hm]
    clear HV
    go_wp2_with fail
    refine (HN w2).mono ?_
    rintro e w3 ⟨rfl, hf3⟩
    have b3 : Box7 w3 w.heap.size r := hf3.keep b2 (fun h => h)
    have z3 := hf3.keep z2 (fun h => h)
    have hF3 := hF2.trans hf3 (fun _ _ h => h)
    clear s0 s1 s2 s3 s4 s5 s6 c6 c7 b2 z2 hF2 hf3
    have hn3 := heap_alloc_at w3 (.cells #[.int .i64 nx.1, .int .i64 nx.2] 220)
    have hf4 : Fr (fun _ => False) w3 (w3.alloc (.cells #[.int .i64 nx.1, .int .i64 nx.2] 220)) := (Fr.refl _ _).alloc _
    have b4 : Box7 (w3.alloc (.cells #[.int .i64 nx.1, .int .i64 nx.2] 220)) w.heap.size r := hf4.keep b3 (fun h => h)
    have z4 := hf4.keep z3 (fun h => h)
    have hlt3 := lt_of_heap z3
    obtain ⟨hst, b5⟩ := box_store nx b4
    obtain ⟨W5, HW5⟩ : ∃ W5, Hid (W5 = (w3.alloc (.cells #[.int .i64 nx.1, .int .i64 nx.2] 220)).setRow w.heap.size ({ r with S := nx } : RS).cs.toArray) := ⟨_, rfl⟩
    have hf5 : Fr (fun b => b = w.heap.size) (w3.alloc (.cells #[.int .i64 nx.1, .int .i64 nx.2] 220)) W5 := by rw [HW5.out]; exact Fr.setRow (S := fun b => b = w.heap.size) (Fr.refl _ _) _ (fun _ => rfl) _
    rw [← HW5.out] at hst b5
    have n5 := hf5.keep hn3 (by omega)
    have z5 := hf5.keep z4 (by omega)
    have hF5 : Fr (fun _ => False) w W5 := (hF3.trans hf4 (fun _ _ h => h)).trans hf5 (fun b hb h => by omega)
    have t0 : W5.cell? ⟨w3.heap.size, 0, none⟩ = some (.int .i64 nx.1) := (cell_of_row _ _ 0 _ _ _ n5).trans rfl
    have t1 : W5.cell? ⟨w3.heap.size, 1, none⟩ = some (.int .i64 nx.2) := (cell_of_row _ _ 1 _ _ _ n5).trans rfl
    obtain ⟨M, HMM⟩ : ∃ M, Hid (M = W5.heap.size) := ⟨_, rfl⟩
    obtain ⟨W6, HW6⟩ : ∃ W6, Hid (W6 = W5.alloc (.cells #[.int .i64 nx.1, .int .i64 nx.2] 220)) := ⟨_, rfl⟩
    have hF6 : Fr (fun _ => False) W5 W6 := by rw [HW6.out]; exact (Fr.refl _ _).alloc _
    have b6 : Box7 W6 w.heap.size { r with S := nx } := hF6.keep b5 (fun h => h)
    have z6 := hF6.keep z5 (fun h => h)
    have m6 : W6.heap[M]? = some (.cells #[.int .i64 nx.1, .int .i64 nx.2] 220 (0, 0)) := by rw [HW6.out, HMM.out]; exact heap_alloc_at _ _
    have hMl : w.heap.size + 1 < M := by rw [HMM.out]; exact lt_of_heap z5
    obtain ⟨W7, HW7⟩ : ∃ W7, Hid (W7 = W6.setCell ⟨w.heap.size, 6, none⟩ (.slice (some ⟨M, 0, none⟩) 1 1)) := ⟨_, rfl⟩
    have h7 : (Instr.storeAt 221 (.pointer (some ⟨w.heap.size, 6, none⟩)) (.slice (some ⟨M, 0, none⟩) 1 1)).run Tryz.prog W6 = .ok () W7 := by rw [HW7.out]; exact run_storeAt_one b6.c.2.2.2.2.2.2 (b6.fz 6) (by kernel_rfl) rfl
    have b7 : Box7 W7 w.heap.size { r with S := nx, ma := some ⟨M, 0, none⟩, mc := 1, may := [nx] } := by rw [HW7.out]; exact heap_setCell_at W6 w.heap.size 6 _ _ _ b6
    have f7 : Fr (fun b => b = w.heap.size) W6 W7 := by rw [HW7.out]; exact Fr.setCell (S := fun b => b = w.heap.size) (Fr.refl _ _) _ (fun _ => rfl) _
    obtain ⟨W8, HW8⟩ : ∃ W8, Hid (W8 = W7.setCell ⟨w.heap.size, 4, none⟩ (.int .i64 0)) := ⟨_, rfl⟩
    have h8 : (Instr.storeAt 3 (.pointer (some ⟨w.heap.size, 4, none⟩)) (.int .i64 0)).run Tryz.prog W7 = .ok () W8 := by rw [HW8.out]; exact run_storeAt_one b7.c.2.2.2.2.1 (b7.fz 4) (by kernel_rfl) rfl
    have b8 : Box7 W8 w.heap.size { r with S := nx, ma := some ⟨M, 0, none⟩, mc := 1, may := [nx], tries := 0 } := by rw [HW8.out]; exact heap_setCell_at W7 w.heap.size 4 _ _ _ b7
    have f8 : Fr (fun b => b = w.heap.size) W6 W8 := by rw [HW8.out]; exact f7.setCell _ (fun _ => rfl) _
    obtain ⟨W9, HW9⟩ : ∃ W9, Hid (W9 = W8.setCell ⟨w.heap.size, 5, none⟩ (.int .i64 0)) := ⟨_, rfl⟩
    have h9 : (Instr.storeAt 3 (.pointer (some ⟨w.heap.size, 5, none⟩)) (.int .i64 0)).run Tryz.prog W8 = .ok () W9 := by rw [HW9.out]; exact run_storeAt_one b8.c.2.2.2.2.2.1 (b8.fz 5) (by kernel_rfl) rfl
    obtain ⟨rt, HRT⟩ : ∃ rt, Hid (rt = r.turn reply M) := ⟨_, rfl⟩
    have b9 : Box7 W9 w.heap.size rt := by rw [HW9.out, HRT.out, RS.turn, ← HNX.out]; exact heap_setCell_at W8 w.heap.size 5 _ _ _ b8
    have f9 : Fr (fun b => b = w.heap.size) W6 W9 := by rw [HW9.out]; exact f8.setCell _ (fun _ => rfl) _
    have z9 := f9.keep z6 (by omega)
    have m9 := f9.keep m6 (by omega)
    have hF9 : Fr (fun _ => False) w W9 := (hF5.trans hF6 (fun _ _ h => h)).trans f9 (fun b hb h => by omega)
    have hsE := run_store7 (r := rt) z9 hZ7
    have hRE := setRow_heap W9 (w.heap.size + 1) _ rt.cs.toArray 223 (0, 0) z9
    obtain ⟨WE, HWE⟩ : ∃ WE, Hid (WE = W9.setRow (w.heap.size + 1) rt.cs.toArray) := ⟨_, rfl⟩
    have fE : Fr (fun b => b = w.heap.size + 1) W9 WE := by rw [HWE.out]; exact Fr.setRow (S := fun b => b = w.heap.size + 1) (Fr.refl _ _) _ (fun _ => rfl) _
    rw [← HWE.out] at hsE hRE
    have HEND : Hid (MayAt WE rt ∧ Fr (fun _ => False) w WE ∧ w.heap.size ≤ M) := ⟨⟨M, by rw [HRT.out]; rfl, by rw [HRT.out]; show WE.heap[M]? = some (.cells #[.int .i64 (r.next reply).1, .int .i64 (r.next reply).2] 220 (0, 0)); rw [← HNX.out]; exact fE.keep m9 (by omega)⟩, hF9.trans fE (fun b hb h => by omega), by omega⟩
    rw [HW6.out, HMM.out] at h7
    obtain ⟨p0, p1, p2, p3, p4, p5, p6⟩ := b9.c
    unfold RS.cs at hsE
    clear hn3 hf4 b4 z4 b5 hf5 n5 z5 hF5 hF6 b6 z6 m6 b7 f7 b8 f8 b9 f9 z9 m9 hF9 HWE fE HW9 HW8 HW7 HW6 HW5 b3 z3 hF3 HN HM
    go_wp2_with (first
      | (refine wpList_store 220 (w' := W5) _ _ rfl rfl ?_ ?_; exact hst)
      | (refine wpList_store 221 (w' := W7) _ _ rfl rfl ?_ ?_; exact h7)
      | (refine wpList_store 3 (w' := W8) _ _ rfl rfl ?_ ?_; exact h8)
      | (refine wpList_store 3 (w' := W9) _ _ rfl rfl ?_ ?_; exact h9)
      | (refine wpList_store 223 (w' := WE) _ _ rfl rfl ?_ ?_; exact hsE))
    refine bodyPost_ret (v := .agg rt.cs.toArray) (results_cell_row Tryz.results134 _ _ (w.heap.size + 1) 223 _ (0, 0) _ rfl hRE Tryz.underlying223 rfl (by kernel_rfl)) rfl ?_
    refine ⟨rt, rfl, ?_, HEND.out.2.1⟩
    exact ⟨M, HRT.out, HEND.out.1, HEND.out.2.2⟩
  · have hm' : r.moves reply = false := by simpa using hm
    rw [hm']
    clear HN
    go_wp2_with fail
    refine wp_region_still_tail 11 (by kernel_rfl) (by kernel_rfl) (Bx.out ?_)
    simp only [List.take_succ_cons, List.take_zero, List.drop_succ_cons, List.drop_zero]
    repeat (refine bx_step (fun K hK => ?_); go_simp; refine hK _ ?_; clear hK K)
    refine bx_nil ?_
    obtain ⟨W3, HW3⟩ : ∃ W3, Hid (W3 = w2.drew) := ⟨_, rfl⟩
    have hf3 : Fr (fun _ => False) w2 W3 := by rw [HW3.out]; exact (Fr.refl _ _).drew
    rw [show ({ heap := w2.heap, tape := w2.tape, drawn := w2.drawn + 1, os := w2.os, output := w2.output } : World) = W3 from HW3.out.symm]
    have z3 := hf3.keep z2 (fun h => h)
    have hF3 := hF2.trans hf3 (fun _ _ h => h)
    clear s0 s1 s2 s3 s4 s5 s6 c6 c7 b2 z2 hF2 hf3 HW3
    go_wp2_with fail
    refine (HV W3).mono ?_
    rintro e w4 ⟨rfl, hf4⟩
    have z4 := hf4.keep z3 (fun h => h)
    have hsE := run_store7 (r := rv) z4 hZ7
    have hRE := setRow_heap w4 (w.heap.size + 1) _ rv.cs.toArray 223 (0, 0) z4
    obtain ⟨WE, HWE⟩ : ∃ WE, Hid (WE = w4.setRow (w.heap.size + 1) rv.cs.toArray) := ⟨_, rfl⟩
    have fE : Fr (fun b => b = w.heap.size + 1) w4 WE := by rw [HWE.out]; exact Fr.setRow (S := fun b => b = w.heap.size + 1) (Fr.refl _ _) _ (fun _ => rfl) _
    rw [← HWE.out] at hsE hRE
    have HEND : Hid (Fr (fun _ => False) w WE) := (hF3.trans hf4 (fun _ _ h => h)).trans fE (fun b hb h => by omega)
    unfold RS.cs at hsE
    clear z3 z4 hF3 hf4 HWE fE HV HM
    go_wp2_with (refine wpList_store 223 (w' := WE) _ _ rfl rfl ?_ ?_; exact hsE)
    refine bodyPost_ret (v := .agg rv.cs.toArray) (results_cell_row Tryz.results134 _ _ (w.heap.size + 1) 223 _ (0, 0) _ rfl hRE Tryz.underlying223 rfl (by kernel_rfl)) rfl ?_
    exact ⟨rv, rfl, HRV.out, HEND.out⟩
end Go.Proofs.YteebjgfalllbjaaGreatDoor
namespace Go.Proofs.YteebjgfalllbjaaGreatDoor
open Go.RowKit
theorem rcells_set (L : List RS) (i : Nat) (r' : RS) (hi : i < L.length) : rcells (L.set i r') = splice (rcells L) (i * 7) r'.cs := by
  obtain ⟨h1, _⟩ := rcells_cut L i (by omega)
  obtain ⟨_, h2⟩ := rcells_cut L (i + 1) (by omega)
  rw [splice, h1, r'.len, show i * 7 + 7 = (i + 1) * 7 from by omega, h2, List.set_eq_take_append_cons_drop, if_pos hi, rcells_append]
  simp [rcells]
/-- A saga is laid over another of its row. -/
theorem row_set {w : World} {base g cap : Nat} {L : List RS} {i : Nat} (r' : RS) (h : w.ownsRow base 223 7 (.slice (some ⟨g, 0, none⟩) L.length cap) L.length (rcells L)) (hi : i < L.length) :
    ∃ w', (Instr.storeAt 223 (.pointer (some ⟨g, i * 7, none⟩)) (.agg r'.cs.toArray)).run Tryz.prog w = .ok () w' ∧ w'.ownsRow base 223 7 (.slice (some ⟨g, 0, none⟩) L.length cap) L.length (rcells (L.set i r')) ∧ Fr (fun b => b = g) w w' := by
  rcases h.2 with ⟨h', _⟩ | ⟨g', cap', cur, h', hb, hg, hnc, hcm, hcs, htake⟩
  · simp at h'
  · simp only [Value.slice.injEq, Option.some.injEq, Addr.mk.injEq, and_true, true_and] at h'
    obtain ⟨rfl, rfl⟩ := h'
    obtain ⟨cur⟩ := cur
    have hcl : cur.length = cap * 7 := by simpa using hcs
    have hst := run_storeAt_row (P := Tryz.prog) (o := i * 7) (ty := 223) (vs := r'.cs) hg (by rw [r'.len]; omega) r'.one (by rw [saga_size, r'.len])
    refine ⟨_, hst, ⟨by rw [rcells_len, List.length_set], .inr ⟨g, cap, (splice cur (i * 7) r'.cs).toArray, rfl, hb, setRow_heap _ _ _ _ _ _ hg, hnc, hcm, ?_, ?_⟩⟩, Fr.setRow (S := fun b => b = g) (Fr.refl _ _) _ (fun _ => rfl) _⟩
    · rw [List.size_toArray]
      simp only [splice, List.length_append, List.length_take, List.length_drop, r'.len]
      omega
    · have htake' : cur.take (L.length * 7) = rcells L := by simpa using htake
      rw [rcells_set L i r' hi, ← htake']
      show (splice cur (i * 7) r'.cs).take (L.length * 7) = splice (cur.take (L.length * 7)) (i * 7) r'.cs
      simp only [splice, r'.len]
      rw [List.take_append, List.take_append, List.take_take, List.take_take, List.length_take, r'.len, List.drop_take]
      rw [show min (L.length * 7) (i * 7) = i * 7 from by omega, show min (i * 7) (L.length * 7) = i * 7 from by omega, show min (i * 7) cur.length = i * 7 from by omega]
      rw [List.take_of_length_le (l := r'.cs) (by rw [r'.len]; omega), show L.length * 7 - i * 7 - 7 = L.length * 7 - (i * 7 + 7) from by omega]
end Go.Proofs.YteebjgfalllbjaaGreatDoor
