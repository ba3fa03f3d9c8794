import Derived.Test.YteebjgfalllbjaaGreatDoorCFlushRjVa
namespace Go.Proofs.YteebjgfalllbjaaGreatDoor
open Go.RowKit
/-- The wait, doubled so often as it is below the pause. -/
def waitR (p : Int) : Nat → Int
  | 0 => 1
  | n + 1 => if waitR p n < p then 2 * waitR p n else waitR p n
def RS.vain (r : RS) (clock pause : Int) : RS := { r with tries := r.tries + 1, due := clock + (if waitR pause r.tries.toNat > pause then pause else waitR pause r.tries.toNat) }
theorem waitR_pos (p : Int) (n : Nat) : 1 ≤ waitR p n := by
  induction n with
  | zero => exact Int.le_refl 1
  | succ n ih => rw [waitR]; split <;> omega
theorem waitR_le (p : Int) (h : 1 ≤ p) (n : Nat) : waitR p n ≤ 2 * p := by
  induction n with
  | zero => show (1 : Int) ≤ 2 * p; omega
  | succ n ih => rw [waitR]; split <;> omega
theorem waitR_stop (p : Int) (n : Nat) (h : p ≤ waitR p n) (k : Nat) : waitR p (n + k) = waitR p n := by
  induction k with
  | zero => rfl
  | succ k ih => rw [← Nat.add_assoc, waitR, ih, if_neg (by omega)]
set_option maxRecDepth 100000 in
set_option maxHeartbeats 1000000 in
theorem Vain_ok (w : World) (r : RS) (clock pause : Int) (h0 : 0 ≤ r.tries) (h1 : r.tries ≤ 1000000) (hc0 : 0 ≤ clock) (hc1 : clock ≤ 1000000) (hp0 : 1 ≤ pause) (hp1 : pause ≤ 64) : Calls Tryz.prog 131 #[.agg r.cs.toArray, .int .i64 clock, .int .i64 pause] w fun e w' => e = .returned (.agg (r.vain clock pause).cs.toArray) ∧ Fr (fun _ => False) w w' := by
  obtain ⟨id, sa, sc, st, ⟨s1, s2⟩, tries, due, ma, mc, may⟩ := r
  obtain ⟨n, rfl⟩ : ∃ n : Nat, tries = n := ⟨tries.toNat, by have : 0 ≤ tries := h0; omega⟩
  have hn : (n : Int) ≤ 1000000 := h1
  have e1 : wrap64 ((n : Int) + 1) = (n : Int) + 1 := wrap64_id (by omega)
  obtain ⟨d, hd⟩ : ∃ d, d = clock + (if pause < waitR pause n then pause else waitR pause n) := ⟨_, rfl⟩
  have ev : (RS.vain ⟨id, sa, sc, st, (s1, s2), (n : Int), due, ma, mc, may⟩ clock pause).cs = [.int .i64 id, .slice sa st.length sc, .int .i64 s1, .int .i64 s2, .int .i64 ((n : Int) + 1), .int .i64 d, .slice ma may.length mc] := by rw [hd]; rfl
  rw [ev]
  have HD : Hid (d = clock + (if pause < waitR pause n then pause else waitR pause n)) := hd
  clear ev hd
  have FIN : ∀ (d' : Int) (tmps : Array Value), d = d' → tmps.getD 6 undef = .pointer (some ⟨w.heap.size + 1, 0, none⟩) → (results Tryz.f131 tmps).run Tryz.prog ((w.alloc (.cells #[.int .i64 id, .slice sa st.length sc, .int .i64 s1, .int .i64 s2, .int .i64 ((n : Int) + 1), .int .i64 d', .slice ma may.length mc] 223)).alloc (.cells #[.int .i64 id, .slice sa st.length sc, .int .i64 s1, .int .i64 s2, .int .i64 ((n : Int) + 1), .int .i64 d', .slice ma may.length mc] 223)) = .ok (.agg #[.int .i64 id, .slice sa st.length sc, .int .i64 s1, .int .i64 s2, .int .i64 ((n : Int) + 1), .int .i64 d, .slice ma may.length mc]) ((w.alloc (.cells #[.int .i64 id, .slice sa st.length sc, .int .i64 s1, .int .i64 s2, .int .i64 ((n : Int) + 1), .int .i64 d', .slice ma may.length mc] 223)).alloc (.cells #[.int .i64 id, .slice sa st.length sc, .int .i64 s1, .int .i64 s2, .int .i64 ((n : Int) + 1), .int .i64 d', .slice ma may.length mc] 223)) := fun d' tmps hp h4 => by
    rw [hp]
    refine results_cell_row Tryz.results131 tmps _ (w.heap.size + 1) 223 #[.int .i64 id, .slice sa st.length sc, .int .i64 s1, .int .i64 s2, .int .i64 ((n : Int) + 1), .int .i64 d', .slice ma may.length mc] (0, 0) _ h4 ?_ Tryz.underlying223 rfl (by kernel_rfl)
    have := heap_alloc_at (w.alloc (.cells #[.int .i64 id, .slice sa st.length sc, .int .i64 s1, .int .i64 s2, .int .i64 ((n : Int) + 1), .int .i64 d', .slice ma may.length mc] 223)) (.cells #[.int .i64 id, .slice sa st.length sc, .int .i64 s1, .int .i64 s2, .int .i64 ((n : Int) + 1), .int .i64 d', .slice ma may.length mc] 223)
    simpa using this
  have FF : ∀ d' : Int, Fr (fun _ => False) w ((w.alloc (.cells #[.int .i64 id, .slice sa st.length sc, .int .i64 s1, .int .i64 s2, .int .i64 ((n : Int) + 1), .int .i64 d', .slice ma may.length mc] 223)).alloc (.cells #[.int .i64 id, .slice sa st.length sc, .int .i64 s1, .int .i64 s2, .int .i64 ((n : Int) + 1), .int .i64 d', .slice ma may.length mc] 223)) := fun d' => ((Fr.refl _ _).alloc _).alloc _
  unfold RS.cs
  go_enter Tryz.func131, Tryz.ntmps131
  go_wp2
  go_loopw [7, 8] (fun x i wr => ∃ k : Nat, k ≤ n ∧ x = .int .i64 (waitR pause k) ∧ i = .int .i64 ((k : Int) + 1) ∧ wr = ((w.alloc (.cells #[.int .i64 id, .slice sa st.length sc, .int .i64 s1, .int .i64 s2, .int .i64 ((n : Int) + 1), .int .i64 due, .slice ma may.length mc] 223)).alloc (.cells #[.int .i64 0, .slice none 0 0, .int .i64 0, .int .i64 0, .int .i64 0, .int .i64 0, .slice none 0 0] 223))) (fun _ i _ => n + 1 - (intOf i).toNat)
  case atStart => exact ⟨0, Nat.zero_le _, rfl, rfl, rfl⟩
  case round =>
    obtain ⟨k, hk, rfl, rfl, rfl⟩ := hrel
    have hw1 := waitR_pos pause k
    have hw2 := waitR_le pause hp0 k
    obtain ⟨x, hx⟩ : ∃ x, x = waitR pause k := ⟨_, rfl⟩
    rw [← hx] at hw1 hw2
    rw [← hx]
    have HX : Hid (x = waitR pause k) := hx
    clear hx
    by_cases hlt : k < n
    · have hlt' : (k : Int) < n := by omega
      by_cases hwp : x < pause
      · have e2 : wrap64 (2 * x) = 2 * x := wrap64_id (by omega)
        have e3 : wrap64 ((k : Int) + 1 + 1) = ((k + 1 : Nat) : Int) + 1 := by rw [wrap64_id (by omega)]; push_cast; rfl
        have HX2 : Hid (2 * x = waitR pause (k + 1)) := by show 2 * x = waitR pause (k + 1); rw [waitR, ← HX.out, if_pos hwp]
        go_wp2
        go_roundw
        case rel => exact ⟨k + 1, by omega, by rw [← HX2.out], by push_cast; rfl, trivial⟩
        case measure => simp [intOf]; omega
      · have HN : Hid (x = waitR pause n) := (by show x = waitR pause n; have h9 := waitR_stop pause k (by rw [← HX.out]; omega) (n - k); rw [show k + (n - k) = n by omega] at h9; rw [h9]; exact HX.out)
        have f1 : wrap64 (clock + x) = clock + x := wrap64_id (by omega)
        have f2 : wrap64 (clock + pause) = clock + pause := wrap64_id (by omega)
        by_cases hgt : pause < x
        · go_wp2
          exact bodyPost_ret (FIN _ _ (by rw [HD.out, ← HN.out, if_pos hgt]) rfl) rfl ⟨rfl, (FF _)⟩
        · go_wp2
          exact bodyPost_ret (FIN _ _ (by rw [HD.out, ← HN.out, if_neg (by omega)]) rfl) rfl ⟨rfl, (FF _)⟩
    · have hkn : k = n := by omega
      have HN : Hid (x = waitR pause n) := by rw [← hkn]; exact HX
      subst hkn
      have f1 : wrap64 (clock + x) = clock + x := wrap64_id (by omega)
      have f2 : wrap64 (clock + pause) = clock + pause := wrap64_id (by omega)
      by_cases hgt : pause < x
      · go_wp2
        exact bodyPost_ret (FIN _ _ (by rw [HD.out, ← HN.out, if_pos hgt]) rfl) rfl ⟨rfl, (FF _)⟩
      · go_wp2
        exact bodyPost_ret (FIN _ _ (by rw [HD.out, ← HN.out, if_neg (by omega)]) rfl) rfl ⟨rfl, (FF _)⟩
end Go.Proofs.YteebjgfalllbjaaGreatDoor
namespace Go.Proofs.YteebjgfalllbjaaGreatDoor
open Go.RowKit
/-- A call of the partner. -/
structure CL where
  saga : Int
  step : Int
  back : Bool
  data : ByteArray
def CL.cs (c : CL) : List Value := [.int .i64 c.saga, .int .i64 c.step, .bool c.back, .string c.data]
set_option maxRecDepth 100000 in
set_option maxHeartbeats 1000000 in
theorem asked_ok (w : World) (a c : CL) : Calls Tryz.prog 133 #[.agg a.cs.toArray, .agg c.cs.toArray] w fun e w' => e = .returned (.bool (decide (a.saga = c.saga ∧ a.step = c.step ∧ a.back = c.back ∧ a.data = c.data))) ∧ Fr (fun _ => False) w w' := by
  obtain ⟨a1, a2, a3, a4⟩ := a
  obtain ⟨c1, c2, c3, c4⟩ := c
  unfold CL.cs
  go_enter Tryz.func133, Tryz.ntmps133
  go_wp2
  all_goals
    go_ret
    refine ⟨?_, ((Fr.refl _ _).alloc _).alloc _⟩
  · by_cases h : a4 = c4
    · rw [str_eq h]; simp [*]
    · rw [str_ne h]; simp [*]
  · simp [*]
  · simp [*]
  · simp [*]
end Go.Proofs.YteebjgfalllbjaaGreatDoor
namespace Go.Proofs.YteebjgfalllbjaaGreatDoor
open Go.RowKit
set_option maxRecDepth 100000 in
set_option maxHeartbeats 1000000 in
theorem Asks_ok {w : World} {r : RS} {k : Nat} {p : SS} (hst : RowsOf w r.sa 2 (r.st.map stv)) (hk : r.S.2 = (k : Int) + 1) (hp : r.st[k]? = some p) (hl : r.st.length ≤ 100) : Calls Tryz.prog 132 #[.agg r.cs.toArray] w fun e w' => e = .returned (.agg (CL.cs ⟨r.id, r.S.2, decide (r.S.1 = 2), if r.S.1 = 2 then p.2 else p.1⟩).toArray) ∧ Fr (fun _ => False) w w' := by
  obtain ⟨id, sa, sc, st, ⟨s1, s2⟩, tries, due, ma, mc, may⟩ := r
  obtain ⟨p1, p2⟩ := p
  have hk' : s2 = (k : Int) + 1 := hk
  have hkl := (List.getElem?_eq_some_iff.1 hp).1
  have hkl' : k < st.length := hkl
  have hl' : st.length ≤ 100 := hl
  obtain ⟨g, off, hsa, hr⟩ := hst k (stv (p1, p2)) (by rw [List.getElem?_map, hp]; rfl)
  have hsa' : sa = some ⟨g, off, none⟩ := hsa
  subst hsa' hk'
  have c0 : w.cell? ⟨g, off + k * 2, none⟩ = some (.string p1) := hr 0 _ rfl
  have c1 : w.cell? ⟨g, off + k * 2 + 1, none⟩ = some (.string p2) := hr 1 _ rfl
  have hgl : g < w.heap.size := World.block_lt_of_cell? w ⟨g, off + k * 2, none⟩ c0
  have d0 : ∀ A B C : Obj, (((w.alloc A).alloc B).alloc C).cell? ⟨g, off + k * 2, none⟩ = some (.string p1) := fun A B C => by
    rw [World.cell?_of_block (w := w)]; exact c0
    show (((w.alloc A).alloc B).alloc C).heap[g]? = w.heap[g]?
    rw [heap_alloc_lt _ _ _ (by simp; omega), heap_alloc_lt _ _ _ (by simp; omega), heap_alloc_lt _ _ _ hgl]
  have d1 : ∀ A B C : Obj, (((w.alloc A).alloc B).alloc C).cell? ⟨g, off + k * 2 + 1, none⟩ = some (.string p2) := fun A B C => by
    rw [World.cell?_of_block (w := w)]; exact c1
    show (((w.alloc A).alloc B).alloc C).heap[g]? = w.heap[g]?
    rw [heap_alloc_lt _ _ _ (by simp; omega), heap_alloc_lt _ _ _ (by simp; omega), heap_alloc_lt _ _ _ hgl]
  clear c0 c1
  have ek : wrap64 ((k : Int) + 1 - 1) = k := by rw [wrap64_id (by omega)]; omega
  clear hst hr hsa hp hk hl hkl
  have FIN : ∀ (A C : Obj) (cs : Array Value) (tmps : Array Value), tmps.getD 2 undef = .pointer (some ⟨w.heap.size + 1, 0, none⟩) → cs.size = 4 → (results Tryz.f132 tmps).run Tryz.prog (((w.alloc A).alloc (.cells cs 233)).alloc C) = .ok (.agg cs) (((w.alloc A).alloc (.cells cs 233)).alloc C) := fun A C cs tmps h4 h5 => by
    refine results_cell_row Tryz.results132 tmps _ (w.heap.size + 1) 233 cs (0, 0) _ h4 ?_ Tryz.underlying233 rfl (by rw [h5]; kernel_rfl)
    rw [heap_alloc_lt _ _ _ (by simp)]
    have := heap_alloc_at (w.alloc A) (.cells cs 233)
    simpa using this
  have FF : ∀ A B C : Obj, Fr (fun _ => False) w (((w.alloc A).alloc B).alloc C) := fun A B C => (((Fr.refl _ _).alloc _).alloc _).alloc _
  unfold RS.cs
  by_cases h2 : s1 = 2
  · rw [if_pos h2, decide_eq_true h2]
    subst h2
    unfold CL.cs
    go_enter Tryz.func132, Tryz.ntmps132
    go_wp2
    exact bodyPost_ret (FIN _ _ _ _ rfl rfl) rfl ⟨rfl, FF _ _ _⟩
  · rw [if_neg h2, decide_eq_false h2]
    unfold CL.cs
    go_enter Tryz.func132, Tryz.ntmps132
    go_wp2
    refine bodyPost_ret (FIN _ _ _ _ rfl rfl) rfl ⟨?_, FF _ _ _⟩
    simp
end Go.Proofs.YteebjgfalllbjaaGreatDoor
