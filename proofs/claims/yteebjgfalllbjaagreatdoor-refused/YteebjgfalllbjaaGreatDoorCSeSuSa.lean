import Derived.Test.YteebjgfalllbjaaGreatDoorCFeAdAe
import Derived.Laws.StructEq
namespace Go.Proofs.YteebjgfalllbjaaGreatDoor
open Go.RowKit
theorem eq_step (d : Nat) (a b : SS) (w : World) : (Op.equalIn (d + 3) 58 (.agg #[.string a.1, .string a.2]) (.agg #[.string b.1, .string b.2])).run Tryz.prog w = .ok (decide (a = b)) w := by
  obtain ⟨a1, a2⟩ := a
  obtain ⟨b1, b2⟩ := b
  rw [run_equalIn_agg]
  · by_cases h1 : a1 = b1
    · subst h1
      by_cases h2 : a2 = b2
      · subst h2
        go_simp
      · have h2' : ¬ a2.toList = b2.toList := by simpa using str_ne h2
        have e : decide ((a1, a2) = (a1, b2)) = false := by simp [h2]
        rw [e]
        go_simp
    · have h1' : ¬ a1.toList = b1.toList := by simpa using str_ne h1
      have e : decide ((a1, a2) = (b1, b2)) = false := by simp [h1]
      rw [e]
      go_simp
  · kernel_rfl
  · kernel_rfl
theorem pt0 (p0 p1 p2 p3 p4 p5 : SS) (w : World) : (part 58 (scells [p0, p1, p2, p3, p4, p5]).toArray 0).run Tryz.prog w = .ok (.agg #[.string p0.1, .string p0.2]) w := by kernel_rfl
theorem pt1 (p0 p1 p2 p3 p4 p5 : SS) (w : World) : (part 58 (scells [p0, p1, p2, p3, p4, p5]).toArray 2).run Tryz.prog w = .ok (.agg #[.string p1.1, .string p1.2]) w := by kernel_rfl
theorem pt2 (p0 p1 p2 p3 p4 p5 : SS) (w : World) : (part 58 (scells [p0, p1, p2, p3, p4, p5]).toArray 4).run Tryz.prog w = .ok (.agg #[.string p2.1, .string p2.2]) w := by kernel_rfl
theorem pt3 (p0 p1 p2 p3 p4 p5 : SS) (w : World) : (part 58 (scells [p0, p1, p2, p3, p4, p5]).toArray 6).run Tryz.prog w = .ok (.agg #[.string p3.1, .string p3.2]) w := by kernel_rfl
theorem pt4 (p0 p1 p2 p3 p4 p5 : SS) (w : World) : (part 58 (scells [p0, p1, p2, p3, p4, p5]).toArray 8).run Tryz.prog w = .ok (.agg #[.string p4.1, .string p4.2]) w := by kernel_rfl
theorem pt5 (p0 p1 p2 p3 p4 p5 : SS) (w : World) : (part 58 (scells [p0, p1, p2, p3, p4, p5]).toArray 10).run Tryz.prog w = .ok (.agg #[.string p5.1, .string p5.2]) w := by kernel_rfl
theorem eq_six (d : Nat) (p0 p1 p2 p3 p4 p5 q0 q1 q2 q3 q4 q5 : SS) (w : World) : (Op.equalIn (d + 4) 120 (.agg (scells [p0, p1, p2, p3, p4, p5]).toArray) (.agg (scells [q0, q1, q2, q3, q4, q5]).toArray)).run Tryz.prog w = .ok (decide ([p0, p1, p2, p3, p4, p5] = [q0, q1, q2, q3, q4, q5])) w := by
  have hsz : (sizeOf 58).run Tryz.prog w = .ok 2 w := by kernel_rfl
  have hr : List.range' 0 6 = [0, 1, 2, 3, 4, 5] := rfl
  unfold Op.equalIn
  simp only [Sem.run_bind, run_underlying Tryz.underlying120, Result.andThen_ok, hsz, Std.Legacy.Range.forIn_eq_forIn_range', Std.Legacy.Range.size, Nat.sub_zero, Nat.add_sub_cancel, Nat.div_one, hr, List.forIn_cons, List.forIn_nil, Nat.reduceMul, pt0, eq_step]
  by_cases h0 : p0 = q0
  · subst h0
    by_cases h1 : p1 = q1
    · subst h1
      by_cases h2 : p2 = q2
      · subst h2
        by_cases h3 : p3 = q3
        · subst h3
          by_cases h4 : p4 = q4
          · subst h4
            by_cases h5 : p5 = q5
            · subst h5
              simp [pt1, pt2, pt3, pt4, pt5, eq_step]
            · simp [pt1, pt2, pt3, pt4, pt5, eq_step, h5]
          · simp [pt1, pt2, pt3, pt4, eq_step, h4]
        · simp [pt1, pt2, pt3, eq_step, h3]
      · simp [pt1, pt2, eq_step, h2]
    · simp [pt1, eq_step, h1]
  · simp [h0]
set_option maxRecDepth 100000 in
set_option maxHeartbeats 1000000 in
theorem neq_saga (id : Int) (n m : Nat) (p0 p1 p2 p3 p4 p5 q0 q1 q2 q3 q4 q5 : SS) (w : World) : (binOp .neq 122 (.agg (sagaC id n [p0, p1, p2, p3, p4, p5]).toArray) (.agg (sagaC id m [q0, q1, q2, q3, q4, q5]).toArray)).run Tryz.prog w = .ok (.bool (!decide (n = m ∧ [p0, p1, p2, p3, p4, p5] = [q0, q1, q2, q3, q4, q5]))) w := by
  have h6 : (Op.equalIn 9999 120 (.agg (List.take 12 (stv p0 ++ (stv p1 ++ (stv p2 ++ (stv p3 ++ (stv p4 ++ stv p5)))))).toArray) (.agg (List.take 12 (stv q0 ++ (stv q1 ++ (stv q2 ++ (stv q3 ++ (stv q4 ++ stv q5)))))).toArray)).run Tryz.prog w = .ok (decide ([p0, p1, p2, p3, p4, p5] = [q0, q1, q2, q3, q4, q5])) w := eq_six 9995 p0 p1 p2 p3 p4 p5 q0 q1 q2 q3 q4 q5 w
  obtain ⟨t, ht⟩ : ∃ t, t = decide ([p0, p1, p2, p3, p4, p5] = [q0, q1, q2, q3, q4, q5]) := ⟨_, rfl⟩
  have he : decide (n = m ∧ [p0, p1, p2, p3, p4, p5] = [q0, q1, q2, q3, q4, q5]) = (decide (n = m) && t) := by rw [ht]; exact Bool.decide_and _ _
  rw [← ht] at h6
  rw [he, run_neq_struct, run_equalIn_agg]
  · clear he ht
    by_cases hnm : n = m
    · subst hnm
      simp only [sagaC, scells]
      go_simp
      cases t <;> simp
    · have hnm' : ¬ (n : Int) = m := by omega
      simp only [sagaC, scells]
      go_simp
  · kernel_rfl
  · kernel_rfl
/-- Two sagas of one id are held against each other. -/
theorem neq_sagas (id : Int) (a b : List SS) (ha : a.length ≤ 6) (hb : b.length ≤ 6) (w : World) : (binOp .neq 122 (.agg (sagaC id a.length (six a)).toArray) (.agg (sagaC id b.length (six b)).toArray)).run Tryz.prog w = .ok (.bool (decide (¬ a = b))) w := by
  have key : (a.length = b.length ∧ six a = six b) ↔ a = b := by
    constructor
    · rintro ⟨h1, h2⟩
      unfold six at h2
      exact (List.append_inj h2 h1).1
    · rintro rfl; exact ⟨rfl, rfl⟩
  have hd : decide (¬ a = b) = !decide (a.length = b.length ∧ six a = six b) := by
    by_cases h : a = b
    · simp [h]
    · rw [decide_eq_true h, decide_eq_false (mt key.1 h)]; rfl
  rw [hd]
  have la := six_len a ha
  have lb := six_len b hb
  match six a, la, six b, lb with
  | [p0, p1, p2, p3, p4, p5], _, [q0, q1, q2, q3, q4, q5], _ => exact neq_saga id a.length b.length p0 p1 p2 p3 p4 p5 q0 q1 q2 q3 q4 q5 w
end Go.Proofs.YteebjgfalllbjaaGreatDoor
namespace Go.Proofs.YteebjgfalllbjaaGreatDoor
open Go.RowKit
theorem checked_nil (X : Addr) (w : World) : Calls Tryz.prog 60 #[.pointer (some X), .nilIface] w fun e w' => e = .returned .nilIface ∧ w' = w := by
  go_enter Tryz.func60, Tryz.ntmps60
  go_wp2
  go_ret
  exact ⟨rfl, rfl⟩
theorem exec_neq_saga {ρ : Operand → Value} {o : Oper} {w : World} {x y : Operand} {xs ys : Array Value} (ho : o.op = .binOp .neq 122 x y 122) (hx : ρ x = .agg xs) (hy : ρ y = .agg ys) {b : Bool} (hr : (binOp .neq 122 (.agg xs) (.agg ys)).run Tryz.prog w = .ok (.bool b) w) : (execOp ρ o).run Tryz.prog w = .ok (.value (.bool b)) w := by
  have hg := run_eqGuard_agg (P := Tryz.prog) w .neq 122 x y xs ys (by kernel_rfl)
  simp only [execOp, ho, hx, hy, Sem.run_bind, hg, hr, Result.andThen_ok, Sem.run_pure]
def errE (k : Int) : Value := .iface 59 (.int .i64 k)
theorem saga_of (id : Int) (st : List SS) (hok : sagaOk id st = true) : 1 ≤ id ∧ id ≤ 1000 ∧ 1 ≤ st.length ∧ st.length ≤ 6 ∧ ∀ p ∈ st, p.1.size ≤ 8 ∧ p.2.size ≤ 8 := of_decide_eq_true hok
section
variable {w : World} {X J V A B n R base e g sc : Nat} {ao : Option Addr} {calls writes clock pause room : Int} {cv ev : Value} {es : List (Nat × AS)} {s : Bool} {bs : List Value}
set_option maxRecDepth 100000 in
set_option maxHeartbeats 4000000 in
theorem submit_bad (he : EngAt w X J R clock pause cv) (id : Int) (st : List SS) (hl : RowsOf w ao 2 (st.map stv)) (hbad : sagaOk id st = false) :
    Calls Tryz.prog 42 #[.pointer (some ⟨X, 0, none⟩), .int .i64 id, .slice ao st.length sc] w fun e' w' => e' = .returned (errE 1) ∧ Fr (fun _ => False) w w' := by
  have c2 : w.cell? ⟨X, 2, none⟩ = some (.bool false) := he.c rfl
  go_enter Tryz.func42, Tryz.ntmps42
  go_wp2_with fail
  refine (NewSaga_ok hl id).mono ?_
  rintro e' w2 ⟨hns, hf2⟩
  rcases hns with ⟨hok, _⟩ | ⟨_, rfl⟩
  · rw [hok] at hbad; cases hbad
  · obtain ⟨WS, hst, hrS, hfS⟩ := saga_box w2 0 [] (by simp)
    have hFS : Fr (fun _ => False) w WS := hf2.trans hfS (fun _ _ h => h)
    unfold errSaga
    clear hf2 hfS hrS c2 he hl
    go_wp2_with (first | (refine wpList_store 122 (w' := WS) _ _ rfl rfl ?_ ?_; exact hst))
    go_ret
    exact ⟨rfl, hFS⟩
set_option maxRecDepth 100000 in
set_option maxHeartbeats 4000000 in
theorem submit_old (he : EngAt w X J R clock pause cv) (id : Int) (st : List SS) (hl : RowsOf w (some ⟨g, 0, none⟩) 2 (st.map stv)) (hr : RollAt w R base room ev es) (hs : Sorted es) (hn : es.length ≤ 100000) (hes6 : ∀ p ∈ es, p.2.st.length ≤ 6) (hok : sagaOk id st = true) (hin : ∃ p ∈ es, p.2.id = id) :
    Calls Tryz.prog 42 #[.pointer (some ⟨X, 0, none⟩), .int .i64 id, .slice (some ⟨g, 0, none⟩) st.length sc] w fun e' w' => ∃ p ∈ es, p.2.id = id ∧ e' = .returned (if p.2.st = st then .nilIface else errE 2) ∧ Fr (fun _ => False) w w' := by
  have c2 : w.cell? ⟨X, 2, none⟩ = some (.bool false) := he.c rfl
  obtain ⟨hid1, hid2, hn1, h6, h8⟩ := saga_of id st hok
  go_enter Tryz.func42, Tryz.ntmps42
  go_wp2_with fail
  refine (NewSaga_ok hl id).mono ?_
  rintro e' w2 ⟨hns, hf2⟩
  rcases hns with ⟨_, rfl⟩ | ⟨hbad, _⟩
  case inr => rw [hok] at hbad; cases hbad
  obtain ⟨WS, hst, hrS, hfS⟩ := saga_box w2 id st h6
  have hFS : Fr (fun _ => False) w WS := hf2.trans hfS (fun _ _ h => h)
  have hrl := hr.frz hFS
  have heS : EngAt WS X J R clock pause cv := hFS.keep he (fun h => h)
  have c1S : WS.cell? ⟨X, 1, none⟩ = some (.pointer (some ⟨R, 0, none⟩)) := heS.c rfl
  clear hf2 hfS c2
  go_wp2_with (first | (refine wpList_store 122 (w' := WS) _ _ rfl rfl ?_ ?_; exact hst))
  refine (rollSaga_ok hrl hs hn hes6 id).mono ?_
  rintro e' w3 ⟨hsv, hf3⟩
  have hF3 : Fr (fun _ => False) w w3 := hFS.trans hf3 (fun _ _ h => h)
  have hr3 := hrl.frz hf3
  have he3 : EngAt w3 X J R clock pause cv := hf3.keep heS (fun h => h)
  have hs3 := hf3.keep hrS (fun h => h)
  clear hst hrS hrl heS c1S hf3 hFS
  rcases hsv with ⟨p, hp, hid, rfl⟩ | ⟨hno, _⟩
  case inr => obtain ⟨p, hp, hid⟩ := hin; exact absurd hid (hno p hp)
  rw [hid]
  obtain ⟨W4, hst4, hr4, hf4⟩ := saga_box w3 id p.2.st (hes6 p hp)
  have hF4 : Fr (fun _ => False) w W4 := hF3.trans hf4 (fun _ _ h => h)
  have hs4 := hf4.keep hs3 (fun h => h)
  have hM1 : W4.rangeAt w3.heap.size 0 (sagaC id p.2.st.length (six p.2.st)) := fun j v hv => (cell_of_row W4 _ (0 + j) _ _ _ hr4).trans (by simpa using hv)
  have hM2 : W4.rangeAt w2.heap.size 0 (sagaC id st.length (six st)) := fun j v hv => (cell_of_row W4 _ (0 + j) _ _ _ hs4).trans (by simpa using hv)
  have l1 := sagaC_len id p.2.st.length _ (six_len _ (hes6 p hp))
  have l2 := sagaC_len id st.length _ (six_len _ h6)
  have hq := neq_sagas id p.2.st st (hes6 p hp) h6 W4
  have HP : Hid (p ∈ es ∧ p.2.id = id) := ⟨hp, hid⟩
  clear hr3 he3 hs3 hf4 hF3 hr4 hs4 hp hid
  by_cases heq : p.2.st = st
  · rw [decide_eq_false (fun h => h heq)] at hq
    have HE : Hid (p.2.st = st) := heq
    clear heq
    go_wp2_with (first | (refine wpList_store 122 (w' := W4) _ _ rfl rfl ?_ ?_; exact hst4) | (refine wpList_load_mid rfl 122 (.tmp 9) rfl w3.heap.size 0 ?_ _ _ hM1 Tryz.underlying122 rfl ?_ ?_; rfl; (rw [rsaga_size, l1])) | (refine wpList_load_mid rfl 122 (.tmp 7) rfl w2.heap.size 0 ?_ _ _ hM2 Tryz.underlying122 rfl ?_ ?_; rfl; (rw [rsaga_size, l2])) | (refine wpList_value rfl (v := .bool false) (w' := W4) (exec_neq_saga rfl rfl rfl hq) ?_))
    go_ret
    exact ⟨p, HP.out.1, HP.out.2, by rw [if_pos HE.out]; rfl, hF4⟩
  · rw [decide_eq_true heq] at hq
    have HE : Hid (¬ p.2.st = st) := heq
    clear heq
    go_wp2_with (first | (refine wpList_store 122 (w' := W4) _ _ rfl rfl ?_ ?_; exact hst4) | (refine wpList_load_mid rfl 122 (.tmp 9) rfl w3.heap.size 0 ?_ _ _ hM1 Tryz.underlying122 rfl ?_ ?_; rfl; (rw [rsaga_size, l1])) | (refine wpList_load_mid rfl 122 (.tmp 7) rfl w2.heap.size 0 ?_ _ _ hM2 Tryz.underlying122 rfl ?_ ?_; rfl; (rw [rsaga_size, l2])) | (refine wpList_value rfl (v := .bool true) (w' := W4) (exec_neq_saga rfl rfl rfl hq) ?_))
    go_ret
    exact ⟨p, HP.out.1, HP.out.2, by rw [if_neg HE.out]; rfl, hF4⟩
set_option maxRecDepth 100000 in
set_option maxHeartbeats 4000000 in
theorem submit_full (he : EngAt w X J R clock pause cv) (id : Int) (st : List SS) (hl : RowsOf w (some ⟨g, 0, none⟩) 2 (st.map stv)) (hr : RollAt w R base room ev es) (hs : Sorted es) (hn : es.length ≤ 100000) (hes6 : ∀ p ∈ es, p.2.st.length ≤ 6) (hok : sagaOk id st = true) (hno : ∀ p ∈ es, p.2.id ≠ id) (hroom : ¬ 2 * (st.length : Int) ≤ room) :
    Calls Tryz.prog 42 #[.pointer (some ⟨X, 0, none⟩), .int .i64 id, .slice (some ⟨g, 0, none⟩) st.length sc] w fun e' w' => e' = .returned (errE 3) ∧ Fr (fun _ => False) w w' := by
  have hlift : Tryz.prog.follows .mixedOrders = true := by kernel_rfl
  have c2 : w.cell? ⟨X, 2, none⟩ = some (.bool false) := he.c rfl
  obtain ⟨hid1, hid2, hn1, h6, h8⟩ := saga_of id st hok
  go_enter Tryz.func42, Tryz.ntmps42
  go_wp2_with fail
  refine (NewSaga_ok hl id).mono ?_
  rintro e' w2 ⟨hns, hf2⟩
  rcases hns with ⟨_, rfl⟩ | ⟨hbad, _⟩
  case inr => rw [hok] at hbad; cases hbad
  obtain ⟨WS, hst, hrS, hfS⟩ := saga_box w2 id st h6
  have hFS : Fr (fun _ => False) w WS := hf2.trans hfS (fun _ _ h => h)
  have hrl := hr.frz hFS
  have heS : EngAt WS X J R clock pause cv := hFS.keep he (fun h => h)
  have c1S : WS.cell? ⟨X, 1, none⟩ = some (.pointer (some ⟨R, 0, none⟩)) := heS.c rfl
  clear hf2 hfS c2
  go_wp2_with (first | (refine wpList_store 122 (w' := WS) _ _ rfl rfl ?_ ?_; exact hst))
  refine (rollSaga_ok hrl hs hn hes6 id).mono ?_
  rintro e' w3 ⟨hsv, hf3⟩
  have hF3 : Fr (fun _ => False) w w3 := hFS.trans hf3 (fun _ _ h => h)
  have hr3 := hrl.frz hf3
  have he3 : EngAt w3 X J R clock pause cv := hf3.keep heS (fun h => h)
  have hs3 := hf3.keep hrS (fun h => h)
  clear hst hrS hrl heS c1S hf3 hFS
  rcases hsv with ⟨p, hp, hid, _⟩ | ⟨_, rfl⟩
  case inl => exact absurd hid (hno p hp)
  obtain ⟨W4, hst4, hr4, hf4⟩ := saga_box w3 0 [] (by simp)
  have hF4 : Fr (fun _ => False) w W4 := hF3.trans hf4 (fun _ _ h => h)
  have hs4 := hf4.keep hs3 (fun h => h)
  have hr5 := hr3.frz hf4
  have he5 : EngAt W4 X J R clock pause cv := hf4.keep he3 (fun h => h)
  have c15 : W4.cell? ⟨X, 1, none⟩ = some (.pointer (some ⟨R, 0, none⟩)) := he5.c rfl
  have hL4 := load14 hs4 h6
  have l2 := sagaC_len id st.length _ (six_len _ h6)
  have hM2 : W4.rangeAt w2.heap.size 0 (sagaC id st.length (six st)) := fun j v hv => (cell_of_row W4 _ (0 + j) _ _ _ hs4).trans (by simpa using hv)
  clear hr3 he3 hs3 hf4 hF3 hr4
  go_wp2_with (first | (refine wpList_store 122 (w' := W4) _ _ rfl rfl ?_ ?_; exact hst4) | (refine wpList_load_mid rfl 122 (.tmp 7) rfl w2.heap.size 0 ?_ _ _ hM2 Tryz.underlying122 rfl ?_ ?_; rfl; (rw [rsaga_size, l2])))
  obtain ⟨U, HU⟩ : ∃ U, Hid (U = W4.drew) := ⟨_, rfl⟩
  have hfU : Fr (fun _ => False) W4 U := by rw [HU.out]; exact (Fr.refl _ _).drew
  let S : World → Prop := fun w' => w'.cell? ⟨X, 1, none⟩ = some (.pointer (some ⟨R, 0, none⟩)) ∧ w'.heap[w2.heap.size]? = some (.cells (sagaC id st.length (six st)).toArray 122 (0, 0))
  have hS : S U := ⟨hfU.cell c15 (fun h => h), hfU.keep hs4 (fun h => h)⟩
  refine wp_region_held (S := S) hlift ?_
  change wpAnyH _ _ _ _ S _ _ _ (World.drew _)
  rw [← HU.out]
  clear HU
  refine wpAnyH_take (S := S) (i := 0) (oi := ⟨some 40, .move (.tmp 0), _, _, _, none⟩) (v := .pointer (some ⟨X, 0, none⟩)) rfl (by kernel_rfl) (by kernel_rfl) (by kernel_rfl) (fun _ _ _ h => h) (Or.inl ⟨rfl, fun _ _ => rfl⟩) hS ?_
  simp only [Act.put, List.setIfInBounds_toArray, List.set_cons_zero, List.set_cons_succ]
  refine wpAnyH_take (S := S) (i := 1) (oi := ⟨some 41, .nilCheck (.tmp 40), _, _, _, none⟩) (v := .pointer (some ⟨X, 0, none⟩)) rfl (by kernel_rfl) (by kernel_rfl) (by kernel_rfl) (fun _ _ _ h => h) (Or.inl ⟨rfl, fun _ _ => by kernel_rfl⟩) hS ?_
  simp only [Act.put, List.setIfInBounds_toArray, List.set_cons_zero, List.set_cons_succ]
  refine wpAnyH_take (S := S) (i := 2) (oi := ⟨some 42, .fieldAddr 91 (.tmp 41) 1, _, _, _, none⟩) (v := .pointer (some ⟨X, 1, none⟩)) rfl (by kernel_rfl) (by kernel_rfl) (by kernel_rfl) (fun _ _ _ h => h) (Or.inl ⟨rfl, fun _ _ => by kernel_rfl⟩) hS ?_
  simp only [Act.put, List.setIfInBounds_toArray, List.set_cons_zero, List.set_cons_succ]
  refine wpAnyH_take (S := S) (i := 3) (oi := ⟨some 43, .load 88 (.tmp 42), _, _, _, none⟩) (v := .pointer (some ⟨R, 0, none⟩)) rfl (by kernel_rfl) (by kernel_rfl) (by kernel_rfl) (fun _ _ _ h => h) (Or.inl ⟨rfl, fun w' hs => exec_load 88 (.tmp 42) rfl ⟨X, 1, none⟩ rfl (run_loadAt_one hs.1 Tryz.underlying88 rfl)⟩) hS ?_
  simp only [Act.put, List.setIfInBounds_toArray, List.set_cons_zero, List.set_cons_succ]
  refine wpAnyH_take (S := S) (i := 4) (oi := ⟨some 44, .load 122 (.tmp 7), _, _, _, none⟩) (v := .agg (sagaC id st.length (six st)).toArray) rfl (by kernel_rfl) (by kernel_rfl) (by kernel_rfl) (fun _ _ _ h => h) (Or.inl ⟨rfl, fun w' hs => exec_load 122 (.tmp 7) rfl ⟨w2.heap.size, 0, none⟩ rfl (load14 hs.2 h6)⟩) hS ?_
  simp only [Act.put, List.setIfInBounds_toArray, List.set_cons_zero, List.set_cons_succ]
  refine wpAnyH_all (rs := [5]) (by kernel_rfl) (by simp) ?_
  intro i5 hi5
  obtain rfl : i5 = 5 := by simpa using hi5
  refine wpOp_call (o := ⟨some 45, .call { callee := .value (.func 59), args := #[(.tmp 43), (.tmp 44)], argTypes := _ }, _, _, _, none⟩) (f := 59) (args := #[.pointer (some ⟨R, 0, none⟩), .agg (sagaC id st.length (six st)).toArray]) rfl rfl (by kernel_rfl) ?_
  refine (Fits_ok (hr5.frz hfU) id st h6).mono ?_
  rintro e' w5 ⟨rfl, hf5⟩
  have hS5 : S w5 := ⟨hf5.cell hS.1 (fun h => h), hf5.keep hS.2 (fun h => h)⟩
  refine ⟨_, rfl, hS5, ?_⟩
  simp only [Act.put, List.setIfInBounds_toArray, List.set_cons_zero, List.set_cons_succ]
  refine wpAnyH_take (S := S) (i := 6) (oi := ⟨some 46, .unOp .not 4 (.tmp 45), _, _, _, none⟩) (v := .bool (!decide (2 * (st.length : Int) ≤ room))) rfl (by kernel_rfl) (by kernel_rfl) (by kernel_rfl) (fun _ _ _ h => h) (Or.inl ⟨rfl, fun _ _ => by kernel_rfl⟩) hS5 ?_
  simp only [Act.put, List.setIfInBounds_toArray, List.set_cons_zero, List.set_cons_succ]
  refine wpAnyH_done (by kernel_rfl) ?_ _
  have hF5 : Fr (fun _ => False) w w5 := (hF4.trans hfU (fun _ _ h => h)).trans hf5 (fun _ _ h => h)
  have hr6 := (hr5.frz hfU).frz hf5
  have he6 : EngAt w5 X J R clock pause cv := hf5.keep (hfU.keep he5 (fun h => h)) (fun h => h)
  have hs6 := hS5.2
  clear hS hS5 hfU hf5 hF4 hr5 he5 hs4 c15 hM2
  rw [decide_eq_false (show ¬ 2 * (st.length : Int) ≤ room by omega)]
  go_wp2
  go_ret
  exact ⟨rfl, hF5⟩
set_option maxRecDepth 100000 in
set_option maxHeartbeats 4000000 in
theorem submit_new (he : EngAt w X J R clock pause cv) (id : Int) (st : List SS) (hl : RowsOf w (some ⟨g, 0, none⟩) 2 (st.map stv)) (k : Nat) (hk : (k : Int) = id) (hj : JnS w J V A B n calls writes e s bs) (h0 : 0 ≤ calls) (h1 : calls < 90000000) (h2 : 0 ≤ writes) (h3 : writes < 90000000) (hen : e < n) (hn4 : n ≤ 400) (hz : (bs.drop (e * 128)).take 128 = zB) (hdis : ∀ b, RollF R ev es b → b ≠ A ∧ b ≠ B ∧ b ≠ J ∧ b ≠ V ∧ b ≠ X) (hrm : room ≤ 1000) (hbase : base ≤ w.heap.size) (hRb0 : ev.ownBlock ≠ some R) (hRe : ∀ p ∈ es, p.1 ≠ R) (hse : ∀ p ∈ es, ev.ownBlock ≠ some p.1) (hr : RollAt w R base room ev es) (hs : Sorted es) (hn : es.length ≤ 100000) (hes6 : ∀ p ∈ es, p.2.st.length ≤ 6) (hok : sagaOk id st = true) (hno : ∀ p ∈ es, p.2.id ≠ id) (hroom : 2 * (st.length : Int) ≤ room) :
    Calls Tryz.prog 42 #[.pointer (some ⟨X, 0, none⟩), .int .i64 id, .slice (some ⟨g, 0, none⟩) st.length sc] w fun e' w' => e' = .returned .nilIface ∧ ∃ g' ev', RollAt w' R base (room - 2 * st.length) ev' (insE (g', newA id st) es) ∧ w.heap.size ≤ g' ∧ (∀ b, ev'.ownBlock = some b → ev.ownBlock = some b ∨ w.heap.size ≤ b) ∧ (∃ calls' writes', calls ≤ calls' ∧ calls' ≤ calls + 4 ∧ writes ≤ writes' ∧ writes' ≤ writes + 2 ∧ JnS w' J V A B n calls' writes' ((e : Int) + 1) true (splice bs (e * 128) (ldB 2 (bodyS k st.length (six st) 6) 4))) ∧ EngAt w' X J R clock pause cv ∧ Fr (fun b => b = A ∨ b = B ∨ b = J ∨ b = R ∨ ev.ownBlock = some b) w w' := by
  have hlift : Tryz.prog.follows .mixedOrders = true := by kernel_rfl
  have hJl := lt_of_heap hj.j
  have hAl := lt_of_heap hj.d
  have hBl := lt_of_heap hj.r.1
  have hRl := lt_of_heap hr.r
  have nXA : X ≠ A := fun e => by have := he; rw [e] at this; have := this.symm.trans hj.d; simp [dcells] at this
  have nXB : X ≠ B := fun e => by have := he; rw [e] at this; have := this.symm.trans hj.r.1; simp at this
  have nXJ : X ≠ J := fun e => by have := he; rw [e] at this; have := this.symm.trans hj.j; simp at this
  have c2 : w.cell? ⟨X, 2, none⟩ = some (.bool false) := he.c rfl
  obtain ⟨hid1, hid2, hn1, h6, h8⟩ := saga_of id st hok
  have hbl : (bodyS k st.length (six st) 6).length = 124 := bodyS_len k st.length (six st) (six_ok h8) 6 (by rw [six_len _ h6]; omega) (by omega)
  have hll : (ldB 2 (bodyS k st.length (six st) 6) 4).length = 128 := ldB_len 2 _ hbl 4 (by omega)
  go_enter Tryz.func42, Tryz.ntmps42
  go_wp2_with fail
  refine (NewSaga_ok hl id).mono ?_
  rintro e' w2 ⟨hns, hf2⟩
  rcases hns with ⟨_, rfl⟩ | ⟨hbad, _⟩
  case inr => rw [hok] at hbad; cases hbad
  obtain ⟨WS, hst, hrS, hfS⟩ := saga_box w2 id st h6
  have hFS : Fr (fun _ => False) w WS := hf2.trans hfS (fun _ _ h => h)
  have hrl := hr.frz hFS
  have heS : EngAt WS X J R clock pause cv := hFS.keep he (fun h => h)
  have c1S : WS.cell? ⟨X, 1, none⟩ = some (.pointer (some ⟨R, 0, none⟩)) := heS.c rfl
  have hFw2 := hf2
  clear hf2 hfS c2
  go_wp2_with (first | (refine wpList_store 122 (w' := WS) _ _ rfl rfl ?_ ?_; exact hst))
  refine (rollSaga_ok hrl hs hn hes6 id).mono ?_
  rintro e' w3 ⟨hsv, hf3⟩
  have hF3 : Fr (fun _ => False) w w3 := hFS.trans hf3 (fun _ _ h => h)
  have hr3 := hrl.frz hf3
  have he3 : EngAt w3 X J R clock pause cv := hf3.keep heS (fun h => h)
  have hs3 := hf3.keep hrS (fun h => h)
  clear hst hrS hrl heS c1S hf3 hFS
  rcases hsv with ⟨p, hp, hid, _⟩ | ⟨_, rfl⟩
  case inl => exact absurd hid (hno p hp)
  obtain ⟨W4, hst4, hr4, hf4⟩ := saga_box w3 0 [] (by simp)
  have hF4 : Fr (fun _ => False) w W4 := hF3.trans hf4 (fun _ _ h => h)
  have hs4 := hf4.keep hs3 (fun h => h)
  have hr5 := hr3.frz hf4
  have he5 : EngAt W4 X J R clock pause cv := hf4.keep he3 (fun h => h)
  have c15 : W4.cell? ⟨X, 1, none⟩ = some (.pointer (some ⟨R, 0, none⟩)) := he5.c rfl
  have hL4 := load14 hs4 h6
  have l2 := sagaC_len id st.length _ (six_len _ h6)
  have hM2 : W4.rangeAt w2.heap.size 0 (sagaC id st.length (six st)) := fun j v hv => (cell_of_row W4 _ (0 + j) _ _ _ hs4).trans (by simpa using hv)
  clear hr3 he3 hs3 hf4 hF3 hr4
  go_wp2_with (first | (refine wpList_store 122 (w' := W4) _ _ rfl rfl ?_ ?_; exact hst4) | (refine wpList_load_mid rfl 122 (.tmp 7) rfl w2.heap.size 0 ?_ _ _ hM2 Tryz.underlying122 rfl ?_ ?_; rfl; (rw [rsaga_size, l2])))
  obtain ⟨U, HU⟩ : ∃ U, Hid (U = W4.drew) := ⟨_, rfl⟩
  have hfU : Fr (fun _ => False) W4 U := by rw [HU.out]; exact (Fr.refl _ _).drew
  let S : World → Prop := fun w' => w'.cell? ⟨X, 1, none⟩ = some (.pointer (some ⟨R, 0, none⟩)) ∧ w'.heap[w2.heap.size]? = some (.cells (sagaC id st.length (six st)).toArray 122 (0, 0))
  have hS : S U := ⟨hfU.cell c15 (fun h => h), hfU.keep hs4 (fun h => h)⟩
  refine wp_region_held (S := S) hlift ?_
  change wpAnyH _ _ _ _ S _ _ _ (World.drew _)
  rw [← HU.out]
  clear HU
  refine wpAnyH_take (S := S) (i := 0) (oi := ⟨some 40, .move (.tmp 0), _, _, _, none⟩) (v := .pointer (some ⟨X, 0, none⟩)) rfl (by kernel_rfl) (by kernel_rfl) (by kernel_rfl) (fun _ _ _ h => h) (Or.inl ⟨rfl, fun _ _ => rfl⟩) hS ?_
  simp only [Act.put, List.setIfInBounds_toArray, List.set_cons_zero, List.set_cons_succ]
  refine wpAnyH_take (S := S) (i := 1) (oi := ⟨some 41, .nilCheck (.tmp 40), _, _, _, none⟩) (v := .pointer (some ⟨X, 0, none⟩)) rfl (by kernel_rfl) (by kernel_rfl) (by kernel_rfl) (fun _ _ _ h => h) (Or.inl ⟨rfl, fun _ _ => by kernel_rfl⟩) hS ?_
  simp only [Act.put, List.setIfInBounds_toArray, List.set_cons_zero, List.set_cons_succ]
  refine wpAnyH_take (S := S) (i := 2) (oi := ⟨some 42, .fieldAddr 91 (.tmp 41) 1, _, _, _, none⟩) (v := .pointer (some ⟨X, 1, none⟩)) rfl (by kernel_rfl) (by kernel_rfl) (by kernel_rfl) (fun _ _ _ h => h) (Or.inl ⟨rfl, fun _ _ => by kernel_rfl⟩) hS ?_
  simp only [Act.put, List.setIfInBounds_toArray, List.set_cons_zero, List.set_cons_succ]
  refine wpAnyH_take (S := S) (i := 3) (oi := ⟨some 43, .load 88 (.tmp 42), _, _, _, none⟩) (v := .pointer (some ⟨R, 0, none⟩)) rfl (by kernel_rfl) (by kernel_rfl) (by kernel_rfl) (fun _ _ _ h => h) (Or.inl ⟨rfl, fun w' hs => exec_load 88 (.tmp 42) rfl ⟨X, 1, none⟩ rfl (run_loadAt_one hs.1 Tryz.underlying88 rfl)⟩) hS ?_
  simp only [Act.put, List.setIfInBounds_toArray, List.set_cons_zero, List.set_cons_succ]
  refine wpAnyH_take (S := S) (i := 4) (oi := ⟨some 44, .load 122 (.tmp 7), _, _, _, none⟩) (v := .agg (sagaC id st.length (six st)).toArray) rfl (by kernel_rfl) (by kernel_rfl) (by kernel_rfl) (fun _ _ _ h => h) (Or.inl ⟨rfl, fun w' hs => exec_load 122 (.tmp 7) rfl ⟨w2.heap.size, 0, none⟩ rfl (load14 hs.2 h6)⟩) hS ?_
  simp only [Act.put, List.setIfInBounds_toArray, List.set_cons_zero, List.set_cons_succ]
  refine wpAnyH_all (rs := [5]) (by kernel_rfl) (by simp) ?_
  intro i5 hi5
  obtain rfl : i5 = 5 := by simpa using hi5
  refine wpOp_call (o := ⟨some 45, .call { callee := .value (.func 59), args := #[(.tmp 43), (.tmp 44)], argTypes := _ }, _, _, _, none⟩) (f := 59) (args := #[.pointer (some ⟨R, 0, none⟩), .agg (sagaC id st.length (six st)).toArray]) rfl rfl (by kernel_rfl) ?_
  refine (Fits_ok (hr5.frz hfU) id st h6).mono ?_
  rintro e' w5 ⟨rfl, hf5⟩
  have hS5 : S w5 := ⟨hf5.cell hS.1 (fun h => h), hf5.keep hS.2 (fun h => h)⟩
  refine ⟨_, rfl, hS5, ?_⟩
  simp only [Act.put, List.setIfInBounds_toArray, List.set_cons_zero, List.set_cons_succ]
  refine wpAnyH_take (S := S) (i := 6) (oi := ⟨some 46, .unOp .not 4 (.tmp 45), _, _, _, none⟩) (v := .bool (!decide (2 * (st.length : Int) ≤ room))) rfl (by kernel_rfl) (by kernel_rfl) (by kernel_rfl) (fun _ _ _ h => h) (Or.inl ⟨rfl, fun _ _ => by kernel_rfl⟩) hS5 ?_
  simp only [Act.put, List.setIfInBounds_toArray, List.set_cons_zero, List.set_cons_succ]
  refine wpAnyH_done (by kernel_rfl) ?_ _
  have hF5 : Fr (fun _ => False) w w5 := (hF4.trans hfU (fun _ _ h => h)).trans hf5 (fun _ _ h => h)
  have hr6 := (hr5.frz hfU).frz hf5
  have he6 : EngAt w5 X J R clock pause cv := hf5.keep (hfU.keep he5 (fun h => h)) (fun h => h)
  have hs6 := hS5.2
  clear hS hS5 hfU hf5 hF4 hr5 he5 hs4 c15 hM2
  rw [decide_eq_true hroom]
  go_wp2
  obtain ⟨Y, HY⟩ : ∃ Y, Hid (Y = w5.drew) := ⟨_, rfl⟩
  have hfY : Fr (fun _ => False) w5 Y := by rw [HY.out]; exact (Fr.refl _ _).drew
  let S2 : World → Prop := fun w' => w'.cell? ⟨X, 0, none⟩ = some (.pointer (some ⟨J, 0, none⟩)) ∧ w'.heap[w2.heap.size]? = some (.cells (sagaC id st.length (six st)).toArray 122 (0, 0))
  have hS : S2 Y := ⟨hfY.cell (he6.c rfl) (fun h => h), hfY.keep hs6 (fun h => h)⟩
  refine wp_region_held (S := S2) hlift ?_
  change wpAnyH _ _ _ _ S2 _ _ _ (World.drew _)
  rw [← HY.out]
  clear HY
  refine wpAnyH_take (S := S2) (i := 0) (oi := ⟨some 48, .move (.tmp 0), _, _, _, none⟩) (v := .pointer (some ⟨X, 0, none⟩)) rfl (by kernel_rfl) (by kernel_rfl) (by kernel_rfl) (fun _ _ _ h => h) (Or.inl ⟨rfl, fun _ _ => rfl⟩) hS ?_
  simp only [Act.put, List.setIfInBounds_toArray, List.set_cons_zero, List.set_cons_succ]
  refine wpAnyH_take (S := S2) (i := 1) (oi := ⟨some 49, .move (.tmp 0), _, _, _, none⟩) (v := .pointer (some ⟨X, 0, none⟩)) rfl (by kernel_rfl) (by kernel_rfl) (by kernel_rfl) (fun _ _ _ h => h) (Or.inl ⟨rfl, fun _ _ => rfl⟩) hS ?_
  simp only [Act.put, List.setIfInBounds_toArray, List.set_cons_zero, List.set_cons_succ]
  refine wpAnyH_take (S := S2) (i := 2) (oi := ⟨some 50, .nilCheck (.tmp 49), _, _, _, none⟩) (v := .pointer (some ⟨X, 0, none⟩)) rfl (by kernel_rfl) (by kernel_rfl) (by kernel_rfl) (fun _ _ _ h => h) (Or.inl ⟨rfl, fun _ _ => by kernel_rfl⟩) hS ?_
  simp only [Act.put, List.setIfInBounds_toArray, List.set_cons_zero, List.set_cons_succ]
  refine wpAnyH_take (S := S2) (i := 3) (oi := ⟨some 51, .fieldAddr 91 (.tmp 50) 0, _, _, _, none⟩) (v := .pointer (some ⟨X, 0, none⟩)) rfl (by kernel_rfl) (by kernel_rfl) (by kernel_rfl) (fun _ _ _ h => h) (Or.inl ⟨rfl, fun _ _ => by kernel_rfl⟩) hS ?_
  simp only [Act.put, List.setIfInBounds_toArray, List.set_cons_zero, List.set_cons_succ]
  refine wpAnyH_take (S := S2) (i := 4) (oi := ⟨some 52, .load 87 (.tmp 51), _, _, _, none⟩) (v := .pointer (some ⟨J, 0, none⟩)) rfl (by kernel_rfl) (by kernel_rfl) (by kernel_rfl) (fun _ _ _ h => h) (Or.inl ⟨rfl, fun w' hs => exec_load 87 (.tmp 51) rfl ⟨X, 0, none⟩ rfl (run_loadAt_one hs.1 Tryz.underlying87 rfl)⟩) hS ?_
  simp only [Act.put, List.setIfInBounds_toArray, List.set_cons_zero, List.set_cons_succ]
  refine wpAnyH_take (S := S2) (i := 5) (oi := ⟨some 53, .load 122 (.tmp 7), _, _, _, none⟩) (v := .agg (sagaC id st.length (six st)).toArray) rfl (by kernel_rfl) (by kernel_rfl) (by kernel_rfl) (fun _ _ _ h => h) (Or.inl ⟨rfl, fun w' hs => exec_load 122 (.tmp 7) rfl ⟨w2.heap.size, 0, none⟩ rfl (load14 hs.2 h6)⟩) hS ?_
  simp only [Act.put, List.setIfInBounds_toArray, List.set_cons_zero, List.set_cons_succ]
  refine wpAnyH_all (rs := [6]) (by kernel_rfl) (by simp) ?_
  intro i6 hi6
  obtain rfl : i6 = 6 := by simpa using hi6
  refine wpOp_call (o := ⟨some 54, .call { callee := .value (.func 62), args := #[(.tmp 53)], argTypes := _ }, _, _, _, none⟩) (f := 62) (args := #[.agg (sagaC id st.length (six st)).toArray]) rfl rfl (by kernel_rfl) ?_
  have HSB := sBlock_ok Y k st (by omega) h6 h8
  rw [hk] at HSB
  refine HSB.mono ?_
  rintro e' w6 ⟨rfl, hf6⟩
  have hS6 : S2 w6 := ⟨hf6.cell hS.1 (fun h => h), hf6.keep hS.2 (fun h => h)⟩
  have hF6 : Fr (fun _ => False) w w6 := (hF5.trans hfY (fun _ _ h => h)).trans hf6 (fun _ _ h => h)
  refine ⟨_, rfl, hS6, ?_⟩
  simp only [Act.put, List.setIfInBounds_toArray, List.set_cons_zero, List.set_cons_succ]
  refine wpAnyH_all (rs := [7]) (by kernel_rfl) (by simp) ?_
  intro i7 hi7
  obtain rfl : i7 = 7 := by simpa using hi7
  refine wpOp_call (o := ⟨some 55, .call { callee := .value (.func 61), args := #[(.tmp 52), (.tmp 54)], argTypes := _ }, _, _, _, none⟩) (f := 61) (args := #[.pointer (some ⟨J, 0, none⟩), .agg (ldB 2 (bodyS k st.length (six st) 6) 4).toArray]) rfl rfl (by kernel_rfl) ?_
  refine (Add_ok (hj.frz hF6) h0 h1 h2 h3 hen hn4 hz hll (ldB_one 2 _ (bodyS_one _ _ _ _) 4)).mono ?_
  rintro e' w7 ⟨rfl, hq7, hf7⟩
  have hlW2 : w.heap.size ≤ w2.heap.size := hFw2.size
  have hS7 : S2 w7 := ⟨hf7.cell hS6.1 (by rintro (h | h | h); exact nXA h; exact nXB h; exact nXJ h), hf7.keep hS6.2 (by rintro (h | h | h) <;> omega)⟩
  have hr7 := (hr.frz hF6).fr hf7 (fun b hb h => by have := hdis b hb; omega)
  have he7 : EngAt w7 X J R clock pause cv := hf7.keep (hF6.keep he (fun h => h)) (by rintro (h | h | h); exact nXA h; exact nXB h; exact nXJ h)
  have hF7 : Fr (fun b => b = A ∨ b = B ∨ b = J) w w7 := (hF6.mono (fun _ _ h => h.elim)).trans hf7 (fun _ _ h => h)
  refine ⟨_, rfl, hS7, ?_⟩
  simp only [Act.put, List.setIfInBounds_toArray, List.set_cons_zero, List.set_cons_succ]
  refine wpAnyH_all (rs := [8]) (by kernel_rfl) (by simp) ?_
  intro i8 hi8
  obtain rfl : i8 = 8 := by simpa using hi8
  refine wpOp_call (o := ⟨some 56, .call { callee := .value (.func 60), args := #[(.tmp 48), (.tmp 55)], argTypes := _ }, _, _, _, none⟩) (f := 60) (args := #[.pointer (some ⟨X, 0, none⟩), .nilIface]) rfl rfl (by kernel_rfl) ?_
  refine (checked_nil _ _).mono ?_
  rintro e' w8 ⟨rfl, rfl⟩
  refine ⟨_, rfl, hS7, ?_⟩
  simp only [Act.put, List.setIfInBounds_toArray, List.set_cons_zero, List.set_cons_succ]
  refine wpAnyH_take (S := S2) (i := 9) (oi := ⟨some 11, .assign (.tmp 56), _, _, _, none⟩) (v := .nilIface) rfl (by kernel_rfl) (by kernel_rfl) (by kernel_rfl) (fun _ _ _ h => h) (Or.inl ⟨rfl, fun _ _ => rfl⟩) hS7 ?_
  simp only [Act.put, List.setIfInBounds_toArray, List.set_cons_zero, List.set_cons_succ]
  refine wpAnyH_done (by kernel_rfl) ?_ _
  clear hS hS6 hfY hf6 hf7 hF5 hF6 HSB
  have c17 : w8.cell? ⟨X, 1, none⟩ = some (.pointer (some ⟨R, 0, none⟩)) := he7.c rfl
  have hs7 := hS7.2
  clear hS7
  go_wp2
  obtain ⟨Z, HZ⟩ : ∃ Z, Hid (Z = w8.drew) := ⟨_, rfl⟩
  have hfZ : Fr (fun _ => False) w8 Z := by rw [HZ.out]; exact (Fr.refl _ _).drew
  let S3 : World → Prop := fun w' => w'.cell? ⟨X, 1, none⟩ = some (.pointer (some ⟨R, 0, none⟩)) ∧ w'.heap[w2.heap.size]? = some (.cells (sagaC id st.length (six st)).toArray 122 (0, 0))
  have hS : S3 Z := ⟨hfZ.cell c17 (fun h => h), hfZ.keep hs7 (fun h => h)⟩
  refine wp_region_held (S := S3) hlift ?_
  change wpAnyH _ _ _ _ S3 _ _ _ (World.drew _)
  rw [← HZ.out]
  clear HZ
  refine wpAnyH_take (S := S3) (i := 0) (oi := ⟨some 60, .move (.tmp 0), _, _, _, none⟩) (v := .pointer (some ⟨X, 0, none⟩)) rfl (by kernel_rfl) (by kernel_rfl) (by kernel_rfl) (fun _ _ _ h => h) (Or.inl ⟨rfl, fun _ _ => rfl⟩) hS ?_
  simp only [Act.put, List.setIfInBounds_toArray, List.set_cons_zero, List.set_cons_succ]
  refine wpAnyH_take (S := S3) (i := 1) (oi := ⟨some 61, .nilCheck (.tmp 60), _, _, _, none⟩) (v := .pointer (some ⟨X, 0, none⟩)) rfl (by kernel_rfl) (by kernel_rfl) (by kernel_rfl) (fun _ _ _ h => h) (Or.inl ⟨rfl, fun _ _ => by kernel_rfl⟩) hS ?_
  simp only [Act.put, List.setIfInBounds_toArray, List.set_cons_zero, List.set_cons_succ]
  refine wpAnyH_take (S := S3) (i := 2) (oi := ⟨some 62, .fieldAddr 91 (.tmp 61) 1, _, _, _, none⟩) (v := .pointer (some ⟨X, 1, none⟩)) rfl (by kernel_rfl) (by kernel_rfl) (by kernel_rfl) (fun _ _ _ h => h) (Or.inl ⟨rfl, fun _ _ => by kernel_rfl⟩) hS ?_
  simp only [Act.put, List.setIfInBounds_toArray, List.set_cons_zero, List.set_cons_succ]
  refine wpAnyH_take (S := S3) (i := 3) (oi := ⟨some 63, .load 88 (.tmp 62), _, _, _, none⟩) (v := .pointer (some ⟨R, 0, none⟩)) rfl (by kernel_rfl) (by kernel_rfl) (by kernel_rfl) (fun _ _ _ h => h) (Or.inl ⟨rfl, fun w' hs => exec_load 88 (.tmp 62) rfl ⟨X, 1, none⟩ rfl (run_loadAt_one hs.1 Tryz.underlying88 rfl)⟩) hS ?_
  simp only [Act.put, List.setIfInBounds_toArray, List.set_cons_zero, List.set_cons_succ]
  refine wpAnyH_take (S := S3) (i := 4) (oi := ⟨some 64, .load 122 (.tmp 7), _, _, _, none⟩) (v := .agg (sagaC id st.length (six st)).toArray) rfl (by kernel_rfl) (by kernel_rfl) (by kernel_rfl) (fun _ _ _ h => h) (Or.inl ⟨rfl, fun w' hs => exec_load 122 (.tmp 7) rfl ⟨w2.heap.size, 0, none⟩ rfl (load14 hs.2 h6)⟩) hS ?_
  simp only [Act.put, List.setIfInBounds_toArray, List.set_cons_zero, List.set_cons_succ]
  refine wpAnyH_all (rs := [5]) (by kernel_rfl) (by simp) ?_
  intro i5 hi5
  obtain rfl : i5 = 5 := by simpa using hi5
  refine wpOp_call (o := ⟨some 65, .call { callee := .value (.func 63), args := #[(.tmp 63), (.tmp 64)], argTypes := _ }, _, _, _, none⟩) (f := 63) (args := #[.pointer (some ⟨R, 0, none⟩), .agg (sagaC id st.length (six st)).toArray]) rfl rfl (by kernel_rfl) ?_
  have hsz7 := hF7.size
  have hszZ := hfZ.size
  refine (Take_ok (hr7.frz hfZ) hs hn id st h6 hno hroom hrm (by omega) hRb0 hRe hse).mono ?_
  rintro e' wT ⟨gT, ev', rfl, hrT, hgT, hfT0, hob⟩
  have hfT : Fr (fun b => b = R ∨ ev.ownBlock = some b) w8 wT := (hfZ.mono (fun _ _ h => h.elim)).trans hfT0 (fun _ _ h => h)
  have hltE : ∀ b, ev.ownBlock = some b → b < w.heap.size := fun b hb' => by
    rcases hr.o.2 with ⟨rfl, _⟩ | ⟨g, cap, cur, rfl, _, hg, _⟩
    · cases hb'
    · cases hb'; exact lt_of_heap hg
  have hST : S3 wT := ⟨hfT.cell c17 (by rintro (h | h); exact (hdis _ (.inl h)).2.2.2.2 rfl; exact (hdis _ (.inr (.inl h))).2.2.2.2 rfl), hfT.keep hs7 (by rintro (h | h); omega; have := hltE _ h; omega)⟩
  have hob : ∀ b, ev'.ownBlock = some b → ev.ownBlock = some b ∨ Z.heap.size ≤ b := hob
  refine ⟨_, rfl, hST, ?_⟩
  simp only [Act.put, List.setIfInBounds_toArray, List.set_cons_zero, List.set_cons_succ]
  refine wpAnyH_done (by kernel_rfl) ?_ _
  obtain ⟨cl, wl, q1, q2, q3, q4, q5⟩ := hq7
  have hown : ∀ b, ev'.ownBlock = some b → ev.ownBlock = some b ∨ w.heap.size ≤ b := fun b hb => by
    rcases hob b hb with h | h
    · exact .inl h
    · have := hF7.size; exact .inr (by omega)
  have nTake : ∀ b, RollF R ev es b → b ≠ A ∧ b ≠ B ∧ b ≠ J ∧ b ≠ V ∧ b ≠ X := hdis
  have kT : ∀ {b : Nat} {o : Obj}, w8.heap[b]? = some o → (b = A ∨ b = B ∨ b = J ∨ b = V ∨ b = X) → wT.heap[b]? = some o := fun hb h => hfT.keep hb (by
    rintro (e1 | e1)
    · have := hdis _ (.inl e1); omega
    · have := hdis _ (.inr (.inl e1)); omega)
  have HJ : Hid (JnS wT J V A B n cl wl ((e : Int) + 1) true (splice bs (e * 128) (ldB 2 (bodyS k st.length (six st) 6) 4))) := ⟨kT q5.v (by simp), kT q5.d (by simp), ⟨kT q5.r.1 (by simp), q5.r.2⟩, kT q5.j (by simp)⟩
  have heT : EngAt wT X J R clock pause cv := kT he7 (by simp)
  have hFT : Fr (fun b => b = A ∨ b = B ∨ b = J ∨ b = R ∨ ev.ownBlock = some b) w wT := (hF7.mono (fun b _ h => by rcases h with h | h | h; exact .inl h; exact .inr (.inl h); exact .inr (.inr (.inl h)))).trans hfT (fun b _ h => by rcases h with h | h; exact .inr (.inr (.inr (.inl h))); exact .inr (.inr (.inr (.inr h))))
  have hgw : w.heap.size ≤ gT := by have := hF7.size; omega
  have HRT : Hid (RollAt wT R base (room - 2 * st.length) ev' (insE (gT, newA id st) es)) := hrT
  clear kT hfT hrT q5 hr7 he7 hF7 hS hST
  go_wp2
  go_ret
  exact ⟨rfl, gT, ev', HRT.out, hgw, hown, ⟨cl, wl, by omega, by omega, by omega, by omega, HJ.out⟩, heT, hFT⟩
end
end Go.Proofs.YteebjgfalllbjaaGreatDoor
namespace Go.Proofs.YteebjgfalllbjaaGreatDoor
open Go.RowKit
theorem status_info : (Tryz.prog.info? 42).map (fun i => (i.zero, i.size, i.bytes)) = some (some (.agg zST.cs.toArray), 6, 48) := by kernel_rfl
/-- The statuses of the first entries. -/
def tB (es : List (Nat × AS)) (i : Nat) : List Value := ((es.take i).map fun p => p.2.told.cs).flatten
theorem tB_succ (es : List (Nat × AS)) (i : Nat) (p : Nat × AS) (hp : es[i]? = some p) : tB es (i + 1) = tB es i ++ p.2.told.cs := by simp [tB, List.take_add_one, hp]
theorem tB_len (es : List (Nat × AS)) (i : Nat) (hi : i ≤ es.length) : (tB es i).length = i * 6 := by
  induction i with
  | zero => rfl
  | succ i ih =>
    have hlt : i < es.length := by omega
    rw [tB_succ es i _ (List.getElem?_eq_getElem hlt), List.length_append, ih (by omega), ST.len]; omega
def SaI (w : World) (es : List (Nat × AS)) (i : Nat) (wr : World) : Prop := (∃ rest, rest.length = (es.length - i) * 6 ∧ wr.heap[w.heap.size]? = some (.cells (tB es i ++ rest).toArray 42 (0, 0))) ∧ Fr (fun _ => False) w wr
section
variable {w : World} {R base : Nat} {room : Int} {ev : Value} {es : List (Nat × AS)}
set_option maxRecDepth 100000 in
set_option maxHeartbeats 2000000 in
theorem Statuses_ok (h : RollAt w R base room ev es) (hn : es.length ≤ 100000) (h6 : ∀ p ∈ es, p.2.st.length ≤ 6) : Calls Tryz.prog 64 #[.pointer (some ⟨R, 0, none⟩)] w fun e w' => e = .returned (.slice (some ⟨w.heap.size, 0, none⟩) es.length es.length) ∧ w'.heap[w.heap.size]? = some (.cells (tB es es.length).toArray 42 (0, 0)) ∧ Fr (fun _ => False) w w' := by
  obtain ⟨ao, cap, rfl⟩ := h.form
  obtain ⟨inf, hi, hz0, hz1, hz2⟩ := info_parts status_info
  obtain ⟨M, HM⟩ : ∃ M, Hid (M = madeCells (Value.agg zST.cs.toArray).cells (es.length * inf.size)) := ⟨_, rfl⟩
  obtain ⟨W1, HW1⟩ : ∃ W, Hid (W = w.alloc (.cells M 42)) := ⟨_, rfl⟩
  have hmk : (Instr.makeSlice 69 (.int .i64 es.length) (.int .i64 es.length)).run Tryz.prog w = .ok (.slice (some ⟨w.heap.size, 0, none⟩) es.length es.length) W1 := by
    have hh := run_make (P := Tryz.prog) w 69 42 inf (.agg zST.cs.toArray) Tryz.underlying69 hi hz0 .i64 .i64 es.length es.length (by omega) (by omega) (by rw [hz2]; omega) (by omega)
    rw [HW1.out, HM.out]
    simpa using hh
  have hMs : M.size = es.length * 6 := by rw [HM.out, size_madeCells, hz1]
  have hr1 : W1.heap[w.heap.size]? = some (.cells M 42 (0, 0)) := by rw [HW1.out]; exact heap_alloc_at _ _
  have hf1 : Fr (fun _ => False) w W1 := by rw [HW1.out]; exact (Fr.refl _ _).alloc _
  have HI : Hid (SaI w es 0 W1) := ⟨⟨M.toList, by rw [Array.length_toList, hMs]; rfl, by simpa [tB] using hr1⟩, hf1⟩
  have c0 := h.c0
  have c1 := (h.frz hf1).c0
  have HRoll : Hid (RollAt w R base room (.slice ao es.length cap) es) := h
  clear HM HW1 hr1 h
  go_enter Tryz.func64, Tryz.ntmps64
  go_wp2_with (first | (refine wpList_makeSlice 69 (.tmp 10) (.tmp 10) rfl rfl hmk ?_))
  go_loopw [17] (fun c wr => ∃ i : Nat, i ≤ es.length ∧ c = .int .i64 i ∧ Hid (SaI w es i wr)) (fun c _ => es.length - (intOf c).toNat)
  case atStart => exact ⟨0, by omega, rfl, HI⟩
  case round =>
    obtain ⟨i, hi, rfl, HR⟩ := hrel
    clear HI hmk c0 c1 hf1
    by_cases hlt : i < es.length
    · have hlt' : (i : Int) < es.length := by omega
      obtain ⟨p, hpi⟩ : ∃ p, es[i]? = some p := ⟨_, List.getElem?_eq_getElem hlt⟩
      have hpe := List.mem_of_getElem? hpi
      have hrw := HRoll.out.frz HR.out.2
      obtain ⟨ga, rfl, hcp⟩ := own_cell hrw.o (i := i) (v := epv p) (by rw [List.getElem?_map, hpi]; rfl)
      unfold epv at hcp
      have hM := hrw.stand hpe (h6 p hpe)
      clear hrw
      obtain ⟨⟨rest, hrl, hrr⟩, hfr⟩ := HR.out
      have htl := tB_len es i hi
      have hst := run_storeAt_row (P := Tryz.prog) (o := i * 6) (ty := 42) (vs := p.2.told.cs) hrr (by rw [List.length_append, htl, hrl, ST.len]; omega) p.2.told.one status_size
      have hsp : splice (tB es i ++ rest) (i * 6) p.2.told.cs = tB es (i + 1) ++ rest.drop 6 := by
        rw [← htl, splice_at _ _ _ _ rfl, ST.len, tB_succ es i p hpi, List.append_assoc]
      rw [hsp] at hst
      have hr2 := setRow_heap wr w.heap.size _ (tB es (i + 1) ++ rest.drop 6).toArray 42 (0, 0) hrr
      obtain ⟨W2, HW2⟩ : ∃ W2, Hid (W2 = wr.setRow w.heap.size (tB es (i + 1) ++ rest.drop 6).toArray) := ⟨_, rfl⟩
      have hf2 : Fr (fun _ => False) w W2 := by rw [HW2.out]; exact hfr.setRow _ (fun h => by omega) _
      rw [← HW2.out] at hst hr2
      have HN : Hid (SaI w es (i + 1) W2) := ⟨⟨rest.drop 6, by rw [List.length_drop, hrl]; omega, hr2⟩, hf2⟩
      clear HW2 hr2 hf2 hrr hfr hsp
      go_wp2_with (first | (refine wpList_load_mid rfl 138 _ rfl p.1 14 ?_ _ _ hM Tryz.underlying138 rfl ?_ ?_; rfl; exact stand_size) | (refine wpList_store 42 (w' := W2) _ _ rfl rfl ?_ ?_; exact hst))
      go_roundw
      case rel => exact ⟨i + 1, by omega, by go_num, HN⟩
      case measure => simp [intOf]; omega
    · obtain rfl : i = es.length := by omega
      go_wp2
      go_ret
      obtain ⟨⟨rest, hl, hr⟩, hf⟩ := HR.out
      rw [Nat.sub_self, Nat.zero_mul] at hl
      rw [List.length_eq_zero_iff.1 hl, List.append_nil] at hr
      exact ⟨rfl, hr, hf⟩
end
theorem tB_get {es : List (Nat × AS)} {i : Nat} {p : Nat × AS} (hp : es[i]? = some p) : ∃ z, tB es es.length = tB es i ++ (p.2.told.cs ++ z) := by
  obtain ⟨hi, rfl⟩ := List.getElem?_eq_some_iff.1 hp
  have e : es = es.take i ++ es[i] :: es.drop (i + 1) := by rw [List.getElem_cons_drop, List.take_append_drop]
  refine ⟨((es.drop (i + 1)).map fun p => p.2.told.cs).flatten, ?_⟩
  unfold tB
  rw [List.take_length]
  conv => lhs; rw [e]
  rw [List.map_append, List.map_cons, List.flatten_append, List.flatten_cons]
end Go.Proofs.YteebjgfalllbjaaGreatDoor
