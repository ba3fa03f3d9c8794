import Derived.Test.YteebjgfalllbjaaGreatDoorCRsInIo
import Derived.Test.YteebjgfalllbjaaGreatDoorCSbTxRg2
namespace Go.Proofs.YteebjgfalllbjaaGreatDoor
open Go.RowKit
/-- A guarded operation whose guard holds. -/
theorem wpList_wanted {P : Program} {ops : Array Oper} {Q : Exit → Act → World → Prop} {a : Act} {w w' : World} {rest : List Oper} {op : Oper} {v : Value} (hw : Region.wanted op (yielded ops a.tmps) = true) (hr : (execOp a.eval op).run P w = .ok (.value v) w') (h : wpList P ops Q rest (a.put op.dst v) w') : wpList P ops Q (op :: rest) a w := by
  unfold wpList
  rw [if_pos hw]
  left
  unfold Oper.wp
  rw [hr]
  exact h
/-- A saga as it begins. -/
def newA (id : Int) (st : List SS) : AS := ⟨id, st, (1, 1), 0, 0⟩
set_option maxRecDepth 100000 in
set_option maxHeartbeats 1000000 in
theorem begun_ok (id : Int) (st : List SS) (w : World) : Calls Tryz.prog 101 #[.agg (sagaC id st.length (six st)).toArray] w fun e w' => e = .returned (.agg (newA id st).told.cs.toArray) ∧ Fr (fun _ => False) w w' := by
  have hrow := heap_alloc_at w (.cells (sagaC id st.length (six st)).toArray 122)
  have hfa : Fr (fun _ => False) (w.alloc (.cells (sagaC id st.length (six st)).toArray 122)) ((w.alloc (.cells (sagaC id st.length (six st)).toArray 122)).alloc (.cells #[.int .i64 0, .int .i64 0, .int .i64 0, .int .i64 0, .int .i64 0, .int .i64 0] 138)) := (Fr.refl _ _).alloc _
  have hrow2 := hfa.keep hrow (fun h => h)
  have c0 : ((w.alloc (.cells (sagaC id st.length (six st)).toArray 122)).alloc (.cells #[.int .i64 0, .int .i64 0, .int .i64 0, .int .i64 0, .int .i64 0, .int .i64 0] 138)).cell? ⟨w.heap.size, 0, none⟩ = some (.int .i64 id) := (cell_of_row _ _ 0 _ _ _ hrow2).trans rfl
  have c1 : ((w.alloc (.cells (sagaC id st.length (six st)).toArray 122)).alloc (.cells #[.int .i64 0, .int .i64 0, .int .i64 0, .int .i64 0, .int .i64 0, .int .i64 0] 138)).cell? ⟨w.heap.size, 1, none⟩ = some (.int .i64 st.length) := (cell_of_row _ _ 1 _ _ _ hrow2).trans rfl
  have hF : Fr (fun _ => False) w ((w.alloc (.cells (sagaC id st.length (six st)).toArray 122)).alloc (.cells #[.int .i64 0, .int .i64 0, .int .i64 0, .int .i64 0, .int .i64 0, .int .i64 0] 138)) := ((Fr.refl _ _).alloc _).alloc _
  have hR : ((w.alloc (.cells (sagaC id st.length (six st)).toArray 122)).alloc (.cells #[.int .i64 0, .int .i64 0, .int .i64 0, .int .i64 0, .int .i64 0, .int .i64 0] 138)).heap[w.heap.size + 1]? = some (.cells zST.cs.toArray 138 (0, 0)) := heap_alloc2_new w _ _
  obtain ⟨W, HW⟩ : ∃ W, Hid (W = ((w.alloc (.cells (sagaC id st.length (six st)).toArray 122)).alloc (.cells #[.int .i64 0, .int .i64 0, .int .i64 0, .int .i64 0, .int .i64 0, .int .i64 0] 138))) := ⟨_, rfl⟩
  rw [← HW.out] at hF hR
  have hst := run_store6 (ty := 138) hR rfl (newA id st).told.len (newA id st).told.one stand_size
  have hRE := setRow_heap W (w.heap.size + 1) _ (newA id st).told.cs.toArray 138 (0, 0) hR
  obtain ⟨WE, HWE⟩ : ∃ WE, Hid (WE = W.setRow (w.heap.size + 1) (newA id st).told.cs.toArray) := ⟨_, rfl⟩
  have hFE : Fr (fun _ => False) w WE := by rw [HWE.out]; exact hF.setRow _ (fun h => by omega) _
  rw [← HWE.out] at hst hRE
  rw [HW.out] at hst
  clear HWE hF hrow hfa hrow2 hR HW
  go_enter Tryz.func101, Tryz.ntmps101
  go_wp2_with (first | (refine wpList_store 138 (w' := WE) _ _ rfl rfl ?_ ?_; exact hst))
  refine bodyPost_ret (v := .agg (newA id st).told.cs.toArray) (results_cell_row Tryz.results101 _ _ (w.heap.size + 1) 138 _ (0, 0) _ rfl hRE Tryz.underlying138 rfl stand_size) rfl ⟨rfl, hFE⟩
theorem six_lit (st : List SS) (h6 : st.length ≤ 6) : ∃ p0 p1 p2 p3 p4 p5, six st = [p0, p1, p2, p3, p4, p5] := by
  have h := six_len st h6
  match hs : six st, h with
  | [p0, p1, p2, p3, p4, p5], _ => exact ⟨p0, p1, p2, p3, p4, p5, rfl⟩
theorem run_build_entry (id : Int) (st : List SS) (h6 : st.length ≤ 6) (w : World) : (Instr.build 140 #[(0, .agg (sagaC id st.length (six st)).toArray), (1, .agg (newA id st).told.cs.toArray)]).run Tryz.prog w = .ok (.agg (entC (newA id st)).toArray) w := by
  obtain ⟨p0, p1, p2, p3, p4, p5, e⟩ := six_lit st h6
  unfold entC
  show (Instr.build 140 #[(0, .agg (sagaC id st.length (six st)).toArray), (1, .agg (newA id st).told.cs.toArray)]).run Tryz.prog w = .ok (.agg (sagaC id st.length (six st) ++ (newA id st).told.cs).toArray) w
  rw [e]
  kernel_rfl
theorem run_box_entry (a : AS) (h6 : a.st.length ≤ 6) (w : World) : (Instr.box 140 (.agg (entC a).toArray)).run Tryz.prog w = .ok (.pointer (some ⟨w.heap.size, 0, none⟩)) (w.alloc (.cells (entC a).toArray 140)) := by
  obtain ⟨p0, p1, p2, p3, p4, p5, e⟩ := six_lit a.st h6
  unfold entC
  rw [e]
  kernel_rfl
theorem run_slice_entry (g : Nat) (w : World) : (Instr.buildSlice 174 1 #[(0, .pointer (some ⟨g, 0, none⟩))]).run Tryz.prog w = .ok (.slice (some ⟨w.heap.size, 0, none⟩) 1 1) (w.alloc (.cells #[.pointer (some ⟨g, 0, none⟩)] 136)) := by kernel_rfl
theorem newA_len (id : Int) (st : List SS) : (newA id st).st.length = st.length := rfl
theorem own_one {w : World} {base n : Nat} {t : TypeId} {v : Value} {xs : List Value} (h : w.ownsRow base t 1 v n xs) : v.oneCell' = true := by
  rcases h.2 with ⟨rfl, _⟩ | ⟨g, cap, cur, rfl, _⟩ <;> rfl
section
variable {ρ : Operand → Value} {o : Oper} {w w' : World} {v : Value}
theorem exec_buildE {x y : Operand} {a b : Value} (ho : o.op = .build 140 #[(0, x), (1, y)]) (hx : ρ x = a) (hy : ρ y = b) (hr : (Instr.build 140 #[(0, a), (1, b)]).run Tryz.prog w = .ok v w') : (execOp ρ o).run Tryz.prog w = .ok (.value v) w' := by
  simp only [execOp, ho, List.map_toArray, List.map_cons, List.map_nil, hx, hy, Sem.run_bind, hr, Result.andThen_ok, Sem.run_pure]
theorem exec_boxE {t : TypeId} {x : Operand} {a : Value} (ho : o.op = .box t x) (hx : ρ x = a) (hr : (Instr.box t a).run Tryz.prog w = .ok v w') : (execOp ρ o).run Tryz.prog w = .ok (.value v) w' := by
  simp only [execOp, ho, hx, Sem.run_bind, hr, Result.andThen_ok, Sem.run_pure]
theorem exec_sliceE {t : TypeId} {x : Operand} {a : Value} (ho : o.op = .buildSlice t 1 #[(0, x)]) (hx : ρ x = a) (hr : (Instr.buildSlice t 1 #[(0, a)]).run Tryz.prog w = .ok v w') : (execOp ρ o).run Tryz.prog w = .ok (.value v) w' := by
  simp only [execOp, ho, List.map_toArray, List.map_cons, List.map_nil, hx, Sem.run_bind, hr, Result.andThen_ok, Sem.run_pure]
end
theorem exec_sub {ρ : Operand → Value} {o : Oper} {x y : Operand} {a b : Int} (ho : o.op = .binOp .sub 3 x y 3) (hx : ρ x = .int .i64 a) (hy : ρ y = .int .i64 b) (h1 : -1000000 ≤ a - b) (h2 : a - b ≤ 1000000) (w : World) : (execOp ρ o).run Tryz.prog w = .ok (.value (.int .i64 (a - b))) w := by
  have hw : IntKind.i64.wrap (a - b) = a - b := by rw [IntKind.wrap_i64]; omega
  have : (execOp ρ o).run Tryz.prog w = .ok (.value (.int .i64 (IntKind.i64.wrap (a - b)))) w := by
    simp only [execOp, ho, hx, hy]
    kernel_rfl
  rw [this, hw]
theorem placed_split {es : List (Nat × AS)} {id : Int} {k : Nat} (hp : Placed (idsOf es) id k false) : es.takeWhile (fun q => decide (q.2.id < id)) = es.take k ∧ es.dropWhile (fun q => decide (q.2.id < id)) = es.drop k := by
  have hk : k ≤ es.length := by have := hp.1; simpa [idsOf] using this
  have h1 : ∀ q ∈ es.take k, decide (q.2.id < id) = true := by
    intro q hq
    obtain ⟨j, hj, rfl⟩ := List.mem_iff_getElem.1 hq
    rw [List.length_take] at hj
    have := hp.2.1 j (es[j].1, es[j].2.id) (by omega) (by simp [idsOf, List.getElem?_eq_getElem (show j < es.length by omega)])
    simpa using this
  have h2 : ∀ q, (es.drop k).head? = some q → decide (q.2.id < id) = false := by
    intro q hq
    rw [List.head?_drop] at hq
    have := hp.2.2.1 (q.1, q.2.id) (by simp [idsOf, hq])
    simp at this ⊢
    omega
  have e : es = es.take k ++ es.drop k := (List.take_append_drop k es).symm
  have ht : (es.drop k).takeWhile (fun q => decide (q.2.id < id)) = [] := by
    cases hd : es.drop k with
    | nil => rfl
    | cons q l => rw [List.takeWhile_cons, h2 q (by rw [hd]; rfl)]; rfl
  have hdr : (es.drop k).dropWhile (fun q => decide (q.2.id < id)) = es.drop k := by
    cases hd : es.drop k with
    | nil => rfl
    | cons q l => rw [List.dropWhile_cons, h2 q (by rw [hd]; rfl)]; rfl
  constructor
  · conv => lhs; rw [e]
    rw [List.takeWhile_append_of_pos h1, ht, List.append_nil]
  · conv => lhs; rw [e]
    rw [List.dropWhile_append_of_pos h1, hdr]
/-- An entry more. -/
def insE (p : Nat × AS) (es : List (Nat × AS)) : List (Nat × AS) := es.takeWhile (fun q => decide (q.2.id < p.2.id)) ++ p :: es.dropWhile (fun q => decide (q.2.id < p.2.id))
section
variable {w : World} {R base : Nat} {room : Int} {ev : Value} {es : List (Nat × AS)}
set_option maxRecDepth 100000 in
set_option maxHeartbeats 1000000 in
theorem Take_ok (h : RollAt w R base room ev es) (hs : Sorted es) (hn : es.length ≤ 100000) (id : Int) (st : List SS) (h6 : st.length ≤ 6) (hno : ∀ p ∈ es, p.2.id ≠ id) (hroom : 2 * (st.length : Int) ≤ room) (hrm : room ≤ 1000) (hb : base ≤ w.heap.size) (hRb0 : ev.ownBlock ≠ some R) (hRe : ∀ p ∈ es, p.1 ≠ R) (hse : ∀ p ∈ es, ev.ownBlock ≠ some p.1) : Calls Tryz.prog 63 #[.pointer (some ⟨R, 0, none⟩), .agg (sagaC id st.length (six st)).toArray] w fun e w' => ∃ g ev', e = .returned (.bool true) ∧ RollAt w' R base (room - 2 * st.length) ev' (insE (g, newA id st) es) ∧ w.heap.size ≤ g ∧ Fr (fun b => b = R ∨ ev.ownBlock = some b) w w' ∧ (∀ b, ev'.ownBlock = some b → ev.ownBlock = some b ∨ w.heap.size ≤ b) := by
  have hlift : Tryz.prog.follows .mixedOrders = true := by kernel_rfl
  have hrow := heap_alloc_at w (.cells (sagaC id st.length (six st)).toArray 122)
  have hfa : Fr (fun _ => False) w (w.alloc (.cells (sagaC id st.length (six st)).toArray 122)) := (Fr.refl _ _).alloc _
  have h1 := h.frz hfa
  obtain ⟨W, HW⟩ : ∃ W, Hid (W = w.alloc (.cells (sagaC id st.length (six st)).toArray 122)) := ⟨_, rfl⟩
  have c0 : (w.alloc (.cells (sagaC id st.length (six st)).toArray 122)).cell? ⟨w.heap.size, 0, none⟩ = some (.int .i64 id) := (cell_of_row _ _ 0 _ _ _ hrow).trans rfl
  rw [← HW.out] at hrow hfa h1
  have hRb : R < w.heap.size := lt_of_heap h.r
  go_enter Tryz.func63, Tryz.ntmps63
  go_wp2_with fail
  rw [← HW.out]
  clear c0
  refine (place_ok h1 hs hn id).mono ?_
  rintro e w2 ⟨k, t, rfl, hp, hf⟩
  obtain rfl : t = false := by
    cases t with
    | false => rfl
    | true =>
      obtain ⟨q, hq, hid⟩ := hp.2.2.2.1 rfl
      rw [idsOf, List.getElem?_map] at hq
      obtain ⟨p, hpk, rfl⟩ := Option.map_eq_some_iff.1 hq
      exact absurd hid (hno p (List.mem_of_getElem? hpk))
  have h2 := h1.frz hf
  have hrow2 := hf.keep hrow (fun h => h)
  have hF2 : Fr (fun _ => False) w w2 := hfa.trans hf (fun _ _ h => h)
  clear HW hfa hf hrow h1
  have hl := sagaC_len id st.length _ (six_len _ h6)
  have hL := load14 hrow2 h6
  go_wp2_with (first | (refine wpList_wanted (by rfl) (exec_load 122 (.tmp 3) rfl ⟨w.heap.size, 0, none⟩ rfl hL) ?_))
  refine (Fits_ok h2 id st h6).mono ?_
  rintro e w3 ⟨rfl, hf3⟩
  rw [decide_eq_true hroom]
  have h3 := h2.frz hf3
  have hrow3 := hf3.keep hrow2 (fun h => h)
  have hF3 : Fr (fun _ => False) w w3 := hF2.trans hf3 (fun _ _ h => h)
  clear hL hF2 hf3 hrow2 h2
  clear hl
  go_wp2
  obtain ⟨W, HW⟩ : ∃ W, Hid (W = w3.drew) := ⟨_, rfl⟩
  have hfW : Fr (fun _ => False) w3 W := by rw [HW.out]; exact (Fr.refl _ _).drew
  have hR3 := h3.frz hfW
  have hF4 : Fr (fun _ => False) w W := hF3.trans hfW (fun _ _ h => h)
  clear h3 hF3
  let S : World → Prop := fun w' => w'.heap[w.heap.size]? = some (.cells (sagaC id st.length (six st)).toArray 122 (0, 0))
  have hS : S W := hfW.keep hrow3 (fun h => h)
  refine wp_region_held (S := S) hlift ?_
  change wpAnyH _ _ _ _ S _ _ _ (World.drew _)
  rw [← HW.out]
  clear HW
  refine wpAnyH_take (S := S) (i := 0) (oi := ⟨some 21, .move (.tmp 0), _, _, _, none⟩) (v := .pointer (some ⟨R, 0, none⟩)) rfl (by kernel_rfl) (by kernel_rfl) (by kernel_rfl) (fun _ _ _ h => h) (Or.inl ⟨rfl, fun _ _ => rfl⟩) hS ?_
  simp only [Act.put, List.setIfInBounds_toArray, List.set_cons_zero, List.set_cons_succ]
  refine wpAnyH_take (S := S) (i := 1) (oi := ⟨some 22, .move (.tmp 0), _, _, _, none⟩) (v := .pointer (some ⟨R, 0, none⟩)) rfl (by kernel_rfl) (by kernel_rfl) (by kernel_rfl) (fun _ _ _ h => h) (Or.inl ⟨rfl, fun _ _ => rfl⟩) hS ?_
  simp only [Act.put, List.setIfInBounds_toArray, List.set_cons_zero, List.set_cons_succ]
  refine wpAnyH_take (S := S) (i := 2) (oi := ⟨some 23, .nilCheck (.tmp 22), _, _, _, none⟩) (v := .pointer (some ⟨R, 0, none⟩)) rfl (by kernel_rfl) (by kernel_rfl) (by kernel_rfl) (fun _ _ _ h => h) (Or.inl ⟨rfl, fun _ _ => by kernel_rfl⟩) hS ?_
  simp only [Act.put, List.setIfInBounds_toArray, List.set_cons_zero, List.set_cons_succ]
  refine wpAnyH_take (S := S) (i := 3) (oi := ⟨some 24, .fieldAddr 176 (.tmp 23) 0, _, _, _, none⟩) (v := .pointer (some ⟨R, 0, none⟩)) rfl (by kernel_rfl) (by kernel_rfl) (by kernel_rfl) (fun _ _ _ h => h) (Or.inl ⟨rfl, fun _ _ => by kernel_rfl⟩) hS ?_
  simp only [Act.put, List.setIfInBounds_toArray, List.set_cons_zero, List.set_cons_succ]
  refine wpAnyH_take (S := S) (i := 5) (oi := ⟨some 26, .move (.tmp 5), _, _, _, none⟩) (v := .int .i64 k) rfl (by kernel_rfl) (by kernel_rfl) (by kernel_rfl) (fun _ _ _ h => h) (Or.inl ⟨rfl, fun _ _ => rfl⟩) hS ?_
  simp only [Act.put, List.setIfInBounds_toArray, List.set_cons_zero, List.set_cons_succ]
  refine wpAnyH_take (S := S) (i := 6) (oi := ⟨some 27, .load 122 (.tmp 3), _, _, _, none⟩) (v := .agg (sagaC id st.length (six st)).toArray) rfl (by kernel_rfl) (by kernel_rfl) (by kernel_rfl) (fun _ _ _ h => h) (Or.inl ⟨rfl, fun w' hs => exec_load 122 (.tmp 3) rfl ⟨w.heap.size, 0, none⟩ rfl (load14 hs h6)⟩) hS ?_
  simp only [Act.put, List.setIfInBounds_toArray, List.set_cons_zero, List.set_cons_succ]
  refine wpAnyH_take (S := S) (i := 7) (oi := ⟨some 28, .load 122 (.tmp 3), _, _, _, none⟩) (v := .agg (sagaC id st.length (six st)).toArray) rfl (by kernel_rfl) (by kernel_rfl) (by kernel_rfl) (fun _ _ _ h => h) (Or.inl ⟨rfl, fun w' hs => exec_load 122 (.tmp 3) rfl ⟨w.heap.size, 0, none⟩ rfl (load14 hs h6)⟩) hS ?_
  simp only [Act.put, List.setIfInBounds_toArray, List.set_cons_zero, List.set_cons_succ]
  refine wpAnyH_all (rs := [4, 8]) (by kernel_rfl) (by simp) ?_
  intro ia hia
  have hia' : ia = 4 ∨ ia = 8 := by simpa using hia
  clear hia
  rcases hia' with rfl | rfl
  case' inl =>
    refine wpOp_value (o := ⟨some 25, .load 174 (.tmp 24), _, _, _, none⟩) (v := ev) rfl rfl (exec_load 174 (.tmp 24) rfl ⟨R, 0, none⟩ rfl (run_loadAt_one hR3.c0 Tryz.underlying174 rfl)) ⟨hS, ?_⟩
    simp only [Act.put, List.setIfInBounds_toArray, List.set_cons_zero, List.set_cons_succ]
    refine wpAnyH_all (rs := [8]) (by kernel_rfl) (by simp) ?_
    intro ib hib
    obtain rfl : ib = 8 := by simpa using hib
    clear hib
    refine wpOp_call (o := ⟨some 29, .call { callee := .value (.func 101), args := #[(.tmp 28)], argTypes := _ }, _, _, _, none⟩) (f := 101) (args := #[.agg (sagaC id st.length (six st)).toArray]) rfl rfl (by kernel_rfl) ?_
    refine (begun_ok id st W).mono ?_
    rintro e wB ⟨rfl, hfB⟩
    have hSB : S wB := hfB.keep hS (fun h => h)
    have hRB := hR3.frz hfB
    have hFB : Fr (fun _ => False) w wB := hF4.trans hfB (fun _ _ h => h)
    refine ⟨_, rfl, hSB, ?_⟩
    simp only [Act.put, List.setIfInBounds_toArray, List.set_cons_zero, List.set_cons_succ]
    refine wpAnyH_take (S := S) (i := 9) (oi := ⟨some 30, .build 140 #[(0, Operand.tmp 27), (1, Operand.tmp 29)], _, _, _, none⟩) (v := .agg (entC (newA id st)).toArray) rfl (by kernel_rfl) (by kernel_rfl) (by kernel_rfl) (fun _ _ _ h => h) (Or.inl ⟨rfl, fun w' _ => exec_buildE rfl rfl rfl (run_build_entry id st h6 w')⟩) hSB ?_
    simp only [Act.put, List.setIfInBounds_toArray, List.set_cons_zero, List.set_cons_succ]
    refine wpAnyH_all (rs := [10]) (by kernel_rfl) (by simp) ?_
    intro ic hic
    obtain rfl : ic = 10 := by simpa using hic
    clear hic
    have hfX : Fr (fun _ => False) wB (wB.alloc (.cells (entC (newA id st)).toArray 140)) := (Fr.refl _ _).alloc _
    have hrX := heap_alloc_at wB (.cells (entC (newA id st)).toArray 140)
    obtain ⟨wX, HWX⟩ : ∃ wX, Hid (wX = wB.alloc (.cells (entC (newA id st)).toArray 140)) := ⟨_, rfl⟩
    rw [← HWX.out] at hfX hrX
    have hSX : S wX := hfX.keep hSB (fun h => h)
    have hRX := hRB.frz hfX
    have hFX : Fr (fun _ => False) w wX := hFB.trans hfX (fun _ _ h => h)
    refine wpOp_value (o := ⟨some 31, .box 140 (.tmp 30), _, _, _, none⟩) (v := .pointer (some ⟨wB.heap.size, 0, none⟩)) (w' := wX) rfl rfl (exec_boxE rfl rfl (by rw [HWX.out]; exact run_box_entry (newA id st) h6 wB)) ⟨hSX, ?_⟩
    simp only [Act.put, List.setIfInBounds_toArray, List.set_cons_zero, List.set_cons_succ]
    clear HWX
    refine wpAnyH_all (rs := [11]) (by kernel_rfl) (by simp) ?_
    intro id2 hid2
    obtain rfl : id2 = 11 := by simpa using hid2
    clear hid2
    have hfY : Fr (fun _ => False) wX (wX.alloc (.cells #[.pointer (some ⟨wB.heap.size, 0, none⟩)] 136)) := (Fr.refl _ _).alloc _
    have hrY := heap_alloc_at wX (.cells #[.pointer (some ⟨wB.heap.size, 0, none⟩)] 136)
    obtain ⟨wY, HWY⟩ : ∃ wY, Hid (wY = wX.alloc (.cells #[.pointer (some ⟨wB.heap.size, 0, none⟩)] 136)) := ⟨_, rfl⟩
    rw [← HWY.out] at hfY hrY
    have hSY : S wY := hfY.keep hSX (fun h => h)
    have hRY := hRX.frz hfY
    have hrE := hfY.keep hrX (fun h => h)
    have hFY : Fr (fun _ => False) w wY := hFX.trans hfY (fun _ _ h => h)
    refine wpOp_value (o := ⟨some 32, .buildSlice 174 1 #[(0, .tmp 31)], _, _, _, none⟩) (v := .slice (some ⟨wX.heap.size, 0, none⟩) 1 1) (w' := wY) rfl rfl (exec_sliceE rfl rfl (by rw [HWY.out]; exact run_slice_entry _ wX)) ⟨hSY, ?_⟩
    simp only [Act.put, List.setIfInBounds_toArray, List.set_cons_zero, List.set_cons_succ]
    clear HWY
  case' inr =>
    refine wpOp_call (o := ⟨some 29, .call { callee := .value (.func 101), args := #[(.tmp 28)], argTypes := _ }, _, _, _, none⟩) (f := 101) (args := #[.agg (sagaC id st.length (six st)).toArray]) rfl rfl (by kernel_rfl) ?_
    refine (begun_ok id st W).mono ?_
    rintro e wB ⟨rfl, hfB⟩
    have hSB : S wB := hfB.keep hS (fun h => h)
    have hRB := hR3.frz hfB
    have hFB : Fr (fun _ => False) w wB := hF4.trans hfB (fun _ _ h => h)
    refine ⟨_, rfl, hSB, ?_⟩
    simp only [Act.put, List.setIfInBounds_toArray, List.set_cons_zero, List.set_cons_succ]
    refine wpAnyH_take (S := S) (i := 9) (oi := ⟨some 30, .build 140 #[(0, Operand.tmp 27), (1, Operand.tmp 29)], _, _, _, none⟩) (v := .agg (entC (newA id st)).toArray) rfl (by kernel_rfl) (by kernel_rfl) (by kernel_rfl) (fun _ _ _ h => h) (Or.inl ⟨rfl, fun w' _ => exec_buildE rfl rfl rfl (run_build_entry id st h6 w')⟩) hSB ?_
    simp only [Act.put, List.setIfInBounds_toArray, List.set_cons_zero, List.set_cons_succ]
    refine wpAnyH_all (rs := [4, 10]) (by kernel_rfl) (by simp) ?_
    intro ib hib
    have hib' : ib = 4 ∨ ib = 10 := by simpa using hib
    clear hib
    rcases hib' with rfl | rfl
    case' inl =>
      refine wpOp_value (o := ⟨some 25, .load 174 (.tmp 24), _, _, _, none⟩) (v := ev) rfl rfl (exec_load 174 (.tmp 24) rfl ⟨R, 0, none⟩ rfl (run_loadAt_one hRB.c0 Tryz.underlying174 rfl)) ⟨hSB, ?_⟩
      simp only [Act.put, List.setIfInBounds_toArray, List.set_cons_zero, List.set_cons_succ]
      refine wpAnyH_all (rs := [10]) (by kernel_rfl) (by simp) ?_
      intro ic hic
      obtain rfl : ic = 10 := by simpa using hic
      clear hic
      have hfX : Fr (fun _ => False) wB (wB.alloc (.cells (entC (newA id st)).toArray 140)) := (Fr.refl _ _).alloc _
      have hrX := heap_alloc_at wB (.cells (entC (newA id st)).toArray 140)
      obtain ⟨wX, HWX⟩ : ∃ wX, Hid (wX = wB.alloc (.cells (entC (newA id st)).toArray 140)) := ⟨_, rfl⟩
      rw [← HWX.out] at hfX hrX
      have hSX : S wX := hfX.keep hSB (fun h => h)
      have hRX := hRB.frz hfX
      have hFX : Fr (fun _ => False) w wX := hFB.trans hfX (fun _ _ h => h)
      refine wpOp_value (o := ⟨some 31, .box 140 (.tmp 30), _, _, _, none⟩) (v := .pointer (some ⟨wB.heap.size, 0, none⟩)) (w' := wX) rfl rfl (exec_boxE rfl rfl (by rw [HWX.out]; exact run_box_entry (newA id st) h6 wB)) ⟨hSX, ?_⟩
      simp only [Act.put, List.setIfInBounds_toArray, List.set_cons_zero, List.set_cons_succ]
      clear HWX
      refine wpAnyH_all (rs := [11]) (by kernel_rfl) (by simp) ?_
      intro id2 hid2
      obtain rfl : id2 = 11 := by simpa using hid2
      clear hid2
      have hfY : Fr (fun _ => False) wX (wX.alloc (.cells #[.pointer (some ⟨wB.heap.size, 0, none⟩)] 136)) := (Fr.refl _ _).alloc _
      have hrY := heap_alloc_at wX (.cells #[.pointer (some ⟨wB.heap.size, 0, none⟩)] 136)
      obtain ⟨wY, HWY⟩ : ∃ wY, Hid (wY = wX.alloc (.cells #[.pointer (some ⟨wB.heap.size, 0, none⟩)] 136)) := ⟨_, rfl⟩
      rw [← HWY.out] at hfY hrY
      have hSY : S wY := hfY.keep hSX (fun h => h)
      have hRY := hRX.frz hfY
      have hrE := hfY.keep hrX (fun h => h)
      have hFY : Fr (fun _ => False) w wY := hFX.trans hfY (fun _ _ h => h)
      refine wpOp_value (o := ⟨some 32, .buildSlice 174 1 #[(0, .tmp 31)], _, _, _, none⟩) (v := .slice (some ⟨wX.heap.size, 0, none⟩) 1 1) (w' := wY) rfl rfl (exec_sliceE rfl rfl (by rw [HWY.out]; exact run_slice_entry _ wX)) ⟨hSY, ?_⟩
      simp only [Act.put, List.setIfInBounds_toArray, List.set_cons_zero, List.set_cons_succ]
      clear HWY
    case' inr =>
      have hfX : Fr (fun _ => False) wB (wB.alloc (.cells (entC (newA id st)).toArray 140)) := (Fr.refl _ _).alloc _
      have hrX := heap_alloc_at wB (.cells (entC (newA id st)).toArray 140)
      obtain ⟨wX, HWX⟩ : ∃ wX, Hid (wX = wB.alloc (.cells (entC (newA id st)).toArray 140)) := ⟨_, rfl⟩
      rw [← HWX.out] at hfX hrX
      have hSX : S wX := hfX.keep hSB (fun h => h)
      have hRX := hRB.frz hfX
      have hFX : Fr (fun _ => False) w wX := hFB.trans hfX (fun _ _ h => h)
      refine wpOp_value (o := ⟨some 31, .box 140 (.tmp 30), _, _, _, none⟩) (v := .pointer (some ⟨wB.heap.size, 0, none⟩)) (w' := wX) rfl rfl (exec_boxE rfl rfl (by rw [HWX.out]; exact run_box_entry (newA id st) h6 wB)) ⟨hSX, ?_⟩
      simp only [Act.put, List.setIfInBounds_toArray, List.set_cons_zero, List.set_cons_succ]
      clear HWX
      refine wpAnyH_all (rs := [4, 11]) (by kernel_rfl) (by simp) ?_
      intro ic hic
      have hic' : ic = 4 ∨ ic = 11 := by simpa using hic
      clear hic
      rcases hic' with rfl | rfl
      case' inl =>
        refine wpOp_value (o := ⟨some 25, .load 174 (.tmp 24), _, _, _, none⟩) (v := ev) rfl rfl (exec_load 174 (.tmp 24) rfl ⟨R, 0, none⟩ rfl (run_loadAt_one hRX.c0 Tryz.underlying174 rfl)) ⟨hSX, ?_⟩
        simp only [Act.put, List.setIfInBounds_toArray, List.set_cons_zero, List.set_cons_succ]
        refine wpAnyH_all (rs := [11]) (by kernel_rfl) (by simp) ?_
        intro id2 hid2
        obtain rfl : id2 = 11 := by simpa using hid2
        clear hid2
        have hfY : Fr (fun _ => False) wX (wX.alloc (.cells #[.pointer (some ⟨wB.heap.size, 0, none⟩)] 136)) := (Fr.refl _ _).alloc _
        have hrY := heap_alloc_at wX (.cells #[.pointer (some ⟨wB.heap.size, 0, none⟩)] 136)
        obtain ⟨wY, HWY⟩ : ∃ wY, Hid (wY = wX.alloc (.cells #[.pointer (some ⟨wB.heap.size, 0, none⟩)] 136)) := ⟨_, rfl⟩
        rw [← HWY.out] at hfY hrY
        have hSY : S wY := hfY.keep hSX (fun h => h)
        have hRY := hRX.frz hfY
        have hrE := hfY.keep hrX (fun h => h)
        have hFY : Fr (fun _ => False) w wY := hFX.trans hfY (fun _ _ h => h)
        refine wpOp_value (o := ⟨some 32, .buildSlice 174 1 #[(0, .tmp 31)], _, _, _, none⟩) (v := .slice (some ⟨wX.heap.size, 0, none⟩) 1 1) (w' := wY) rfl rfl (exec_sliceE rfl rfl (by rw [HWY.out]; exact run_slice_entry _ wX)) ⟨hSY, ?_⟩
        simp only [Act.put, List.setIfInBounds_toArray, List.set_cons_zero, List.set_cons_succ]
        clear HWY
      case' inr =>
        have hfY : Fr (fun _ => False) wX (wX.alloc (.cells #[.pointer (some ⟨wB.heap.size, 0, none⟩)] 136)) := (Fr.refl _ _).alloc _
        have hrY := heap_alloc_at wX (.cells #[.pointer (some ⟨wB.heap.size, 0, none⟩)] 136)
        obtain ⟨wY, HWY⟩ : ∃ wY, Hid (wY = wX.alloc (.cells #[.pointer (some ⟨wB.heap.size, 0, none⟩)] 136)) := ⟨_, rfl⟩
        rw [← HWY.out] at hfY hrY
        have hSY : S wY := hfY.keep hSX (fun h => h)
        have hRY := hRX.frz hfY
        have hrE := hfY.keep hrX (fun h => h)
        have hFY : Fr (fun _ => False) w wY := hFX.trans hfY (fun _ _ h => h)
        refine wpOp_value (o := ⟨some 32, .buildSlice 174 1 #[(0, .tmp 31)], _, _, _, none⟩) (v := .slice (some ⟨wX.heap.size, 0, none⟩) 1 1) (w' := wY) rfl rfl (exec_sliceE rfl rfl (by rw [HWY.out]; exact run_slice_entry _ wX)) ⟨hSY, ?_⟩
        simp only [Act.put, List.setIfInBounds_toArray, List.set_cons_zero, List.set_cons_succ]
        clear HWY
        refine wpAnyH_all (rs := [4]) (by kernel_rfl) (by simp) ?_
        intro id2 hid2
        obtain rfl : id2 = 4 := by simpa using hid2
        clear hid2
        refine wpOp_value (o := ⟨some 25, .load 174 (.tmp 24), _, _, _, none⟩) (v := ev) rfl rfl (exec_load 174 (.tmp 24) rfl ⟨R, 0, none⟩ rfl (run_loadAt_one hRY.c0 Tryz.underlying174 rfl)) ⟨hSY, ?_⟩
        simp only [Act.put, List.setIfInBounds_toArray, List.set_cons_zero, List.set_cons_succ]
  all_goals
    clear hS hSB hSX hR3 hRB hRX
    have hbY := hFY.size
    have hlB := hFB.size
    have hlX := hFX.size
    have hltE : ∀ b, ev.ownBlock = some b → b < w.heap.size := fun b hb' => by
      rcases h.o.2 with ⟨rfl, _⟩ | ⟨g, cap, cur, rfl, _, hg, _⟩
      · cases hb'
      · cases hb'; exact lt_of_heap hg
    refine wpAnyH_all (rs := [12]) (by kernel_rfl) (by simp) ?_
    intro i12 hi12
    obtain rfl : i12 = 12 := by simpa using hi12
    refine wpOp_call (o := ⟨some 33, .call { callee := .value (.func 100), args := #[(.tmp 25), (.tmp 26), (.tmp 32)], argTypes := _ }, _, _, _, none⟩) (f := 100) (args := #[ev, .int .i64 k, .slice (some ⟨wX.heap.size, 0, none⟩) 1 1]) rfl rfl (by kernel_rfl) ?_
    refine (Insert_ok (i := k) (xs := es.map epv) (by have := hp.1; simpa [idsOf] using this) hRY.o hrY (fun e => by have := hltE _ e; omega) rfl (fun v hv => by obtain ⟨p, _, rfl⟩ := List.mem_map.1 hv; rfl) hn (by omega)).mono ?_
    rintro e wZ ⟨v', rfl, hoZ, hfZ, hbZ⟩
    have hSZ : S wZ := hfZ.keep hSY (fun e => by have := hltE _ e; omega)
    have hrZ := hfZ.keep hRY.r hRb0
    have hFZ : Fr (fun b => b = R ∨ ev.ownBlock = some b) w wZ := (hFY.mono (fun _ _ h => h.elim)).trans hfZ (fun _ _ h => .inr h)
    refine ⟨_, rfl, hSZ, ?_⟩
    simp only [Act.put, List.setIfInBounds_toArray, List.set_cons_zero, List.set_cons_succ]
    refine wpAnyH_take (S := S) (i := 13) (oi := ⟨some 34, .nilCheck (.tmp 21), _, _, _, none⟩) (v := .pointer (some ⟨R, 0, none⟩)) rfl (by kernel_rfl) (by kernel_rfl) (by kernel_rfl) (fun _ _ _ h => h) (Or.inl ⟨rfl, fun _ _ => by kernel_rfl⟩) hSZ ?_
    simp only [Act.put, List.setIfInBounds_toArray, List.set_cons_zero, List.set_cons_succ]
    refine wpAnyH_take (S := S) (i := 14) (oi := ⟨some 35, .fieldAddr 176 (.tmp 34) 0, _, _, _, none⟩) (v := .pointer (some ⟨R, 0, none⟩)) rfl (by kernel_rfl) (by kernel_rfl) (by kernel_rfl) (fun _ _ _ h => h) (Or.inl ⟨rfl, fun _ _ => by kernel_rfl⟩) hSZ ?_
    simp only [Act.put, List.setIfInBounds_toArray, List.set_cons_zero, List.set_cons_succ]
    refine wpAnyH_all (rs := [15]) (by kernel_rfl) (by simp) ?_
    intro i15 hi15
    obtain rfl : i15 = 15 := by simpa using hi15
    have hst := run_storeAt_one (P := Tryz.prog) (w := wZ) (a := ⟨R, 0, none⟩) (t := 174) (v := v') ((cell_of_row wZ R 0 _ _ _ hrZ).trans rfl) (frozen_of_row wZ R 0 _ _ hrZ) (by kernel_rfl) (own_one hoZ)
    have hrF : (wZ.setCell ⟨R, 0, none⟩ v').heap[R]? = some (.cells #[v', .int .i64 room] 176 (0, 0)) := by rw [heap_setCell_at _ _ _ _ _ _ hrZ]; rfl
    have hfF : Fr (fun b => b = R) wZ (wZ.setCell ⟨R, 0, none⟩ v') := Fr.set1 _ _ _ _
    obtain ⟨wF, HWF⟩ : ∃ wF, Hid (wF = wZ.setCell ⟨R, 0, none⟩ v') := ⟨_, rfl⟩
    rw [← HWF.out] at hst hrF hfF
    clear HWF
    have hSF : S wF := hfF.keep hSZ (by omega)
    refine wpOp_skip (o := ⟨none, .store 174 (.tmp 35) (.tmp 33), _, _, _, none⟩) (w' := wF) rfl rfl (exec_store 174 _ _ rfl ⟨R, 0, none⟩ _ rfl rfl hst) ⟨hSF, ?_⟩
    simp only [Act.put]
    refine wpAnyH_done (by kernel_rfl) ?_ _
    have hFF : Fr (fun b => b = R ∨ ev.ownBlock = some b) w wF := hFZ.trans hfF (fun _ _ h => .inl h)
    have hEnt : wF.heap[wB.heap.size]? = some (.cells (entC (newA id st)).toArray 140 (0, 0)) := hfF.keep (hfZ.keep hrE (fun e => by have := hltE _ e; omega)) (by omega)
    have hoF : wF.ownsRow base 136 1 v' (es.length + 1) ((es.map epv).take k ++ .pointer (some ⟨wB.heap.size, 0, none⟩) :: (es.map epv).drop k) := own_fr hoZ hfF (fun b c hb1 hb2 e => by
      rw [e] at hb1
      have := hb1.symm.trans hrZ
      simp at this)
    have hL := load14 hSF h6
    have c1 : wF.cell? ⟨R, 1, none⟩ = some (.int .i64 room) := (cell_of_row wF R 1 _ _ _ hrF).trans rfl
    have z1 : wF.frozen? ⟨R, 1, none⟩ = false := frozen_of_row wF R 1 _ _ hrF
    clear hst hrZ hfF hSZ hfZ hoZ hRY hSY hrY hrE
    have hlenF : wF.heap.size ≥ w.heap.size := hFF.size
    go_wp2
    obtain ⟨U, HU⟩ : ∃ U, Hid (U = wF.drew) := ⟨_, rfl⟩
    have hfU : Fr (fun _ => False) wF U := by rw [HU.out]; exact (Fr.refl _ _).drew
    have hrU := hfU.keep hrF (fun h => h)
    let S2 : World → Prop := fun w' => w'.heap[w.heap.size]? = some (.cells (sagaC id st.length (six st)).toArray 122 (0, 0))
    have hS : S2 U := hfU.keep hSF (fun h => h)
    refine wp_region_held (S := S2) hlift ?_
    change wpAnyH _ _ _ _ S2 _ _ _ (World.drew _)
    rw [← HU.out]
    clear HU
    refine wpAnyH_take (S := S2) (i := 0) (oi := ⟨some 36, .move (.tmp 0), _, _, _, none⟩) (v := .pointer (some ⟨R, 0, none⟩)) rfl (by kernel_rfl) (by kernel_rfl) (by kernel_rfl) (fun _ _ _ h => h) (Or.inl ⟨rfl, fun _ _ => rfl⟩) hS ?_
    simp only [Act.put, List.setIfInBounds_toArray, List.set_cons_zero, List.set_cons_succ]
    refine wpAnyH_take (S := S2) (i := 1) (oi := ⟨some 37, .nilCheck (.tmp 36), _, _, _, none⟩) (v := .pointer (some ⟨R, 0, none⟩)) rfl (by kernel_rfl) (by kernel_rfl) (by kernel_rfl) (fun _ _ _ h => h) (Or.inl ⟨rfl, fun _ _ => by kernel_rfl⟩) hS ?_
    simp only [Act.put, List.setIfInBounds_toArray, List.set_cons_zero, List.set_cons_succ]
    refine wpAnyH_take (S := S2) (i := 2) (oi := ⟨some 38, .fieldAddr 176 (.tmp 37) 1, _, _, _, none⟩) (v := .pointer (some ⟨R, 1, none⟩)) rfl (by kernel_rfl) (by kernel_rfl) (by kernel_rfl) (fun _ _ _ h => h) (Or.inl ⟨rfl, fun _ _ => by kernel_rfl⟩) hS ?_
    simp only [Act.put, List.setIfInBounds_toArray, List.set_cons_zero, List.set_cons_succ]
    refine wpAnyH_take (S := S2) (i := 4) (oi := ⟨some 40, .load 122 (.tmp 3), _, _, _, none⟩) (v := .agg (sagaC id st.length (six st)).toArray) rfl (by kernel_rfl) (by kernel_rfl) (by kernel_rfl) (fun _ _ _ h => h) (Or.inl ⟨rfl, fun w' hs => exec_load 122 (.tmp 3) rfl ⟨w.heap.size, 0, none⟩ rfl (load14 hs h6)⟩) hS ?_
    simp only [Act.put, List.setIfInBounds_toArray, List.set_cons_zero, List.set_cons_succ]
    refine wpAnyH_all (rs := [3, 5]) (by kernel_rfl) (by simp) ?_
    intro ie hie
    have hie' : ie = 3 ∨ ie = 5 := by simpa using hie
    clear hie
    rcases hie' with rfl | rfl
    case' inl =>
      refine wpOp_value (o := ⟨some 39, .load 3 (.tmp 38), _, _, _, none⟩) (v := .int .i64 room) rfl rfl (exec_load 3 (.tmp 38) rfl ⟨R, 1, none⟩ rfl (run_loadAt_one ((cell_of_row _ R 1 _ _ _ hrU).trans rfl) Tryz.underlying3 rfl)) ⟨hS, ?_⟩
      simp only [Act.put, List.setIfInBounds_toArray, List.set_cons_zero, List.set_cons_succ]
      refine wpAnyH_all (rs := [5]) (by kernel_rfl) (by simp) ?_
      intro ig hig
      obtain rfl : ig = 5 := by simpa using hig
      clear hig
      refine wpOp_call (o := ⟨some 41, .call { callee := .value (.func 90), args := #[(.tmp 40)], argTypes := _ }, _, _, _, none⟩) (f := 90) (args := #[.agg (sagaC id st.length (six st)).toArray]) rfl rfl (by kernel_rfl) ?_
      refine (need_ok id st U h6).mono ?_
      rintro e w7 ⟨rfl, hf7⟩
      have hS7 : S2 w7 := hf7.keep hS (fun h => h)
      have hr7 := hf7.keep hrU (fun h => h)
      have hf37 : Fr (fun _ => False) wF w7 := hfU.trans hf7 (fun _ _ h => h)
      refine ⟨_, rfl, hS7, ?_⟩
      simp only [Act.put, List.setIfInBounds_toArray, List.set_cons_zero, List.set_cons_succ]
    case' inr =>
      refine wpOp_call (o := ⟨some 41, .call { callee := .value (.func 90), args := #[(.tmp 40)], argTypes := _ }, _, _, _, none⟩) (f := 90) (args := #[.agg (sagaC id st.length (six st)).toArray]) rfl rfl (by kernel_rfl) ?_
      refine (need_ok id st U h6).mono ?_
      rintro e w7 ⟨rfl, hf7⟩
      have hS7 : S2 w7 := hf7.keep hS (fun h => h)
      have hr7 := hf7.keep hrU (fun h => h)
      have hf37 : Fr (fun _ => False) wF w7 := hfU.trans hf7 (fun _ _ h => h)
      refine ⟨_, rfl, hS7, ?_⟩
      simp only [Act.put, List.setIfInBounds_toArray, List.set_cons_zero, List.set_cons_succ]
      refine wpAnyH_all (rs := [3]) (by kernel_rfl) (by simp) ?_
      intro ig hig
      obtain rfl : ig = 3 := by simpa using hig
      clear hig
      refine wpOp_value (o := ⟨some 39, .load 3 (.tmp 38), _, _, _, none⟩) (v := .int .i64 room) rfl rfl (exec_load 3 (.tmp 38) rfl ⟨R, 1, none⟩ rfl (run_loadAt_one ((cell_of_row _ R 1 _ _ _ hr7).trans rfl) Tryz.underlying3 rfl)) ⟨hS7, ?_⟩
      simp only [Act.put, List.setIfInBounds_toArray, List.set_cons_zero, List.set_cons_succ]
    all_goals
      refine wpAnyH_take (S := S2) (i := 6) (oi := ⟨some 42, .binOp .sub 3 (.tmp 39) (.tmp 41) 3, _, _, _, none⟩) (v := .int .i64 (room - 2 * st.length)) rfl (by kernel_rfl) (by kernel_rfl) (by kernel_rfl) (fun _ _ _ h => h) (Or.inl ⟨rfl, fun w' _ => exec_sub rfl rfl rfl (by omega) (by omega) w'⟩) hS7 ?_
      simp only [Act.put, List.setIfInBounds_toArray, List.set_cons_zero, List.set_cons_succ]
      refine wpAnyH_take (S := S2) (i := 7) (oi := ⟨some 43, .nilCheck (.tmp 36), _, _, _, none⟩) (v := .pointer (some ⟨R, 0, none⟩)) rfl (by kernel_rfl) (by kernel_rfl) (by kernel_rfl) (fun _ _ _ h => h) (Or.inl ⟨rfl, fun _ _ => by kernel_rfl⟩) hS7 ?_
      simp only [Act.put, List.setIfInBounds_toArray, List.set_cons_zero, List.set_cons_succ]
      refine wpAnyH_take (S := S2) (i := 8) (oi := ⟨some 44, .fieldAddr 176 (.tmp 43) 1, _, _, _, none⟩) (v := .pointer (some ⟨R, 1, none⟩)) rfl (by kernel_rfl) (by kernel_rfl) (by kernel_rfl) (fun _ _ _ h => h) (Or.inl ⟨rfl, fun _ _ => by kernel_rfl⟩) hS7 ?_
      simp only [Act.put, List.setIfInBounds_toArray, List.set_cons_zero, List.set_cons_succ]
      refine wpAnyH_all (rs := [9]) (by kernel_rfl) (by simp) ?_
      intro i9 hi9
      obtain rfl : i9 = 9 := by simpa using hi9
      have hst9 := run_storeAt_one (P := Tryz.prog) (w := w7) (a := ⟨R, 1, none⟩) (t := 3) (v := .int .i64 (room - 2 * st.length)) ((cell_of_row w7 R 1 _ _ _ hr7).trans rfl) (frozen_of_row w7 R 1 _ _ hr7) (by kernel_rfl) rfl
      have hr9 : (w7.setCell ⟨R, 1, none⟩ (.int .i64 (room - 2 * st.length))).heap[R]? = some (.cells #[v', .int .i64 (room - 2 * st.length)] 176 (0, 0)) := by rw [heap_setCell_at _ _ _ _ _ _ hr7]; rfl
      have hf9 : Fr (fun b => b = R) w7 (w7.setCell ⟨R, 1, none⟩ (.int .i64 (room - 2 * st.length))) := Fr.set1 _ _ _ _
      obtain ⟨w9, HW9⟩ : ∃ w9, Hid (w9 = w7.setCell ⟨R, 1, none⟩ (.int .i64 (room - 2 * st.length))) := ⟨_, rfl⟩
      rw [← HW9.out] at hst9 hr9 hf9
      clear HW9
      have hS9 : S2 w9 := hf9.keep hS7 (by omega)
      refine wpOp_skip (o := ⟨none, .store 3 (.tmp 44) (.tmp 42), _, _, _, none⟩) (w' := w9) rfl rfl (exec_store 3 _ _ rfl ⟨R, 1, none⟩ _ rfl rfl hst9) ⟨hS9, ?_⟩
      simp only [Act.put]
      refine wpAnyH_done (by kernel_rfl) ?_ _
      have hf39 : Fr (fun b => b = R) wF w9 := (hf37.mono (fun _ _ h => h.elim)).trans hf9 (fun _ _ h => h)
      have hFin : Fr (fun b => b = R ∨ ev.ownBlock = some b) w w9 := hFF.trans hf39 (fun _ _ h => .inl h)
      obtain ⟨e1, e2⟩ := placed_split hp
      have HQ : Hid (RollAt w9 R base (room - 2 * st.length) v' (insE (wB.heap.size, newA id st) es)) := by
        refine ⟨hr9, ?_, ?_⟩
        · unfold insE
          rw [show (wB.heap.size, newA id st).2.id = id from rfl, e1, e2]
          have hlen : (es.take k ++ (wB.heap.size, newA id st) :: es.drop k).length = es.length + 1 := by
            have := hp.1
            simp [idsOf] at this
            simp
            omega
          rw [hlen, List.map_append, List.map_cons, List.map_take, List.map_drop]
          exact own_fr hoF hf39 (fun b c hb1 _ e => by
            rw [e] at hb1
            have := hb1.symm.trans hrF
            simp at this)
        · intro p hp1
          have hmem : p = (wB.heap.size, newA id st) ∨ p ∈ es := by
            simp only [insE, List.mem_append, List.mem_cons] at hp1
            rcases hp1 with h1 | h1 | h1
            · exact .inr (List.takeWhile_subset _ h1)
            · exact .inl h1
            · exact .inr (List.dropWhile_subset _ h1)
          rcases hmem with rfl | hpe
          · exact ⟨by show base ≤ wB.heap.size; omega, hf39.keep hEnt (by omega)⟩
          · exact ⟨(h.e p hpe).1, hFin.keep (h.e p hpe).2 (by rintro (e | e); exact hRe p hpe e; exact hse p hpe e)⟩
      have hown : ∀ b, v'.ownBlock = some b → ev.ownBlock = some b ∨ w.heap.size ≤ b := fun b hb1 => by
        rcases hbZ b hb1 with h1 | h1
        · exact .inl h1
        · exact .inr (by omega)
      clear hst9 hr9 hf9 hS9 hf39
      go_wp2
      go_ret
      exact ⟨_, _, rfl, HQ.out, hlB, hFin, hown⟩
end
end Go.Proofs.YteebjgfalllbjaaGreatDoor
namespace Go.Proofs.YteebjgfalllbjaaGreatDoor
open Go.RowKit
theorem saga_box (w : World) (id : Int) (st : List SS) (h6 : st.length ≤ 6) : ∃ WS, (Instr.storeAt 122 (.pointer (some ⟨w.heap.size, 0, none⟩)) (.agg (sagaC id st.length (six st)).toArray)).run Tryz.prog (w.alloc (.cells noS.toArray 122)) = .ok () WS ∧ WS.heap[w.heap.size]? = some (.cells (sagaC id st.length (six st)).toArray 122 (0, 0)) ∧ Fr (fun _ => False) w WS := by
  have hl := sagaC_len id st.length _ (six_len _ h6)
  have zr := heap_alloc_at w (.cells noS.toArray 122)
  exact ⟨_, run_store14 zr noS_len hl (sagaC_one _ _ _), setRow_heap _ _ _ _ _ _ zr, Fr.setRow (S := fun _ => False) ((Fr.refl _ _).alloc _) _ (fun h => by omega) _⟩
theorem blk_kind (id : Nat) (st : List SS) (h6 : st.length ≤ 6) (h8 : ∀ p ∈ st, p.1.size ≤ 8 ∧ p.2.size ≤ 8) : (ldB 2 (bodyS id st.length (six st) 6) 4)[0]? = some (.int .u8 2) := by
  have hbl : (bodyS id st.length (six st) 6).length = 124 := bodyS_len id st.length (six st) (six_ok h8) 6 (by rw [six_len _ h6]; omega) (by omega)
  exact ldB_kind 2 _ hbl 0 (by omega)
set_option maxRecDepth 100000 in
set_option maxHeartbeats 1000000 in
theorem rcRead_ok {w : World} {R : Nat} {Q : World → Prop} {fv : Fn} {fa fc : Array Value} (id : Nat) (st : List SS) (hok : sagaOk id st = true) (HT : ∀ w', Fr (fun _ => False) w w' → Calls Tryz.prog 63 #[.pointer (some ⟨R, 0, none⟩), .agg (sagaC id st.length (six st)).toArray] w' fun e w'' => e = .returned (.bool true) ∧ Q w'') :
    Calls Tryz.prog 116 #[.agg (ldB 2 (bodyS id st.length (six st) 6) 4).toArray, .func (.func 63) #[.pointer (some ⟨R, 0, none⟩)] #[], .func fv fa fc] w fun e w' => e = .returned (.bool true) ∧ Q w' := by
  obtain ⟨hid1, hid2, hn1, h6, h8⟩ : (1 : Int) ≤ id ∧ (id : Int) ≤ 1000 ∧ 1 ≤ st.length ∧ st.length ≤ 6 ∧ ∀ p ∈ st, p.1.size ≤ 8 ∧ p.2.size ≤ 8 := of_decide_eq_true hok
  have hbl : (bodyS id st.length (six st) 6).length = 124 := bodyS_len id st.length (six st) (six_ok h8) 6 (by rw [six_len _ h6]; omega) (by omega)
  have hll : (ldB 2 (bodyS id st.length (six st) 6) 4).length = 128 := ldB_len 2 _ hbl 4 (by omega)
  have hk := blk_kind id st h6 h8
  have HS := fun w' => readSaga_ok w' id st hok
  obtain ⟨blk, HB⟩ : ∃ blk, Hid (blk = ldB 2 (bodyS id st.length (six st) 6) 4) := ⟨_, rfl⟩
  rw [← HB.out] at hll hk HS ⊢
  have hrow := heap_alloc_at w (.cells blk.toArray 130)
  have hfa : Fr (fun _ => False) w (w.alloc (.cells blk.toArray 130)) := (Fr.refl _ _).alloc _
  have c0 : (w.alloc (.cells blk.toArray 130)).cell? ⟨w.heap.size, 0, none⟩ = some (.int .u8 2) := (cell_of_row _ _ 0 _ _ _ hrow).trans (by rw [List.getElem?_toArray]; exact hk)
  have hM : (w.alloc (.cells blk.toArray 130)).rangeAt w.heap.size 0 blk := fun j v hv => (cell_of_row _ _ (0 + j) _ _ _ hrow).trans (by simpa using hv)
  go_enter Tryz.func116, Tryz.ntmps116
  go_wp2_with (first | (refine wpList_load_mid rfl 130 _ rfl w.heap.size 0 ?_ _ _ hM Tryz.underlying130 rfl ?_ ?_; rfl; (rw [block_size, hll])))
  refine (HS _).mono ?_
  rintro e w2 ⟨rfl, hf2⟩
  have hF2 : Fr (fun _ => False) w w2 := hfa.trans hf2 (fun _ _ h => h)
  clear hrow hfa c0 hM hf2 HS
  obtain ⟨WS, hst, hrS, hfS⟩ := saga_box w2 id st h6
  have hFS : Fr (fun _ => False) w WS := hF2.trans hfS (fun _ _ h => h)
  have hL := load14 hrS h6
  have HT' := HT WS hFS
  clear hF2 hfS HT
  go_wp2_with (first | (refine wpList_store 122 (w' := WS) _ _ rfl rfl ?_ ?_; exact hst) | (refine wpList_wanted ?_ (exec_load 122 (.tmp 9) rfl ⟨w2.heap.size, 0, none⟩ rfl hL) ?_; (first | rfl | kernel_rfl | simp [Region.wanted, yielded])))
  refine HT'.mono ?_
  rintro e w5 ⟨rfl, hQ⟩
  have HQ : Hid (Q w5) := hQ
  clear hQ HT' hL hst hrS hFS
  go_wp2
  go_ret
  exact ⟨rfl, HQ.out⟩
set_option maxRecDepth 100000 in
theorem Find11_ok {w : World} {R X3 X4 : Nat} {Q : World → Prop} {fv : Fn} {fa fc : Array Value} (id : Nat) (st : List SS) (hok : sagaOk id st = true)
    (h3 : w.heap[X3]? = some (.cells #[.func (.func 63) #[.pointer (some ⟨R, 0, none⟩)] #[]] 127 (0, 0))) (h4 : w.heap[X4]? = some (.cells #[.func fv fa fc] 162 (0, 0)))
    (HT : ∀ w', Fr (fun _ => False) w w' → Calls Tryz.prog 63 #[.pointer (some ⟨R, 0, none⟩), .agg (sagaC id st.length (six st)).toArray] w' fun e w'' => e = .returned (.bool true) ∧ Q w'') :
    Calls Tryz.prog 115 #[.agg (ldB 2 (bodyS id st.length (six st) 6) 4).toArray, .pointer (some ⟨X3, 0, none⟩), .pointer (some ⟨X4, 0, none⟩)] w fun e w' => e = .returned (.bool true) ∧ Q w' := by
  obtain ⟨hid1, hid2, hn1, h6, h8⟩ : (1 : Int) ≤ id ∧ (id : Int) ≤ 1000 ∧ 1 ≤ st.length ∧ st.length ≤ 6 ∧ ∀ p ∈ st, p.1.size ≤ 8 ∧ p.2.size ≤ 8 := of_decide_eq_true hok
  have hbl : (bodyS id st.length (six st) 6).length = 124 := bodyS_len id st.length (six st) (six_ok h8) 6 (by rw [six_len _ h6]; omega) (by omega)
  have hll : (ldB 2 (bodyS id st.length (six st) 6) 4).length = 128 := ldB_len 2 _ hbl 4 (by omega)
  have HR : ∀ W, Fr (fun _ => False) w W → Calls Tryz.prog 116 #[.agg (ldB 2 (bodyS id st.length (six st) 6) 4).toArray, .func (.func 63) #[.pointer (some ⟨R, 0, none⟩)] #[], .func fv fa fc] W fun e w' => e = .returned (.bool true) ∧ Q w' := fun W hf => rcRead_ok id st hok (fun w' hf' => HT w' (hf.trans hf' (fun _ _ h => h)))
  obtain ⟨blk, HB⟩ : ∃ blk, Hid (blk = ldB 2 (bodyS id st.length (six st) 6) 4) := ⟨_, rfl⟩
  rw [← HB.out] at hll HR ⊢
  have hrow := heap_alloc_at w (.cells blk.toArray 130)
  have hfa : Fr (fun _ => False) w (w.alloc (.cells blk.toArray 130)) := (Fr.refl _ _).alloc _
  have hM : (w.alloc (.cells blk.toArray 130)).rangeAt w.heap.size 0 blk := fun j v hv => (cell_of_row _ _ (0 + j) _ _ _ hrow).trans (by simpa using hv)
  have c3 : (w.alloc (.cells blk.toArray 130)).cell? ⟨X3, 0, none⟩ = some (.func (.func 63) #[.pointer (some ⟨R, 0, none⟩)] #[]) := (cell_of_row _ _ 0 _ _ _ (hfa.keep h3 (fun h => h))).trans rfl
  have c4 : (w.alloc (.cells blk.toArray 130)).cell? ⟨X4, 0, none⟩ = some (.func fv fa fc) := (cell_of_row _ _ 0 _ _ _ (hfa.keep h4 (fun h => h))).trans rfl
  have HR' := HR _ hfa
  clear HR HT
  go_enter Tryz.func115, Tryz.ntmps115
  go_wp2_with (first | (refine wpList_load_mid rfl 130 _ rfl w.heap.size 0 ?_ _ _ hM Tryz.underlying130 rfl ?_ ?_; rfl; (rw [block_size, hll])))
  refine HR'.mono ?_
  rintro e w5 ⟨rfl, hQ⟩
  have HQ : Hid (Q w5) := hQ
  clear hQ HR' hrow hfa hM c3 c4
  go_wp2
  go_ret
  exact ⟨rfl, HQ.out⟩
end Go.Proofs.YteebjgfalllbjaaGreatDoor
namespace Go.Proofs.YteebjgfalllbjaaGreatDoor
open Go.RowKit
theorem exec_build0 {ρ : Operand → Value} {o : Oper} (ho : o.op = .build 130 #[]) (w : World) : (execOp ρ o).run Tryz.prog w = .ok (.value (.agg zB.toArray)) w := by
  simp only [execOp, ho]
  kernel_rfl
set_option maxRecDepth 100000 in
set_option maxHeartbeats 1000000 in
theorem Settle1_ok {w : World} {X J V A B n e : Nat} {calls writes : Int} {bs : List Value} (hx : w.heap[X]? = some (.cells #[.pointer (some ⟨J, 0, none⟩)] 87 (0, 0))) (hj : JAt w J V e false) (hv : VolAt w V A n) (hd : DiskAt w A B n (.slice none 0 0) calls writes) (hr : RowsAt w B n bs) (h0 : 0 ≤ calls) (h1 : calls < 95000000) (h2 : 0 ≤ writes) (h3 : writes < 95000000) (he : e < n) : Calls Tryz.prog 138 #[.pointer (some ⟨X, 0, none⟩)] w fun e' w' => e' = .returned .nilIface ∧ JAt w' J V e true ∧ VolAt w' V A n ∧ DiskAt w' A B n (.slice none 0 0) (calls + 2) (writes + 1) ∧ RowsAt w' B n (splice bs (e * 128) zB) ∧ Fr (fun b => b = A ∨ b = B ∨ b = J) w w' := by
  have hlift : Tryz.prog.follows .mixedOrders = true := by kernel_rfl
  have nVA : V ≠ A := hv.ne hd
  have nJA : J ≠ A := fun e => by have := hj; rw [e] at this; have := this.symm.trans hd; simp [dcells] at this
  have nJB : J ≠ B := fun e => by have := hj; rw [e] at this; have := this.symm.trans hr.1; simp at this
  have nJV : J ≠ V := fun e => by have := hj; rw [e] at this; have := this.symm.trans hv; simp at this
  have nAB : A ≠ B := fun e => by have := hd; rw [e] at this; have := this.symm.trans hr.1; simp [dcells] at this
  have nVB : V ≠ B := fun e => by have := hv; rw [e] at this; have := this.symm.trans hr.1; simp at this
  have nXA : X ≠ A := fun e => by have := hx; rw [e] at this; have := this.symm.trans hd; simp [dcells] at this
  have nXB : X ≠ B := fun e => by have := hx; rw [e] at this; have := this.symm.trans hr.1; simp at this
  go_enter Tryz.func138, Tryz.ntmps138
  go_wp2
  obtain ⟨W, HW⟩ : ∃ W, Hid (W = w.drew) := ⟨_, rfl⟩
  have hfW : Fr (fun _ => False) w W := by rw [HW.out]; exact (Fr.refl _ _).drew
  let S : World → Prop := fun w' => w'.cell? ⟨X, 0, none⟩ = some (.pointer (some ⟨J, 0, none⟩)) ∧ w'.cell? ⟨J, 0, none⟩ = some (.pointer (some ⟨V, 0, none⟩)) ∧ w'.cell? ⟨J, 1, none⟩ = some (.int .i64 e)
  have hS : S W := ⟨(cell_of_row W X 0 _ _ _ (hfW.keep hx (fun h => h))).trans rfl, (hj.fr hfW id).c0, (hj.fr hfW id).c1⟩
  refine wp_region_held (S := S) hlift ?_
  change wpAnyH _ _ _ _ S _ _ _ (World.drew _)
  rw [← HW.out]
  clear HW
  refine wpAnyH_take (S := S) (i := 0) (oi := ⟨some 2, .load 87 (.tmp 0), _, _, _, none⟩) (v := .pointer (some ⟨J, 0, none⟩)) rfl (by kernel_rfl) (by kernel_rfl) (by kernel_rfl) (fun _ _ _ h => h) (Or.inl ⟨rfl, fun w' hs => exec_load 87 (.tmp 0) rfl ⟨X, 0, none⟩ rfl (run_loadAt_one hs.1 Tryz.underlying87 rfl)⟩) hS ?_
  simp only [Act.put, List.setIfInBounds_toArray, List.set_cons_zero, List.set_cons_succ]
  refine wpAnyH_take (S := S) (i := 1) (oi := ⟨some 3, .nilCheck (.tmp 2), _, _, _, none⟩) (v := .pointer (some ⟨J, 0, none⟩)) rfl (by kernel_rfl) (by kernel_rfl) (by kernel_rfl) (fun _ _ _ h => h) (Or.inl ⟨rfl, fun _ _ => by kernel_rfl⟩) hS ?_
  simp only [Act.put, List.setIfInBounds_toArray, List.set_cons_zero, List.set_cons_succ]
  refine wpAnyH_take (S := S) (i := 2) (oi := ⟨some 4, .fieldAddr 179 (.tmp 3) 0, _, _, _, none⟩) (v := .pointer (some ⟨J, 0, none⟩)) rfl (by kernel_rfl) (by kernel_rfl) (by kernel_rfl) (fun _ _ _ h => h) (Or.inl ⟨rfl, fun _ _ => by kernel_rfl⟩) hS ?_
  simp only [Act.put, List.setIfInBounds_toArray, List.set_cons_zero, List.set_cons_succ]
  refine wpAnyH_take (S := S) (i := 3) (oi := ⟨some 5, .load 155 (.tmp 4), _, _, _, none⟩) (v := .pointer (some ⟨V, 0, none⟩)) rfl (by kernel_rfl) (by kernel_rfl) (by kernel_rfl) (fun _ _ _ h => h) (Or.inl ⟨rfl, fun w' hs => exec_load 155 (.tmp 4) rfl ⟨J, 0, none⟩ rfl (run_loadAt_one hs.2.1 Tryz.underlying155 rfl)⟩) hS ?_
  simp only [Act.put, List.setIfInBounds_toArray, List.set_cons_zero, List.set_cons_succ]
  refine wpAnyH_take (S := S) (i := 4) (oi := ⟨some 6, .load 87 (.tmp 0), _, _, _, none⟩) (v := .pointer (some ⟨J, 0, none⟩)) rfl (by kernel_rfl) (by kernel_rfl) (by kernel_rfl) (fun _ _ _ h => h) (Or.inl ⟨rfl, fun w' hs => exec_load 87 (.tmp 0) rfl ⟨X, 0, none⟩ rfl (run_loadAt_one hs.1 Tryz.underlying87 rfl)⟩) hS ?_
  simp only [Act.put, List.setIfInBounds_toArray, List.set_cons_zero, List.set_cons_succ]
  refine wpAnyH_take (S := S) (i := 5) (oi := ⟨some 7, .nilCheck (.tmp 6), _, _, _, none⟩) (v := .pointer (some ⟨J, 0, none⟩)) rfl (by kernel_rfl) (by kernel_rfl) (by kernel_rfl) (fun _ _ _ h => h) (Or.inl ⟨rfl, fun _ _ => by kernel_rfl⟩) hS ?_
  simp only [Act.put, List.setIfInBounds_toArray, List.set_cons_zero, List.set_cons_succ]
  refine wpAnyH_take (S := S) (i := 6) (oi := ⟨some 8, .fieldAddr 179 (.tmp 7) 1, _, _, _, none⟩) (v := .pointer (some ⟨J, 1, none⟩)) rfl (by kernel_rfl) (by kernel_rfl) (by kernel_rfl) (fun _ _ _ h => h) (Or.inl ⟨rfl, fun _ _ => by kernel_rfl⟩) hS ?_
  simp only [Act.put, List.setIfInBounds_toArray, List.set_cons_zero, List.set_cons_succ]
  refine wpAnyH_take (S := S) (i := 7) (oi := ⟨some 9, .load 3 (.tmp 8), _, _, _, none⟩) (v := .int .i64 e) rfl (by kernel_rfl) (by kernel_rfl) (by kernel_rfl) (fun _ _ _ h => h) (Or.inl ⟨rfl, fun w' hs => exec_load 3 (.tmp 8) rfl ⟨J, 1, none⟩ rfl (run_loadAt_one hs.2.2 Tryz.underlying3 rfl)⟩) hS ?_
  simp only [Act.put, List.setIfInBounds_toArray, List.set_cons_zero, List.set_cons_succ]
  refine wpAnyH_take (S := S) (i := 8) (oi := ⟨some 10, .build 130 #[], _, _, _, none⟩) (v := .agg zB.toArray) rfl (by kernel_rfl) (by kernel_rfl) (by kernel_rfl) (fun _ _ _ h => h) (Or.inl ⟨rfl, fun w' _ => exec_build0 rfl w'⟩) hS ?_
  simp only [Act.put, List.setIfInBounds_toArray, List.set_cons_zero, List.set_cons_succ]
  refine wpAnyH_all (rs := [9]) (by kernel_rfl) (by simp) ?_
  intro i9 hi9
  obtain rfl : i9 = 9 := by simpa using hi9
  refine wpOp_call (o := ⟨some 11, .call { callee := .value (.func 94), args := #[(.tmp 5), (.tmp 9), (.tmp 10)], argTypes := _ }, _, _, _, none⟩) (f := 94) (args := #[.pointer (some ⟨V, 0, none⟩), .int .i64 e, .agg zB.toArray]) rfl rfl (by kernel_rfl) ?_
  refine (Store_ok (hv.fr hfW id) (hd.fr hfW id) h0 (by omega) h2 (by omega) (base := W.heap.size) (k := 0) (xs := []) (World.ownsRow_nil _ _ _ _) (by decide) (Nat.le_refl _) e he zB zB_len zB_one).mono ?_
  rintro e' w1 ⟨rfl, cache1, hd1, ho1, hf1⟩
  have hno : ∀ b, ¬ ((Value.slice none 0 0).ownBlock = some b) := fun b h => by cases h
  have k1 : ∀ {b : Nat} {o : Obj}, w.heap[b]? = some o → b ≠ A → w1.heap[b]? = some o := fun hb hbA => hf1.keep (hfW.keep hb (fun h => h)) (by rintro (h | h); exact hbA h; exact hno _ h)
  have x1 := k1 hx nXA
  have j1 : JAt w1 J V e false := k1 hj nJA
  have v1 : VolAt w1 V A n := k1 hv nVA
  have r1 : RowsAt w1 B n bs := ⟨k1 hr.1 nAB.symm, hr.2⟩
  have hF1 : Fr (fun b => b = A ∨ b = B ∨ b = J) w w1 := (hfW.mono (fun _ _ h => h.elim)).trans hf1 (fun b _ h => by rcases h with h | h; exact .inl h; exact absurd h (hno b))
  refine ⟨_, rfl, ?_, ?_⟩
  · exact ⟨(cell_of_row w1 X 0 _ _ _ x1).trans rfl, j1.c0, j1.c1⟩
  simp only [Act.put, List.setIfInBounds_toArray, List.set_cons_zero, List.set_cons_succ]
  refine wpAnyH_done (by kernel_rfl) ?_ _
  have cx1 : w1.cell? ⟨X, 0, none⟩ = some (.pointer (some ⟨J, 0, none⟩)) := (cell_of_row w1 X 0 _ _ _ x1).trans rfl
  have c01 := j1.c0
  clear hS
  go_wp2_with fail
  refine (Secure_ok v1 hd1 r1 (by omega) (by omega) (k := 1) (ents := [(e, zB)]) (base := W.heap.size) (by simpa [flat] using ho1) (by decide) (by decide) (by simpa using zB_len) (by simpa using zB_one) (by simpa using he)).mono ?_
  rintro e' w2 ⟨rfl, hd2, hr2, hf2⟩
  have x2 := hf2.keep x1 (by rintro (h | h); exact nXA h; exact nXB h)
  have j2 : JAt w2 J V e false := hf2.keep j1 (by rintro (h | h); exact nJA h; exact nJB h)
  have v2 : VolAt w2 V A n := hf2.keep v1 (by rintro (h | h); exact nVA h; exact nVB h)
  have hF2 : Fr (fun b => b = A ∨ b = B ∨ b = J) w w2 := hF1.trans hf2 (fun b _ h => by rcases h with h | h; exact .inl h; exact .inr (.inl h))
  rw [lain_one] at hr2
  have ecalls : calls + 1 + 1 = calls + 2 := by omega
  rw [ecalls] at hd2
  have cx2 : w2.cell? ⟨X, 0, none⟩ = some (.pointer (some ⟨J, 0, none⟩)) := (cell_of_row w2 X 0 _ _ _ x2).trans rfl
  have c12 := j2.c1
  have c22 := j2.c2
  have z12 := j2.fz 1
  have z22 := j2.fz 2
  have jE := j2.set2 true
  have hfE : Fr (fun b => b = J) w2 (w2.setCell ⟨J, 2, none⟩ (.bool true)) := Fr.set1 _ _ _ _
  obtain ⟨wE, HWE⟩ : ∃ wE, Hid (wE = w2.setCell ⟨J, 2, none⟩ (.bool true)) := ⟨_, rfl⟩
  rw [← HWE.out] at jE hfE
  have HF : Hid (VolAt wE V A n ∧ DiskAt wE A B n (.slice none 0 0) (calls + 2) (writes + 1) ∧ RowsAt wE B n (splice bs (e * 128) zB) ∧ Fr (fun b => b = A ∨ b = B ∨ b = J) w wE) := by
    refine ⟨?_, ?_, ⟨?_, hr2.2⟩, ?_⟩
    · exact hfE.keep v2 (by omega)
    · exact hd2.fr hfE (by omega)
    · exact hfE.keep hr2.1 (by omega)
    · exact hF2.trans hfE (fun _ _ h => .inr (.inr h))
  clear hd1 ho1 hf1 k1 hr2 hf2 hd2 hF1 hF2 hfE v2 v1 r1 x1 x2 j1
  go_wp2
  rw [← HWE.out]
  go_ret
  exact ⟨rfl, jE, HF.out.1, HF.out.2.1, HF.out.2.2.1, HF.out.2.2.2⟩
set_option maxRecDepth 100000 in
set_option maxHeartbeats 1000000 in
theorem Add1_ok {w : World} {X X2 J V A B n e : Nat} {calls writes : Int} {bs blk : List Value} (hx : w.heap[X]? = some (.cells #[.pointer (some ⟨J, 0, none⟩)] 87 (0, 0))) (hx2 : w.heap[X2]? = some (.cells blk.toArray 130 (0, 0))) (nX2A : X2 ≠ A) (hl : blk.length = 128) (hb1 : ∀ v ∈ blk, v.oneCell' = true) (hj : JAt w J V e true) (hv : VolAt w V A n) (hd : DiskAt w A B n (.slice none 0 0) calls writes) (hr : RowsAt w B n bs) (h0 : 0 ≤ calls) (h1 : calls < 95000000) (h2 : 0 ≤ writes) (h3 : writes < 95000000) (he : e < n) (hn : n ≤ 400) : Calls Tryz.prog 93 #[.pointer (some ⟨X, 0, none⟩), .pointer (some ⟨X2, 0, none⟩)] w fun e' w' => e' = .returned .nilIface ∧ JAt w' J V ((e : Int) + 1) true ∧ VolAt w' V A n ∧ DiskAt w' A B n (.slice none 0 0) (calls + 2) (writes + 1) ∧ RowsAt w' B n (splice bs (e * 128) blk) ∧ Fr (fun b => b = A ∨ b = B ∨ b = J) w w' := by
  have hlift : Tryz.prog.follows .mixedOrders = true := by kernel_rfl
  have nVA : V ≠ A := hv.ne hd
  have nJA : J ≠ A := fun e => by have := hj; rw [e] at this; have := this.symm.trans hd; simp [dcells] at this
  have nJB : J ≠ B := fun e => by have := hj; rw [e] at this; have := this.symm.trans hr.1; simp at this
  have nJV : J ≠ V := fun e => by have := hj; rw [e] at this; have := this.symm.trans hv; simp at this
  have nAB : A ≠ B := fun e => by have := hd; rw [e] at this; have := this.symm.trans hr.1; simp [dcells] at this
  have nVB : V ≠ B := fun e => by have := hv; rw [e] at this; have := this.symm.trans hr.1; simp at this
  have nXA : X ≠ A := fun e => by have := hx; rw [e] at this; have := this.symm.trans hd; simp [dcells] at this
  have nXB : X ≠ B := fun e => by have := hx; rw [e] at this; have := this.symm.trans hr.1; simp at this
  go_enter Tryz.func93, Tryz.ntmps93
  go_wp2
  obtain ⟨W, HW⟩ : ∃ W, Hid (W = w.drew) := ⟨_, rfl⟩
  have hfW : Fr (fun _ => False) w W := by rw [HW.out]; exact (Fr.refl _ _).drew
  let S : World → Prop := fun w' => w'.cell? ⟨X, 0, none⟩ = some (.pointer (some ⟨J, 0, none⟩)) ∧ w'.cell? ⟨J, 0, none⟩ = some (.pointer (some ⟨V, 0, none⟩)) ∧ w'.cell? ⟨J, 1, none⟩ = some (.int .i64 e) ∧ w'.heap[X2]? = some (.cells blk.toArray 130 (0, 0))
  have hS : S W := ⟨(cell_of_row W X 0 _ _ _ (hfW.keep hx (fun h => h))).trans rfl, (hj.fr hfW id).c0, (hj.fr hfW id).c1, hfW.keep hx2 (fun h => h)⟩
  refine wp_region_held (S := S) hlift ?_
  change wpAnyH _ _ _ _ S _ _ _ (World.drew _)
  rw [← HW.out]
  clear HW
  refine wpAnyH_take (S := S) (i := 0) (oi := ⟨some 3, .load 87 (.tmp 0), _, _, _, none⟩) (v := .pointer (some ⟨J, 0, none⟩)) rfl (by kernel_rfl) (by kernel_rfl) (by kernel_rfl) (fun _ _ _ h => h) (Or.inl ⟨rfl, fun w' hs => exec_load 87 (.tmp 0) rfl ⟨X, 0, none⟩ rfl (run_loadAt_one hs.1 Tryz.underlying87 rfl)⟩) hS ?_
  simp only [Act.put, List.setIfInBounds_toArray, List.set_cons_zero, List.set_cons_succ]
  refine wpAnyH_take (S := S) (i := 1) (oi := ⟨some 4, .nilCheck (.tmp 3), _, _, _, none⟩) (v := .pointer (some ⟨J, 0, none⟩)) rfl (by kernel_rfl) (by kernel_rfl) (by kernel_rfl) (fun _ _ _ h => h) (Or.inl ⟨rfl, fun _ _ => by kernel_rfl⟩) hS ?_
  simp only [Act.put, List.setIfInBounds_toArray, List.set_cons_zero, List.set_cons_succ]
  refine wpAnyH_take (S := S) (i := 2) (oi := ⟨some 5, .fieldAddr 179 (.tmp 4) 0, _, _, _, none⟩) (v := .pointer (some ⟨J, 0, none⟩)) rfl (by kernel_rfl) (by kernel_rfl) (by kernel_rfl) (fun _ _ _ h => h) (Or.inl ⟨rfl, fun _ _ => by kernel_rfl⟩) hS ?_
  simp only [Act.put, List.setIfInBounds_toArray, List.set_cons_zero, List.set_cons_succ]
  refine wpAnyH_take (S := S) (i := 3) (oi := ⟨some 6, .load 155 (.tmp 5), _, _, _, none⟩) (v := .pointer (some ⟨V, 0, none⟩)) rfl (by kernel_rfl) (by kernel_rfl) (by kernel_rfl) (fun _ _ _ h => h) (Or.inl ⟨rfl, fun w' hs => exec_load 155 (.tmp 5) rfl ⟨J, 0, none⟩ rfl (run_loadAt_one hs.2.1 Tryz.underlying155 rfl)⟩) hS ?_
  simp only [Act.put, List.setIfInBounds_toArray, List.set_cons_zero, List.set_cons_succ]
  refine wpAnyH_take (S := S) (i := 4) (oi := ⟨some 7, .load 87 (.tmp 0), _, _, _, none⟩) (v := .pointer (some ⟨J, 0, none⟩)) rfl (by kernel_rfl) (by kernel_rfl) (by kernel_rfl) (fun _ _ _ h => h) (Or.inl ⟨rfl, fun w' hs => exec_load 87 (.tmp 0) rfl ⟨X, 0, none⟩ rfl (run_loadAt_one hs.1 Tryz.underlying87 rfl)⟩) hS ?_
  simp only [Act.put, List.setIfInBounds_toArray, List.set_cons_zero, List.set_cons_succ]
  refine wpAnyH_take (S := S) (i := 5) (oi := ⟨some 8, .nilCheck (.tmp 7), _, _, _, none⟩) (v := .pointer (some ⟨J, 0, none⟩)) rfl (by kernel_rfl) (by kernel_rfl) (by kernel_rfl) (fun _ _ _ h => h) (Or.inl ⟨rfl, fun _ _ => by kernel_rfl⟩) hS ?_
  simp only [Act.put, List.setIfInBounds_toArray, List.set_cons_zero, List.set_cons_succ]
  refine wpAnyH_take (S := S) (i := 6) (oi := ⟨some 9, .fieldAddr 179 (.tmp 8) 1, _, _, _, none⟩) (v := .pointer (some ⟨J, 1, none⟩)) rfl (by kernel_rfl) (by kernel_rfl) (by kernel_rfl) (fun _ _ _ h => h) (Or.inl ⟨rfl, fun _ _ => by kernel_rfl⟩) hS ?_
  simp only [Act.put, List.setIfInBounds_toArray, List.set_cons_zero, List.set_cons_succ]
  refine wpAnyH_take (S := S) (i := 7) (oi := ⟨some 10, .load 3 (.tmp 9), _, _, _, none⟩) (v := .int .i64 e) rfl (by kernel_rfl) (by kernel_rfl) (by kernel_rfl) (fun _ _ _ h => h) (Or.inl ⟨rfl, fun w' hs => exec_load 3 (.tmp 9) rfl ⟨J, 1, none⟩ rfl (run_loadAt_one hs.2.2.1 Tryz.underlying3 rfl)⟩) hS ?_
  simp only [Act.put, List.setIfInBounds_toArray, List.set_cons_zero, List.set_cons_succ]
  refine wpAnyH_take (S := S) (i := 8) (oi := ⟨some 11, .load 130 (.tmp 1), _, _, _, none⟩) (v := .agg blk.toArray) rfl (by kernel_rfl) (by kernel_rfl) (by kernel_rfl) (fun _ _ _ h => h) (Or.inl ⟨rfl, fun w' hs => exec_load 130 (.tmp 1) rfl ⟨X2, 0, none⟩ rfl (run_loadAt_mid w' X2 0 130 blk _ (fun j v hv => (cell_of_row w' _ (0 + j) _ _ _ hs.2.2.2).trans (by simpa using hv)) Tryz.underlying130 rfl (by rw [block_size, hl]))⟩) hS ?_
  simp only [Act.put, List.setIfInBounds_toArray, List.set_cons_zero, List.set_cons_succ]
  refine wpAnyH_all (rs := [9]) (by kernel_rfl) (by simp) ?_
  intro i9 hi9
  obtain rfl : i9 = 9 := by simpa using hi9
  refine wpOp_call (o := ⟨some 12, .call { callee := .value (.func 94), args := #[(.tmp 6), (.tmp 10), (.tmp 11)], argTypes := _ }, _, _, _, none⟩) (f := 94) (args := #[.pointer (some ⟨V, 0, none⟩), .int .i64 e, .agg blk.toArray]) rfl rfl (by kernel_rfl) ?_
  refine (Store_ok (hv.fr hfW id) (hd.fr hfW id) h0 (by omega) h2 (by omega) (base := W.heap.size) (k := 0) (xs := []) (World.ownsRow_nil _ _ _ _) (by decide) (Nat.le_refl _) e he blk hl hb1).mono ?_
  rintro e' w1 ⟨rfl, cache1, hd1, ho1, hf1⟩
  have hno : ∀ b, ¬ ((Value.slice none 0 0).ownBlock = some b) := fun b h => by cases h
  have k1 : ∀ {b : Nat} {o : Obj}, w.heap[b]? = some o → b ≠ A → w1.heap[b]? = some o := fun hb hbA => hf1.keep (hfW.keep hb (fun h => h)) (by rintro (h | h); exact hbA h; exact hno _ h)
  have x1 := k1 hx nXA
  have j1 : JAt w1 J V e true := k1 hj nJA
  have v1 : VolAt w1 V A n := k1 hv nVA
  have r1 : RowsAt w1 B n bs := ⟨k1 hr.1 nAB.symm, hr.2⟩
  have hF1 : Fr (fun b => b = A ∨ b = B ∨ b = J) w w1 := (hfW.mono (fun _ _ h => h.elim)).trans hf1 (fun b _ h => by rcases h with h | h; exact .inl h; exact absurd h (hno b))
  refine ⟨_, rfl, ?_, ?_⟩
  · exact ⟨(cell_of_row w1 X 0 _ _ _ x1).trans rfl, j1.c0, j1.c1, k1 hx2 nX2A⟩
  simp only [Act.put, List.setIfInBounds_toArray, List.set_cons_zero, List.set_cons_succ]
  refine wpAnyH_done (by kernel_rfl) ?_ _
  have cx1 : w1.cell? ⟨X, 0, none⟩ = some (.pointer (some ⟨J, 0, none⟩)) := (cell_of_row w1 X 0 _ _ _ x1).trans rfl
  have c01 := j1.c0
  clear hS
  go_wp2_with fail
  refine (Secure_ok v1 hd1 r1 (by omega) (by omega) (k := 1) (ents := [(e, blk)]) (base := W.heap.size) (by simpa [flat] using ho1) (by decide) (by decide) (by simpa using hl) (by simpa using hb1) (by simpa using he)).mono ?_
  rintro e' w2 ⟨rfl, hd2, hr2, hf2⟩
  have x2 := hf2.keep x1 (by rintro (h | h); exact nXA h; exact nXB h)
  have j2 : JAt w2 J V e true := hf2.keep j1 (by rintro (h | h); exact nJA h; exact nJB h)
  have v2 : VolAt w2 V A n := hf2.keep v1 (by rintro (h | h); exact nVA h; exact nVB h)
  have hF2 : Fr (fun b => b = A ∨ b = B ∨ b = J) w w2 := hF1.trans hf2 (fun b _ h => by rcases h with h | h; exact .inl h; exact .inr (.inl h))
  rw [lain_one] at hr2
  have ecalls : calls + 1 + 1 = calls + 2 := by omega
  rw [ecalls] at hd2
  have cx2 : w2.cell? ⟨X, 0, none⟩ = some (.pointer (some ⟨J, 0, none⟩)) := (cell_of_row w2 X 0 _ _ _ x2).trans rfl
  have c12 := j2.c1
  have c22 := j2.c2
  have z12 := j2.fz 1
  have z22 := j2.fz 2
  have jE := j2.set1 ((e : Int) + 1)
  have hfE : Fr (fun b => b = J) w2 (w2.setCell ⟨J, 1, none⟩ (.int .i64 ((e : Int) + 1))) := Fr.set1 _ _ _ _
  obtain ⟨wE, HWE⟩ : ∃ wE, Hid (wE = w2.setCell ⟨J, 1, none⟩ (.int .i64 ((e : Int) + 1))) := ⟨_, rfl⟩
  rw [← HWE.out] at jE hfE
  have hwr : IntKind.i64.wrap ((e : Int) + 1) = (e : Int) + 1 := by rw [IntKind.wrap_i64]; omega
  have HF : Hid (VolAt wE V A n ∧ DiskAt wE A B n (.slice none 0 0) (calls + 2) (writes + 1) ∧ RowsAt wE B n (splice bs (e * 128) blk) ∧ Fr (fun b => b = A ∨ b = B ∨ b = J) w wE) := by
    refine ⟨?_, ?_, ⟨?_, hr2.2⟩, ?_⟩
    · exact hfE.keep v2 (by omega)
    · exact hd2.fr hfE (by omega)
    · exact hfE.keep hr2.1 (by omega)
    · exact hF2.trans hfE (fun _ _ h => .inr (.inr h))
  clear hd1 ho1 hf1 k1 hr2 hf2 hd2 hF1 hF2 hfE v2 v1 r1 x1 x2 j1
  go_wp2
  rw [← HWE.out]
  go_ret
  exact ⟨rfl, jE, HF.out.1, HF.out.2.1, HF.out.2.2.1, HF.out.2.2.2⟩
end Go.Proofs.YteebjgfalllbjaaGreatDoor
