import Derived.Test.YteebjgfalllbjaaGreatDoorCAlRsIn
import Derived.Test.YteebjgfalllbjaaGreatDoorCWiGd0Va
namespace Go.Proofs.YteebjgfalllbjaaGreatDoor
open Go.RowKit Go.Lib
section
variable {w : World} {base n vb : Nat} {ev p : Value} {xs : List Value}
theorem one_src {w : World} {vb : Nat} {p : Value} {t : TypeId} (hv : w.heap[vb]? = some (.cells #[p] t (0, 0))) : ∀ j v, [p][j]? = some v → w.cell? ((⟨vb, 0, none⟩ : Addr).add j) = some v := by
 intro j u hj
 match j, hj with
 | 0, hj => simp at hj; subst hj; exact (cell_of_row w vb 0 _ _ _ hv).trans rfl
def sh1 (cur xs : List Value) (i n : Nat) : List Value := cur.take (i + 1) ++ (xs.drop i ++ cur.drop (n + 1))
def sh2 (cur xs : List Value) (p : Value) (i n : Nat) : List Value := xs.take i ++ p :: xs.drop i ++ cur.drop (n + 1)
theorem sh12 (cur xs : List Value) (p : Value) (i n : Nat) (hc : cur.take n = xs) (hn : n < cur.length) (hi : i < n) : (sh1 cur xs i n).take i ++ ([p] ++ (sh1 cur xs i n).drop (i + [p].length)) = sh2 cur xs p i n := by
 have h1 : (cur.take (i + 1)).length = i + 1 := by rw [List.length_take]; omega
 have h2 : (cur.take (i + 1)).take i = xs.take i := by rw [← hc, List.take_take, List.take_take]; congr 1; omega
 rw [sh1, List.length_singleton, List.drop_left' h1, List.take_append_of_le_length (by omega), h2]
 simp [sh2]
set_option maxRecDepth 100000 in
set_option maxHeartbeats 2000000 in
theorem Insert_shift {i cap g : Nat} {cur : Array Value} (hi : i < n) (hg0 : base ≤ g) (hg : w.heap[g]? = some (.cells cur 136 (0, 0))) (hc1 : n < cap) (hc2 : cap ≤ maxLen) (hc3 : cur.size = cap) (hc4 : cur.toList.take n = xs) (hv : w.heap[vb]? = some (.cells #[p] 136 (0, 0))) (hne : vb ≠ g) (hp : p.oneCell' = true) (hx : ∀ v ∈ xs, v.oneCell' = true) (hn : n ≤ 100000) :
  Calls Tryz.prog 100 #[.slice (some ⟨g, 0, none⟩) n cap, .int .i64 i, .slice (some ⟨vb, 0, none⟩) 1 1] w fun e w' => ∃ v', e = .returned v' ∧ w'.ownsRow base 136 1 v' (n + 1) (xs.take i ++ p :: xs.drop i) ∧ Fr (fun b => b = g) w w' ∧ v'.ownBlock = some g := by
 have hxl : xs.length = n := by rw [← hc4, List.length_take, Array.length_toList, hc3]; omega
 have hcs : ∀ j v, xs[j]? = some v → w.cell? ⟨g, j, none⟩ = some v := fun j v hj => (cell_of_row w g j _ _ _ hg).trans (by
  rw [← hc4, List.getElem?_take] at hj
  split at hj
  ·simpa using hj
  ·cases hj)
 have hov : ∀ lb cb, (callFunc 147 #[.slice (some ⟨vb, 0, none⟩) 1 1, .slice (some ⟨g, i + 1, none⟩) lb cb]).run Tryz.prog w = .ok (.value (.bool false)) w := fun lb cb => by
  rw [run_callFunc_extern Tryz.func147 (by kernel_rfl) (by kernel_rfl) (by kernel_rfl) (e := Extern.SlicesOverlaps.overlaps #[174, 174] #[4]) (by kernel_rfl),
   Lib.run_overlaps_apart w 174 4 136 Tryz.underlying174 1 (fun _ => by kernel_rfl) ⟨vb, 0, none⟩ ⟨g, i + 1, none⟩ 1 1 lb cb hne 136 136 1 cap (by simp [World.shape?, hv]) (by simp [World.shape?, hg, hc3]) (by omega) (frozen_of_row w vb 0 _ _ hv) (frozen_of_row w vb 1 _ _ hv)]
  rfl
 have hgw : (w.drew).heap[g]? = some (.cells cur.toList.toArray 136 (0, 0)) := by rw [heap_drew', Array.toArray_toList]; exact hg
 have hdl : (xs.drop i).length = n - i := by rw [List.length_drop, hxl]
 have hcl : cur.toList.length = cap := by rw [Array.length_toList, hc3]
 have hl1 : (sh1 cur.toList xs i n).length = cap := by simp [sh1, hc3]; omega
 have hl2 : (sh2 cur.toList xs p i n).length = cap := by simp [sh2, hc3]; omega
 have hcap : (cap : Int) ≤ 9223372036854775807 := by unfold maxLen at hc2; omega
 have hlt' : (i : Int) < n := by omega
 have hne' : ¬ ((i : Int) = n) := by omega
 have hw1 : IntKind.i64.wrap ((n : Int) + 1) = (n : Int) + 1 := by rw [IntKind.wrap_i64]; omega
 have hw3 : IntKind.i64.wrap ((i : Int) + 1) = (i : Int) + 1 := by rw [IntKind.wrap_i64]; omega
 have hb0 : (0 : Int) ≤ (n : Int) + 1 := by omega
 have hb1 : (0 : Int) ≤ (i : Int) + 1 := by omega
 have htn0 : ((n : Int) + 1).toNat = n + 1 := by omega
 have htn : ((i : Int) + 1).toNat = i + 1 := by omega
 have hci : ¬ cap = i := by omega
 have hci1 : ¬ cap = i + 1 := by omega
 have hin : i ≤ n := by omega
 have hcn : n + 1 ≤ cap := by omega
 have hcn' : ¬ ((cap : Int) < (n : Int) + 1) := by omega
 have hcn2 : (n : Int) + 1 ≤ cap := by omega
 have hb3 : (i : Int) ≤ (n : Int) + 1 := by omega
 have hm1 : (xs.drop i).length = Nat.min (n + 1 - i) (n - i) := by
  rw [hdl]
  show n - i = min (n + 1 - i) (n - i)
  omega
 have hfit1 : i + 1 + (xs.drop i).length ≤ cur.size := by rw [hdl]; omega
 have hnew1 : cur.toList.take (i + 1) ++ (xs.drop i ++ cur.toList.drop (i + 1 + (xs.drop i).length)) = sh1 cur.toList xs i n := by rw [hdl, show i + 1 + (n - i) = n + 1 by omega]; rfl
 have hm2 : [p].length = Nat.min 1 (n + 1 - i) := by
  show 1 = min 1 (n + 1 - i)
  omega
 have hfit2 : i + [p].length ≤ (sh1 cur.toList xs i n).toArray.size := by rw [List.size_toArray, hl1, List.length_singleton]; omega
 have hone : ∀ v ∈ [p], v.oneCell' = true := by simpa using hp
 have hnew2 := sh12 cur.toList xs p i n hc4 (by omega) hi
 go_enter Tryz.func100, Tryz.ntmps100
 go_wp2_with (simp only [hov])
 refine wp_region_still_tail 8 (by kernel_rfl) (by kernel_rfl) (Bx.out ?_)
 simp only [List.take_succ_cons, List.take_zero, List.drop_succ_cons, List.drop_zero]
 repeat (refine bx_step (fun K hK => ?_); go_simp; refine hK _ ?_; clear hK K)
 refine bx_nil ?_
 change wpList _ _ _ _ _ w.drew
 obtain ⟨W3, HW3⟩ : ∃ W3, Hid (W3 = w.drew) := ⟨_, rfl⟩
 have hf3 : Fr (fun b => b = g) w W3 := by rw [HW3.out]; exact (Fr.refl _ _).drew
 have hf3' : Fr (fun _ => False) w W3 := by rw [HW3.out]; exact (Fr.refl _ _).drew
 rw [← HW3.out] at hgw ⊢
 clear HW3
 have hvA := hf3'.keep hv (fun h => h)
 have hsrcG : ∀ j v, (xs.drop i)[j]? = some v → W3.cell? ((⟨g, i, none⟩ : Addr).add j) = some v := by
  intro j u hj
  rw [Addr.add_lit]
  rw [List.getElem?_drop] at hj
  exact hf3'.cell (hcs (i + j) u hj) (fun h => h)
 go_wp2_with (first
  | (refine wpList_copy_to rfl (.tmp 73) (.tmp 76) 174 174 rfl 136 Tryz.underlying174 pentry_size g (i + 1) (n - i) (cap - (i + 1)) ⟨g, i, none⟩ (n + 1 - i) (cap - i) rfl rfl cur.toList.toArray 136 hgw (xs.drop i) hm1 hsrcG hfit1 (fun v hv => hx v (List.mem_of_mem_drop hv)) (sh1 cur.toList xs i n) hnew1 ?_; intro w4 HW4; (have hr4 : w4.heap[g]? = some (.cells (sh1 cur.toList xs i n).toArray 136 (0, 0)) := by rw [HW4.out]; exact setRow_heap _ _ _ _ _ _ hgw); (have hv4 : w4.heap[vb]? = some (.cells #[p] 136 (0, 0)) := by rw [HW4.out, setRow_other _ _ _ _ hne]; exact hvA); (have hf4 : Fr (fun b => b = g) w w4 := by rw [HW4.out]; exact hf3.setRow _ (fun _ => rfl) _); (have hs4 := one_src hv4); clear HW4 hsrcG)
  | (refine wpList_copy_to rfl (.tmp 80) (.tmp 81) 174 174 rfl 136 Tryz.underlying174 pentry_size g i (n + 1 - i) (cap - i) ⟨vb, 0, none⟩ 1 1 rfl rfl (sh1 cur.toList xs i n).toArray 136 hr4 [p] hm2 hs4 hfit2 hone (sh2 cur.toList xs p i n) hnew2 ?_; intro w5 HW5; (have hr5 : w5.heap[g]? = some (.cells (sh2 cur.toList xs p i n).toArray 136 (0, 0)) := by rw [HW5.out]; exact setRow_heap _ _ _ _ _ _ hr4); (have hf5 : Fr (fun b => b = g) w w5 := by rw [HW5.out]; exact hf4.setRow _ (fun _ => rfl) _); clear HW5))
 go_ret
 refine ⟨_, rfl, ⟨?_, .inr ⟨g, cap, _, rfl, hg0, hr5, hcn, hc2, ?_, ?_⟩⟩, hf5, rfl⟩
 ·simp; omega
 ·rw [List.size_toArray, hl2]; omega
 ·rw [Nat.mul_one, sh2]
  exact List.take_left' (by simp; omega)
theorem Insert_ok {i : Nat} (hi : i ≤ n) (ho : w.ownsRow base 136 1 ev n xs) (hv : w.heap[vb]? = some (.cells #[p] 136 (0, 0))) (hne : ev.ownBlock ≠ some vb) (hp : p.oneCell' = true) (hx : ∀ v ∈ xs, v.oneCell' = true) (hn : n ≤ 100000) (hb : base ≤ w.heap.size) :
  Calls Tryz.prog 100 #[ev, .int .i64 i, .slice (some ⟨vb, 0, none⟩) 1 1] w fun e w' => ∃ v', e = .returned v' ∧ w'.ownsRow base 136 1 v' (n + 1) (xs.take i ++ p :: xs.drop i) ∧ Fr (fun b => ev.ownBlock = some b) w w' ∧ (∀ b, v'.ownBlock = some b → ev.ownBlock = some b ∨ w.heap.size ≤ b) := by
 have hxl : xs.length = n := by have := ho.1; omega
 rcases Nat.lt_or_eq_of_le hi with hlt | rfl
 ·obtain ⟨g, cap, cur, rfl, hg0, hg, hc1, hc2, hc3, hc4⟩ := own_some ho hlt
  rcases Nat.lt_or_eq_of_le hc1 with hc | rfl
  ·refine (Insert_shift hlt hg0 hg hc hc2 hc3 hc4 hv (fun e => hne (by rw [e]; rfl)) hp hx hn).mono ?_
   rintro e w' ⟨v', h1, h2, h3, h4⟩
   exact ⟨v', h1, h2, h3.mono (fun b _ h => by rw [h]; rfl), fun b hb' => .inl (by rw [h4] at hb'; exact hb')⟩
  ·refine (Insert_grow hlt ho ⟨_, rfl⟩ hv hp hx hn hb).mono ?_
   rintro e w' ⟨v', h1, h2, h3, h4⟩
   exact ⟨v', h1, h2, h3.mono (fun _ _ h => h.elim), fun b hb' => .inr (h4 b hb')⟩
 ·rw [List.take_of_length_le (by omega), List.drop_of_length_le (by omega)]
  exact Insert_end ho ((cell_of_row w vb 0 _ _ _ hv).trans rfl) hp hn hb
end
end Go.Proofs.YteebjgfalllbjaaGreatDoor
namespace Go.Proofs.YteebjgfalllbjaaGreatDoor
open Go.RowKit
theorem wpList_wanted {P : Program} {ops : Array Oper} {Q : Exit → Act → World → Prop} {a : Act} {w w' : World} {rest : List Oper} {op : Oper} {v : Value} (hw : Region.wanted op (yielded ops a.tmps) = true) (hr : (execOp a.eval op).run P w = .ok (.value v) w') (h : wpList P ops Q rest (a.put op.dst v) w') : wpList P ops Q (op :: rest) a w := by
 unfold wpList
 rw [if_pos hw]
 left
 unfold Oper.wp
 rw [hr]
 exact h
def newA (id : Int) (st : List SS) : AS := ⟨id, st, (1, 1), 0, 0⟩
set_option maxRecDepth 100000 in
set_option maxHeartbeats 1000000 in
theorem begun_ok (id : Int) (st : List SS) (w : World) : Calls Tryz.prog 101 #[.agg (sagaC id st.length (six st)).toArray] w fun e w' => e = .returned (.agg (newA id st).told.cs.toArray) ∧ Fr (fun _ => False) w w' := by
 have hrow := heap_alloc_at w (.cells (sagaC id st.length (six st)).toArray 122)
 have hfa : Fr (fun _ => False) (w.alloc (.cells (sagaC id st.length (six st)).toArray 122)) ((w.alloc (.cells (sagaC id st.length (six st)).toArray 122)).alloc (.cells #[.int .i64 0, .int .i64 0, .int .i64 0, .int .i64 0, .int .i64 0, .int .i64 0] 138)) := (Fr.refl _ _).alloc _
 have hrow2 := hfa.keep hrow (fun h => h)
 have c0 : ((w.alloc (.cells (sagaC id st.length (six st)).toArray 122)).alloc (.cells #[.int .i64 0, .int .i64 0, .int .i64 0, .int .i64 0, .int .i64 0, .int .i64 0] 138)).cell? ⟨w.heap.size, 0, none⟩ = some (.int .i64 id) := (cell_of_row _ _ 0 _ _ _ hrow2).trans rfl
 have c1 : ((w.alloc (.cells (sagaC id st.length (six st)).toArray 122)).alloc (.cells #[.int .i64 0, .int .i64 0, .int .i64 0, .int .i64 0, .int .i64 0, .int .i64 0] 138)).cell? ⟨w.heap.size, 1, none⟩ = some (.int .i64 st.length) := (cell_of_row _ _ 1 _ _ _ hrow2).trans rfl
 have hF : Fr (fun _ => False) w ((w.alloc (.cells (sagaC id st.length (six st)).toArray 122)).alloc (.cells #[.int .i64 0, .int .i64 0, .int .i64 0, .int .i64 0, .int .i64 0, .int .i64 0] 138)) := ((Fr.refl _ _).alloc _).alloc _
 have hR : ((w.alloc (.cells (sagaC id st.length (six st)).toArray 122)).alloc (.cells #[.int .i64 0, .int .i64 0, .int .i64 0, .int .i64 0, .int .i64 0, .int .i64 0] 138)).heap[w.heap.size + 1]? = some (.cells zST.cs.toArray 138 (0, 0)) := heap_alloc2_new w _ _
 obtain ⟨W, HW⟩ : ∃ W, Hid (W = ((w.alloc (.cells (sagaC id st.length (six st)).toArray 122)).alloc (.cells #[.int .i64 0, .int .i64 0, .int .i64 0, .int .i64 0, .int .i64 0, .int .i64 0] 138))) := ⟨_, rfl⟩
 rw [← HW.out] at hF hR
 have hst := run_store6 (ty := 138) hR rfl (newA id st).told.len (newA id st).told.one stand_size
 have hRE := setRow_heap W (w.heap.size + 1) _ (newA id st).told.cs.toArray 138 (0, 0) hR
 obtain ⟨WE, HWE⟩ : ∃ WE, Hid (WE = W.setRow (w.heap.size + 1) (newA id st).told.cs.toArray) := ⟨_, rfl⟩
 have hFE : Fr (fun _ => False) w WE := by rw [HWE.out]; exact hF.setRow _ (fun h => by omega) _
 rw [← HWE.out] at hst hRE
 rw [HW.out] at hst
 clear HWE hF hrow hfa hrow2 hR HW
 go_enter Tryz.func101, Tryz.ntmps101
 go_wp2_with (first | (refine wpList_store 138 (w' := WE) _ _ rfl rfl ?_ ?_; exact hst))
 refine bodyPost_ret (v := .agg (newA id st).told.cs.toArray) (results_cell_row Tryz.results101 _ _ (w.heap.size + 1) 138 _ (0, 0) _ rfl hRE Tryz.underlying138 rfl stand_size) rfl ⟨rfl, hFE⟩
theorem six_lit (st : List SS) (h6 : st.length ≤ 6) : ∃ p0 p1 p2 p3 p4 p5, six st = [p0, p1, p2, p3, p4, p5] := by
 have h := six_len st h6
 match hs : six st, h with
 | [p0, p1, p2, p3, p4, p5], _ => exact ⟨p0, p1, p2, p3, p4, p5, rfl⟩
theorem run_build_entry (id : Int) (st : List SS) (h6 : st.length ≤ 6) (w : World) : (Instr.build 140 #[(0, .agg (sagaC id st.length (six st)).toArray), (1, .agg (newA id st).told.cs.toArray)]).run Tryz.prog w = .ok (.agg (entC (newA id st)).toArray) w := by
 obtain ⟨p0, p1, p2, p3, p4, p5, e⟩ := six_lit st h6
 unfold entC
 show (Instr.build 140 #[(0, .agg (sagaC id st.length (six st)).toArray), (1, .agg (newA id st).told.cs.toArray)]).run Tryz.prog w = .ok (.agg (sagaC id st.length (six st) ++ (newA id st).told.cs).toArray) w
 rw [e]
 kernel_rfl
theorem run_box_entry (a : AS) (h6 : a.st.length ≤ 6) (w : World) : (Instr.box 140 (.agg (entC a).toArray)).run Tryz.prog w = .ok (.pointer (some ⟨w.heap.size, 0, none⟩)) (w.alloc (.cells (entC a).toArray 140)) := by
 obtain ⟨p0, p1, p2, p3, p4, p5, e⟩ := six_lit a.st h6
 unfold entC
 rw [e]
 kernel_rfl
theorem run_slice_entry (g : Nat) (w : World) : (Instr.buildSlice 174 1 #[(0, .pointer (some ⟨g, 0, none⟩))]).run Tryz.prog w = .ok (.slice (some ⟨w.heap.size, 0, none⟩) 1 1) (w.alloc (.cells #[.pointer (some ⟨g, 0, none⟩)] 136)) := by kernel_rfl
theorem newA_len (id : Int) (st : List SS) : (newA id st).st.length = st.length := rfl
theorem own_one {w : World} {base n : Nat} {t : TypeId} {v : Value} {xs : List Value} (h : w.ownsRow base t 1 v n xs) : v.oneCell' = true := by
 rcases h.2 with ⟨rfl, _⟩ | ⟨g, cap, cur, rfl, _⟩ <;> rfl
section
variable {ρ : Operand → Value} {o : Oper} {w w' : World} {v : Value}
theorem exec_buildE {x y : Operand} {a b : Value} (ho : o.op = .build 140 #[(0, x), (1, y)]) (hx : ρ x = a) (hy : ρ y = b) (hr : (Instr.build 140 #[(0, a), (1, b)]).run Tryz.prog w = .ok v w') : (execOp ρ o).run Tryz.prog w = .ok (.value v) w' := by
 simp only [execOp, ho, List.map_toArray, List.map_cons, List.map_nil, hx, hy, Sem.run_bind, hr, Result.andThen_ok, Sem.run_pure]
theorem exec_boxE {t : TypeId} {x : Operand} {a : Value} (ho : o.op = .box t x) (hx : ρ x = a) (hr : (Instr.box t a).run Tryz.prog w = .ok v w') : (execOp ρ o).run Tryz.prog w = .ok (.value v) w' := by
 simp only [execOp, ho, hx, Sem.run_bind, hr, Result.andThen_ok, Sem.run_pure]
theorem exec_sliceE {t : TypeId} {x : Operand} {a : Value} (ho : o.op = .buildSlice t 1 #[(0, x)]) (hx : ρ x = a) (hr : (Instr.buildSlice t 1 #[(0, a)]).run Tryz.prog w = .ok v w') : (execOp ρ o).run Tryz.prog w = .ok (.value v) w' := by
 simp only [execOp, ho, List.map_toArray, List.map_cons, List.map_nil, hx, Sem.run_bind, hr, Result.andThen_ok, Sem.run_pure]
end
theorem exec_sub {ρ : Operand → Value} {o : Oper} {x y : Operand} {a b : Int} (ho : o.op = .binOp .sub 3 x y 3) (hx : ρ x = .int .i64 a) (hy : ρ y = .int .i64 b) (h1 : -1000000 ≤ a - b) (h2 : a - b ≤ 1000000) (w : World) : (execOp ρ o).run Tryz.prog w = .ok (.value (.int .i64 (a - b))) w := by
 have hw : IntKind.i64.wrap (a - b) = a - b := by rw [IntKind.wrap_i64]; omega
 have : (execOp ρ o).run Tryz.prog w = .ok (.value (.int .i64 (IntKind.i64.wrap (a - b)))) w := by
  simp only [execOp, ho, hx, hy]
  kernel_rfl
 rw [this, hw]
theorem placed_split {es : List (Nat × AS)} {id : Int} {k : Nat} (hp : Placed (idsOf es) id k false) : es.takeWhile (fun q => decide (q.2.id < id)) = es.take k ∧ es.dropWhile (fun q => decide (q.2.id < id)) = es.drop k := by
 have hk : k ≤ es.length := by have := hp.1; simpa [idsOf] using this
 have h1 : ∀ q ∈ es.take k, decide (q.2.id < id) = true := by
  intro q hq
  obtain ⟨j, hj, rfl⟩ := List.mem_iff_getElem.1 hq
  rw [List.length_take] at hj
  have := hp.2.1 j (es[j].1, es[j].2.id) (by omega) (by simp [idsOf, List.getElem?_eq_getElem (show j < es.length by omega)])
  simpa using this
 have h2 : ∀ q, (es.drop k).head? = some q → decide (q.2.id < id) = false := by
  intro q hq
  rw [List.head?_drop] at hq
  have := hp.2.2.1 (q.1, q.2.id) (by simp [idsOf, hq])
  simp at this ⊢
  omega
 have e : es = es.take k ++ es.drop k := (List.take_append_drop k es).symm
 have ht : (es.drop k).takeWhile (fun q => decide (q.2.id < id)) = [] := by
  cases hd : es.drop k with
  | nil => rfl
  | cons q l => rw [List.takeWhile_cons, h2 q (by rw [hd]; rfl)]; rfl
 have hdr : (es.drop k).dropWhile (fun q => decide (q.2.id < id)) = es.drop k := by
  cases hd : es.drop k with
  | nil => rfl
  | cons q l => rw [List.dropWhile_cons, h2 q (by rw [hd]; rfl)]; rfl
 constructor
 ·conv => lhs; rw [e]
  rw [List.takeWhile_append_of_pos h1, ht, List.append_nil]
 ·conv => lhs; rw [e]
  rw [List.dropWhile_append_of_pos h1, hdr]
def insE (p : Nat × AS) (es : List (Nat × AS)) : List (Nat × AS) := es.takeWhile (fun q => decide (q.2.id < p.2.id)) ++ p :: es.dropWhile (fun q => decide (q.2.id < p.2.id))
section
variable {w : World} {R base : Nat} {room : Int} {ev : Value} {es : List (Nat × AS)}
set_option maxRecDepth 100000 in
set_option maxHeartbeats 1000000 in
theorem Take_ok (h : RollAt w R base room ev es) (hs : Sorted es) (hn : es.length ≤ 100000) (id : Int) (st : List SS) (h6 : st.length ≤ 6) (hno : ∀ p ∈ es, p.2.id ≠ id) (hroom : 2 * (st.length : Int) ≤ room) (hrm : room ≤ 1000) (hb : base ≤ w.heap.size) (hRb0 : ev.ownBlock ≠ some R) (hRe : ∀ p ∈ es, p.1 ≠ R) (hse : ∀ p ∈ es, ev.ownBlock ≠ some p.1) : Calls Tryz.prog 63 #[.pointer (some ⟨R, 0, none⟩), .agg (sagaC id st.length (six st)).toArray] w fun e w' => ∃ g ev', e = .returned (.bool true) ∧ RollAt w' R base (room - 2 * st.length) ev' (insE (g, newA id st) es) ∧ w.heap.size ≤ g ∧ Fr (fun b => b = R ∨ ev.ownBlock = some b) w w' ∧ (∀ b, ev'.ownBlock = some b → ev.ownBlock = some b ∨ w.heap.size ≤ b) := by
 have hlift : Tryz.prog.follows .mixedOrders = true := by kernel_rfl
 have hrow := heap_alloc_at w (.cells (sagaC id st.length (six st)).toArray 122)
 have hfa : Fr (fun _ => False) w (w.alloc (.cells (sagaC id st.length (six st)).toArray 122)) := (Fr.refl _ _).alloc _
 have h1 := h.frz hfa
 obtain ⟨W, HW⟩ : ∃ W, Hid (W = w.alloc (.cells (sagaC id st.length (six st)).toArray 122)) := ⟨_, rfl⟩
 have c0 : (w.alloc (.cells (sagaC id st.length (six st)).toArray 122)).cell? ⟨w.heap.size, 0, none⟩ = some (.int .i64 id) := (cell_of_row _ _ 0 _ _ _ hrow).trans rfl
 rw [← HW.out] at hrow hfa h1
 have hRb : R < w.heap.size := lt_of_heap h.r
 go_enter Tryz.func63, Tryz.ntmps63
 go_wp2_with fail
 rw [← HW.out]
 clear c0
 refine (place_ok h1 hs hn id).mono ?_
 rintro e w2 ⟨k, t, rfl, hp, hf⟩
 obtain rfl : t = false := by
  cases t with
  | false => rfl
  | true =>
   obtain ⟨q, hq, hid⟩ := hp.2.2.2.1 rfl
   rw [idsOf, List.getElem?_map] at hq
   obtain ⟨p, hpk, rfl⟩ := Option.map_eq_some_iff.1 hq
   exact absurd hid (hno p (List.mem_of_getElem? hpk))
 have h2 := h1.frz hf
 have hrow2 := hf.keep hrow (fun h => h)
 have hF2 : Fr (fun _ => False) w w2 := hfa.trans hf (fun _ _ h => h)
 clear HW hfa hf hrow h1
 have hl := sagaC_len id st.length _ (six_len _ h6)
 have hL := load14 hrow2 h6
 go_wp2_with (first | (refine wpList_wanted (by rfl) (exec_load 122 (.tmp 3) rfl ⟨w.heap.size, 0, none⟩ rfl hL) ?_))
 refine (Fits_ok h2 id st h6).mono ?_
 rintro e w3 ⟨rfl, hf3⟩
 rw [decide_eq_true hroom]
 have h3 := h2.frz hf3
 have hrow3 := hf3.keep hrow2 (fun h => h)
 have hF3 : Fr (fun _ => False) w w3 := hF2.trans hf3 (fun _ _ h => h)
 clear hL hF2 hf3 hrow2 h2
 clear hl
 go_wp2
 obtain ⟨W, HW⟩ : ∃ W, Hid (W = w3.drew) := ⟨_, rfl⟩
 have hfW : Fr (fun _ => False) w3 W := by rw [HW.out]; exact (Fr.refl _ _).drew
 have hR3 := h3.frz hfW
 have hF4 : Fr (fun _ => False) w W := hF3.trans hfW (fun _ _ h => h)
 clear h3 hF3
 let S : World → Prop := fun w' => w'.heap[w.heap.size]? = some (.cells (sagaC id st.length (six st)).toArray 122 (0, 0))
 have hS : S W := hfW.keep hrow3 (fun h => h)
 refine wp_region_held (S := S) hlift ?_
 change wpAnyH _ _ _ _ S _ _ _ (World.drew _)
 rw [← HW.out]
 clear HW
 refine tkE (S := S) (i := 0) (oi := ⟨some 21, .move (.tmp 0), _, _, _, none⟩) (v := .pointer (some ⟨R, 0, none⟩)) rfl hS ?_
 simp only [Act.put, lsE, lsZ, lsS]
 refine tkE (S := S) (i := 1) (oi := ⟨some 22, .move (.tmp 0), _, _, _, none⟩) (v := .pointer (some ⟨R, 0, none⟩)) rfl hS ?_
 simp only [Act.put, lsE, lsZ, lsS]
 refine tkE (S := S) (i := 2) (oi := ⟨some 23, .nilCheck (.tmp 22), _, _, _, none⟩) (v := .pointer (some ⟨R, 0, none⟩)) rfl hS ?_
 simp only [Act.put, lsE, lsZ, lsS]
 refine tkE (S := S) (i := 3) (oi := ⟨some 24, .fieldAddr 176 (.tmp 23) 0, _, _, _, none⟩) (v := .pointer (some ⟨R, 0, none⟩)) rfl hS ?_
 simp only [Act.put, lsE, lsZ, lsS]
 refine tkE (S := S) (i := 5) (oi := ⟨some 26, .move (.tmp 5), _, _, _, none⟩) (v := .int .i64 k) rfl hS ?_
 simp only [Act.put, lsE, lsZ, lsS]
 refine tkY (S := S) (i := 6) (oi := ⟨some 27, .load 122 (.tmp 3), _, _, _, none⟩) (v := .agg (sagaC id st.length (six st)).toArray) rfl (Or.inl ⟨rfl, fun w' hs => exec_load 122 (.tmp 3) rfl ⟨w.heap.size, 0, none⟩ rfl (load14 hs h6)⟩) hS ?_
 simp only [Act.put, lsE, lsZ, lsS]
 refine tkY (S := S) (i := 7) (oi := ⟨some 28, .load 122 (.tmp 3), _, _, _, none⟩) (v := .agg (sagaC id st.length (six st)).toArray) rfl (Or.inl ⟨rfl, fun w' hs => exec_load 122 (.tmp 3) rfl ⟨w.heap.size, 0, none⟩ rfl (load14 hs h6)⟩) hS ?_
 simp only [Act.put, lsE, lsZ, lsS]
 refine wpAnyH_all (rs := [4, 8]) (by kernel_rfl) (by simp) ?_
 intro ia hia
 have hia' : ia = 4 ∨ ia = 8 := by simpa using hia
 clear hia
 rcases hia' with rfl | rfl
 case' inl =>
  refine wpOp_value (o := ⟨some 25, .load 174 (.tmp 24), _, _, _, none⟩) (v := ev) rfl rfl (exec_load 174 (.tmp 24) rfl ⟨R, 0, none⟩ rfl (run_loadAt_one hR3.c0 Tryz.underlying174 rfl)) ⟨hS, ?_⟩
  simp only [Act.put, lsE, lsZ, lsS]
  refine wpAnyH_all (rs := [8]) (by kernel_rfl) (by simp) ?_
  intro ib hib
  obtain rfl : ib = 8 := by simpa using hib
  clear hib
  refine wpOp_call (o := ⟨some 29, .call { callee := .value (.func 101), args := #[(.tmp 28)], argTypes := _ }, _, _, _, none⟩) (f := 101) (args := #[.agg (sagaC id st.length (six st)).toArray]) rfl rfl (by kernel_rfl) ?_
  refine (begun_ok id st W).mono ?_
  rintro e wB ⟨rfl, hfB⟩
  have hSB : S wB := hfB.keep hS (fun h => h)
  have hRB := hR3.frz hfB
  have hFB : Fr (fun _ => False) w wB := hF4.trans hfB (fun _ _ h => h)
  refine ⟨_, rfl, hSB, ?_⟩
  simp only [Act.put, lsE, lsZ, lsS]
  refine tkY (S := S) (i := 9) (oi := ⟨some 30, .build 140 #[(0, Operand.tmp 27), (1, Operand.tmp 29)], _, _, _, none⟩) (v := .agg (entC (newA id st)).toArray) rfl (Or.inl ⟨rfl, fun w' _ => exec_buildE rfl rfl rfl (run_build_entry id st h6 w')⟩) hSB ?_
  simp only [Act.put, lsE, lsZ, lsS]
  refine wpAnyH_all (rs := [10]) (by kernel_rfl) (by simp) ?_
  intro ic hic
  obtain rfl : ic = 10 := by simpa using hic
  clear hic
  have hfX : Fr (fun _ => False) wB (wB.alloc (.cells (entC (newA id st)).toArray 140)) := (Fr.refl _ _).alloc _
  have hrX := heap_alloc_at wB (.cells (entC (newA id st)).toArray 140)
  obtain ⟨wX, HWX⟩ : ∃ wX, Hid (wX = wB.alloc (.cells (entC (newA id st)).toArray 140)) := ⟨_, rfl⟩
  rw [← HWX.out] at hfX hrX
  have hSX : S wX := hfX.keep hSB (fun h => h)
  have hRX := hRB.frz hfX
  have hFX : Fr (fun _ => False) w wX := hFB.trans hfX (fun _ _ h => h)
  refine wpOp_value (o := ⟨some 31, .box 140 (.tmp 30), _, _, _, none⟩) (v := .pointer (some ⟨wB.heap.size, 0, none⟩)) (w' := wX) rfl rfl (exec_boxE rfl rfl (by rw [HWX.out]; exact run_box_entry (newA id st) h6 wB)) ⟨hSX, ?_⟩
  simp only [Act.put, lsE, lsZ, lsS]
  clear HWX
  refine wpAnyH_all (rs := [11]) (by kernel_rfl) (by simp) ?_
  intro id2 hid2
  obtain rfl : id2 = 11 := by simpa using hid2
  clear hid2
  have hfY : Fr (fun _ => False) wX (wX.alloc (.cells #[.pointer (some ⟨wB.heap.size, 0, none⟩)] 136)) := (Fr.refl _ _).alloc _
  have hrY := heap_alloc_at wX (.cells #[.pointer (some ⟨wB.heap.size, 0, none⟩)] 136)
  obtain ⟨wY, HWY⟩ : ∃ wY, Hid (wY = wX.alloc (.cells #[.pointer (some ⟨wB.heap.size, 0, none⟩)] 136)) := ⟨_, rfl⟩
  rw [← HWY.out] at hfY hrY
  have hSY : S wY := hfY.keep hSX (fun h => h)
  have hRY := hRX.frz hfY
  have hrE := hfY.keep hrX (fun h => h)
  have hFY : Fr (fun _ => False) w wY := hFX.trans hfY (fun _ _ h => h)
  refine wpOp_value (o := ⟨some 32, .buildSlice 174 1 #[(0, .tmp 31)], _, _, _, none⟩) (v := .slice (some ⟨wX.heap.size, 0, none⟩) 1 1) (w' := wY) rfl rfl (exec_sliceE rfl rfl (by rw [HWY.out]; exact run_slice_entry _ wX)) ⟨hSY, ?_⟩
  simp only [Act.put, lsE, lsZ, lsS]
  clear HWY
 case' inr =>
  refine wpOp_call (o := ⟨some 29, .call { callee := .value (.func 101), args := #[(.tmp 28)], argTypes := _ }, _, _, _, none⟩) (f := 101) (args := #[.agg (sagaC id st.length (six st)).toArray]) rfl rfl (by kernel_rfl) ?_
  refine (begun_ok id st W).mono ?_
  rintro e wB ⟨rfl, hfB⟩
  have hSB : S wB := hfB.keep hS (fun h => h)
  have hRB := hR3.frz hfB
  have hFB : Fr (fun _ => False) w wB := hF4.trans hfB (fun _ _ h => h)
  refine ⟨_, rfl, hSB, ?_⟩
  simp only [Act.put, lsE, lsZ, lsS]
  refine tkY (S := S) (i := 9) (oi := ⟨some 30, .build 140 #[(0, Operand.tmp 27), (1, Operand.tmp 29)], _, _, _, none⟩) (v := .agg (entC (newA id st)).toArray) rfl (Or.inl ⟨rfl, fun w' _ => exec_buildE rfl rfl rfl (run_build_entry id st h6 w')⟩) hSB ?_
  simp only [Act.put, lsE, lsZ, lsS]
  refine wpAnyH_all (rs := [4, 10]) (by kernel_rfl) (by simp) ?_
  intro ib hib
  have hib' : ib = 4 ∨ ib = 10 := by simpa using hib
  clear hib
  rcases hib' with rfl | rfl
  case' inl =>
   refine wpOp_value (o := ⟨some 25, .load 174 (.tmp 24), _, _, _, none⟩) (v := ev) rfl rfl (exec_load 174 (.tmp 24) rfl ⟨R, 0, none⟩ rfl (run_loadAt_one hRB.c0 Tryz.underlying174 rfl)) ⟨hSB, ?_⟩
   simp only [Act.put, lsE, lsZ, lsS]
   refine wpAnyH_all (rs := [10]) (by kernel_rfl) (by simp) ?_
   intro ic hic
   obtain rfl : ic = 10 := by simpa using hic
   clear hic
   have hfX : Fr (fun _ => False) wB (wB.alloc (.cells (entC (newA id st)).toArray 140)) := (Fr.refl _ _).alloc _
   have hrX := heap_alloc_at wB (.cells (entC (newA id st)).toArray 140)
   obtain ⟨wX, HWX⟩ : ∃ wX, Hid (wX = wB.alloc (.cells (entC (newA id st)).toArray 140)) := ⟨_, rfl⟩
   rw [← HWX.out] at hfX hrX
   have hSX : S wX := hfX.keep hSB (fun h => h)
   have hRX := hRB.frz hfX
   have hFX : Fr (fun _ => False) w wX := hFB.trans hfX (fun _ _ h => h)
   refine wpOp_value (o := ⟨some 31, .box 140 (.tmp 30), _, _, _, none⟩) (v := .pointer (some ⟨wB.heap.size, 0, none⟩)) (w' := wX) rfl rfl (exec_boxE rfl rfl (by rw [HWX.out]; exact run_box_entry (newA id st) h6 wB)) ⟨hSX, ?_⟩
   simp only [Act.put, lsE, lsZ, lsS]
   clear HWX
   refine wpAnyH_all (rs := [11]) (by kernel_rfl) (by simp) ?_
   intro id2 hid2
   obtain rfl : id2 = 11 := by simpa using hid2
   clear hid2
   have hfY : Fr (fun _ => False) wX (wX.alloc (.cells #[.pointer (some ⟨wB.heap.size, 0, none⟩)] 136)) := (Fr.refl _ _).alloc _
   have hrY := heap_alloc_at wX (.cells #[.pointer (some ⟨wB.heap.size, 0, none⟩)] 136)
   obtain ⟨wY, HWY⟩ : ∃ wY, Hid (wY = wX.alloc (.cells #[.pointer (some ⟨wB.heap.size, 0, none⟩)] 136)) := ⟨_, rfl⟩
   rw [← HWY.out] at hfY hrY
   have hSY : S wY := hfY.keep hSX (fun h => h)
   have hRY := hRX.frz hfY
   have hrE := hfY.keep hrX (fun h => h)
   have hFY : Fr (fun _ => False) w wY := hFX.trans hfY (fun _ _ h => h)
   refine wpOp_value (o := ⟨some 32, .buildSlice 174 1 #[(0, .tmp 31)], _, _, _, none⟩) (v := .slice (some ⟨wX.heap.size, 0, none⟩) 1 1) (w' := wY) rfl rfl (exec_sliceE rfl rfl (by rw [HWY.out]; exact run_slice_entry _ wX)) ⟨hSY, ?_⟩
   simp only [Act.put, lsE, lsZ, lsS]
   clear HWY
  case' inr =>
   have hfX : Fr (fun _ => False) wB (wB.alloc (.cells (entC (newA id st)).toArray 140)) := (Fr.refl _ _).alloc _
   have hrX := heap_alloc_at wB (.cells (entC (newA id st)).toArray 140)
   obtain ⟨wX, HWX⟩ : ∃ wX, Hid (wX = wB.alloc (.cells (entC (newA id st)).toArray 140)) := ⟨_, rfl⟩
   rw [← HWX.out] at hfX hrX
   have hSX : S wX := hfX.keep hSB (fun h => h)
   have hRX := hRB.frz hfX
   have hFX : Fr (fun _ => False) w wX := hFB.trans hfX (fun _ _ h => h)
   refine wpOp_value (o := ⟨some 31, .box 140 (.tmp 30), _, _, _, none⟩) (v := .pointer (some ⟨wB.heap.size, 0, none⟩)) (w' := wX) rfl rfl (exec_boxE rfl rfl (by rw [HWX.out]; exact run_box_entry (newA id st) h6 wB)) ⟨hSX, ?_⟩
   simp only [Act.put, lsE, lsZ, lsS]
   clear HWX
   refine wpAnyH_all (rs := [4, 11]) (by kernel_rfl) (by simp) ?_
   intro ic hic
   have hic' : ic = 4 ∨ ic = 11 := by simpa using hic
   clear hic
   rcases hic' with rfl | rfl
   case' inl =>
    refine wpOp_value (o := ⟨some 25, .load 174 (.tmp 24), _, _, _, none⟩) (v := ev) rfl rfl (exec_load 174 (.tmp 24) rfl ⟨R, 0, none⟩ rfl (run_loadAt_one hRX.c0 Tryz.underlying174 rfl)) ⟨hSX, ?_⟩
    simp only [Act.put, lsE, lsZ, lsS]
    refine wpAnyH_all (rs := [11]) (by kernel_rfl) (by simp) ?_
    intro id2 hid2
    obtain rfl : id2 = 11 := by simpa using hid2
    clear hid2
    have hfY : Fr (fun _ => False) wX (wX.alloc (.cells #[.pointer (some ⟨wB.heap.size, 0, none⟩)] 136)) := (Fr.refl _ _).alloc _
    have hrY := heap_alloc_at wX (.cells #[.pointer (some ⟨wB.heap.size, 0, none⟩)] 136)
    obtain ⟨wY, HWY⟩ : ∃ wY, Hid (wY = wX.alloc (.cells #[.pointer (some ⟨wB.heap.size, 0, none⟩)] 136)) := ⟨_, rfl⟩
    rw [← HWY.out] at hfY hrY
    have hSY : S wY := hfY.keep hSX (fun h => h)
    have hRY := hRX.frz hfY
    have hrE := hfY.keep hrX (fun h => h)
    have hFY : Fr (fun _ => False) w wY := hFX.trans hfY (fun _ _ h => h)
    refine wpOp_value (o := ⟨some 32, .buildSlice 174 1 #[(0, .tmp 31)], _, _, _, none⟩) (v := .slice (some ⟨wX.heap.size, 0, none⟩) 1 1) (w' := wY) rfl rfl (exec_sliceE rfl rfl (by rw [HWY.out]; exact run_slice_entry _ wX)) ⟨hSY, ?_⟩
    simp only [Act.put, lsE, lsZ, lsS]
    clear HWY
   case' inr =>
    have hfY : Fr (fun _ => False) wX (wX.alloc (.cells #[.pointer (some ⟨wB.heap.size, 0, none⟩)] 136)) := (Fr.refl _ _).alloc _
    have hrY := heap_alloc_at wX (.cells #[.pointer (some ⟨wB.heap.size, 0, none⟩)] 136)
    obtain ⟨wY, HWY⟩ : ∃ wY, Hid (wY = wX.alloc (.cells #[.pointer (some ⟨wB.heap.size, 0, none⟩)] 136)) := ⟨_, rfl⟩
    rw [← HWY.out] at hfY hrY
    have hSY : S wY := hfY.keep hSX (fun h => h)
    have hRY := hRX.frz hfY
    have hrE := hfY.keep hrX (fun h => h)
    have hFY : Fr (fun _ => False) w wY := hFX.trans hfY (fun _ _ h => h)
    refine wpOp_value (o := ⟨some 32, .buildSlice 174 1 #[(0, .tmp 31)], _, _, _, none⟩) (v := .slice (some ⟨wX.heap.size, 0, none⟩) 1 1) (w' := wY) rfl rfl (exec_sliceE rfl rfl (by rw [HWY.out]; exact run_slice_entry _ wX)) ⟨hSY, ?_⟩
    simp only [Act.put, lsE, lsZ, lsS]
    clear HWY
    refine wpAnyH_all (rs := [4]) (by kernel_rfl) (by simp) ?_
    intro id2 hid2
    obtain rfl : id2 = 4 := by simpa using hid2
    clear hid2
    refine wpOp_value (o := ⟨some 25, .load 174 (.tmp 24), _, _, _, none⟩) (v := ev) rfl rfl (exec_load 174 (.tmp 24) rfl ⟨R, 0, none⟩ rfl (run_loadAt_one hRY.c0 Tryz.underlying174 rfl)) ⟨hSY, ?_⟩
    simp only [Act.put, lsE, lsZ, lsS]
 all_goals
  clear hS hSB hSX hR3 hRB hRX
  have hbY := hFY.size
  have hlB := hFB.size
  have hlX := hFX.size
  have hltE : ∀ b, ev.ownBlock = some b → b < w.heap.size := fun b hb' => by
   rcases h.o.2 with ⟨rfl, _⟩ | ⟨g, cap, cur, rfl, _, hg, _⟩
   ·cases hb'
   ·cases hb'; exact lt_of_heap hg
  refine wpAnyH_all (rs := [12]) (by kernel_rfl) (by simp) ?_
  intro i12 hi12
  obtain rfl : i12 = 12 := by simpa using hi12
  refine wpOp_call (o := ⟨some 33, .call { callee := .value (.func 100), args := #[(.tmp 25), (.tmp 26), (.tmp 32)], argTypes := _ }, _, _, _, none⟩) (f := 100) (args := #[ev, .int .i64 k, .slice (some ⟨wX.heap.size, 0, none⟩) 1 1]) rfl rfl (by kernel_rfl) ?_
  refine (Insert_ok (i := k) (xs := es.map epv) (by have := hp.1; simpa [idsOf] using this) hRY.o hrY (fun e => by have := hltE _ e; omega) rfl (fun v hv => by obtain ⟨p, _, rfl⟩ := List.mem_map.1 hv; rfl) hn (by omega)).mono ?_
  rintro e wZ ⟨v', rfl, hoZ, hfZ, hbZ⟩
  have hSZ : S wZ := hfZ.keep hSY (fun e => by have := hltE _ e; omega)
  have hrZ := hfZ.keep hRY.r hRb0
  have hFZ : Fr (fun b => b = R ∨ ev.ownBlock = some b) w wZ := (hFY.mono (fun _ _ h => h.elim)).trans hfZ (fun _ _ h => .inr h)
  refine ⟨_, rfl, hSZ, ?_⟩
  simp only [Act.put, lsE, lsZ, lsS]
  refine tkE (S := S) (i := 13) (oi := ⟨some 34, .nilCheck (.tmp 21), _, _, _, none⟩) (v := .pointer (some ⟨R, 0, none⟩)) rfl hSZ ?_
  simp only [Act.put, lsE, lsZ, lsS]
  refine tkE (S := S) (i := 14) (oi := ⟨some 35, .fieldAddr 176 (.tmp 34) 0, _, _, _, none⟩) (v := .pointer (some ⟨R, 0, none⟩)) rfl hSZ ?_
  simp only [Act.put, lsE, lsZ, lsS]
  refine wpAnyH_all (rs := [15]) (by kernel_rfl) (by simp) ?_
  intro i15 hi15
  obtain rfl : i15 = 15 := by simpa using hi15
  have hst := run_storeAt_one (P := Tryz.prog) (w := wZ) (a := ⟨R, 0, none⟩) (t := 174) (v := v') ((cell_of_row wZ R 0 _ _ _ hrZ).trans rfl) (frozen_of_row wZ R 0 _ _ hrZ) (by kernel_rfl) (own_one hoZ)
  have hrF : (wZ.setCell ⟨R, 0, none⟩ v').heap[R]? = some (.cells #[v', .int .i64 room] 176 (0, 0)) := by rw [heap_setCell_at _ _ _ _ _ _ hrZ]; rfl
  have hfF : Fr (fun b => b = R) wZ (wZ.setCell ⟨R, 0, none⟩ v') := Fr.set1 _ _ _ _
  obtain ⟨wF, HWF⟩ : ∃ wF, Hid (wF = wZ.setCell ⟨R, 0, none⟩ v') := ⟨_, rfl⟩
  rw [← HWF.out] at hst hrF hfF
  clear HWF
  have hSF : S wF := hfF.keep hSZ (by omega)
  refine wpOp_skip (o := ⟨none, .store 174 (.tmp 35) (.tmp 33), _, _, _, none⟩) (w' := wF) rfl rfl (exec_store 174 _ _ rfl ⟨R, 0, none⟩ _ rfl rfl hst) ⟨hSF, ?_⟩
  simp only [Act.put]
  refine wpAnyH_done (by kernel_rfl) ?_ _
  have hFF : Fr (fun b => b = R ∨ ev.ownBlock = some b) w wF := hFZ.trans hfF (fun _ _ h => .inl h)
  have hEnt : wF.heap[wB.heap.size]? = some (.cells (entC (newA id st)).toArray 140 (0, 0)) := hfF.keep (hfZ.keep hrE (fun e => by have := hltE _ e; omega)) (by omega)
  have hoF : wF.ownsRow base 136 1 v' (es.length + 1) ((es.map epv).take k ++ .pointer (some ⟨wB.heap.size, 0, none⟩) :: (es.map epv).drop k) := own_fr hoZ hfF (fun b c hb1 hb2 e => by
   rw [e] at hb1
   have := hb1.symm.trans hrZ
   simp at this)
  have hL := load14 hSF h6
  have c1 : wF.cell? ⟨R, 1, none⟩ = some (.int .i64 room) := (cell_of_row wF R 1 _ _ _ hrF).trans rfl
  have z1 : wF.frozen? ⟨R, 1, none⟩ = false := frozen_of_row wF R 1 _ _ hrF
  clear hst hrZ hfF hSZ hfZ hoZ hRY hSY hrY hrE
  have hlenF : wF.heap.size ≥ w.heap.size := hFF.size
  go_wp2
  obtain ⟨U, HU⟩ : ∃ U, Hid (U = wF.drew) := ⟨_, rfl⟩
  have hfU : Fr (fun _ => False) wF U := by rw [HU.out]; exact (Fr.refl _ _).drew
  have hrU := hfU.keep hrF (fun h => h)
  let S2 : World → Prop := fun w' => w'.heap[w.heap.size]? = some (.cells (sagaC id st.length (six st)).toArray 122 (0, 0))
  have hS : S2 U := hfU.keep hSF (fun h => h)
  refine wp_region_held (S := S2) hlift ?_
  change wpAnyH _ _ _ _ S2 _ _ _ (World.drew _)
  rw [← HU.out]
  clear HU
  refine tkE (S := S2) (i := 0) (oi := ⟨some 36, .move (.tmp 0), _, _, _, none⟩) (v := .pointer (some ⟨R, 0, none⟩)) rfl hS ?_
  simp only [Act.put, lsE, lsZ, lsS]
  refine tkE (S := S2) (i := 1) (oi := ⟨some 37, .nilCheck (.tmp 36), _, _, _, none⟩) (v := .pointer (some ⟨R, 0, none⟩)) rfl hS ?_
  simp only [Act.put, lsE, lsZ, lsS]
  refine tkE (S := S2) (i := 2) (oi := ⟨some 38, .fieldAddr 176 (.tmp 37) 1, _, _, _, none⟩) (v := .pointer (some ⟨R, 1, none⟩)) rfl hS ?_
  simp only [Act.put, lsE, lsZ, lsS]
  refine tkY (S := S2) (i := 4) (oi := ⟨some 40, .load 122 (.tmp 3), _, _, _, none⟩) (v := .agg (sagaC id st.length (six st)).toArray) rfl (Or.inl ⟨rfl, fun w' hs => exec_load 122 (.tmp 3) rfl ⟨w.heap.size, 0, none⟩ rfl (load14 hs h6)⟩) hS ?_
  simp only [Act.put, lsE, lsZ, lsS]
  refine wpAnyH_all (rs := [3, 5]) (by kernel_rfl) (by simp) ?_
  intro ie hie
  have hie' : ie = 3 ∨ ie = 5 := by simpa using hie
  clear hie
  rcases hie' with rfl | rfl
  case' inl =>
   refine wpOp_value (o := ⟨some 39, .load 3 (.tmp 38), _, _, _, none⟩) (v := .int .i64 room) rfl rfl (exec_load 3 (.tmp 38) rfl ⟨R, 1, none⟩ rfl (run_loadAt_one ((cell_of_row _ R 1 _ _ _ hrU).trans rfl) Tryz.underlying3 rfl)) ⟨hS, ?_⟩
   simp only [Act.put, lsE, lsZ, lsS]
   refine wpAnyH_all (rs := [5]) (by kernel_rfl) (by simp) ?_
   intro ig hig
   obtain rfl : ig = 5 := by simpa using hig
   clear hig
   refine wpOp_call (o := ⟨some 41, .call { callee := .value (.func 90), args := #[(.tmp 40)], argTypes := _ }, _, _, _, none⟩) (f := 90) (args := #[.agg (sagaC id st.length (six st)).toArray]) rfl rfl (by kernel_rfl) ?_
   refine (need_ok id st U h6).mono ?_
   rintro e w7 ⟨rfl, hf7⟩
   have hS7 : S2 w7 := hf7.keep hS (fun h => h)
   have hr7 := hf7.keep hrU (fun h => h)
   have hf37 : Fr (fun _ => False) wF w7 := hfU.trans hf7 (fun _ _ h => h)
   refine ⟨_, rfl, hS7, ?_⟩
   simp only [Act.put, lsE, lsZ, lsS]
  case' inr =>
   refine wpOp_call (o := ⟨some 41, .call { callee := .value (.func 90), args := #[(.tmp 40)], argTypes := _ }, _, _, _, none⟩) (f := 90) (args := #[.agg (sagaC id st.length (six st)).toArray]) rfl rfl (by kernel_rfl) ?_
   refine (need_ok id st U h6).mono ?_
   rintro e w7 ⟨rfl, hf7⟩
   have hS7 : S2 w7 := hf7.keep hS (fun h => h)
   have hr7 := hf7.keep hrU (fun h => h)
   have hf37 : Fr (fun _ => False) wF w7 := hfU.trans hf7 (fun _ _ h => h)
   refine ⟨_, rfl, hS7, ?_⟩
   simp only [Act.put, lsE, lsZ, lsS]
   refine wpAnyH_all (rs := [3]) (by kernel_rfl) (by simp) ?_
   intro ig hig
   obtain rfl : ig = 3 := by simpa using hig
   clear hig
   refine wpOp_value (o := ⟨some 39, .load 3 (.tmp 38), _, _, _, none⟩) (v := .int .i64 room) rfl rfl (exec_load 3 (.tmp 38) rfl ⟨R, 1, none⟩ rfl (run_loadAt_one ((cell_of_row _ R 1 _ _ _ hr7).trans rfl) Tryz.underlying3 rfl)) ⟨hS7, ?_⟩
   simp only [Act.put, lsE, lsZ, lsS]
  all_goals
   refine tkY (S := S2) (i := 6) (oi := ⟨some 42, .binOp .sub 3 (.tmp 39) (.tmp 41) 3, _, _, _, none⟩) (v := .int .i64 (room - 2 * st.length)) rfl (Or.inl ⟨rfl, fun w' _ => exec_sub rfl rfl rfl (by omega) (by omega) w'⟩) hS7 ?_
   simp only [Act.put, lsE, lsZ, lsS]
   refine tkE (S := S2) (i := 7) (oi := ⟨some 43, .nilCheck (.tmp 36), _, _, _, none⟩) (v := .pointer (some ⟨R, 0, none⟩)) rfl hS7 ?_
   simp only [Act.put, lsE, lsZ, lsS]
   refine tkE (S := S2) (i := 8) (oi := ⟨some 44, .fieldAddr 176 (.tmp 43) 1, _, _, _, none⟩) (v := .pointer (some ⟨R, 1, none⟩)) rfl hS7 ?_
   simp only [Act.put, lsE, lsZ, lsS]
   refine wpAnyH_all (rs := [9]) (by kernel_rfl) (by simp) ?_
   intro i9 hi9
   obtain rfl : i9 = 9 := by simpa using hi9
   have hst9 := run_storeAt_one (P := Tryz.prog) (w := w7) (a := ⟨R, 1, none⟩) (t := 3) (v := .int .i64 (room - 2 * st.length)) ((cell_of_row w7 R 1 _ _ _ hr7).trans rfl) (frozen_of_row w7 R 1 _ _ hr7) (by kernel_rfl) rfl
   have hr9 : (w7.setCell ⟨R, 1, none⟩ (.int .i64 (room - 2 * st.length))).heap[R]? = some (.cells #[v', .int .i64 (room - 2 * st.length)] 176 (0, 0)) := by rw [heap_setCell_at _ _ _ _ _ _ hr7]; rfl
   have hf9 : Fr (fun b => b = R) w7 (w7.setCell ⟨R, 1, none⟩ (.int .i64 (room - 2 * st.length))) := Fr.set1 _ _ _ _
   obtain ⟨w9, HW9⟩ : ∃ w9, Hid (w9 = w7.setCell ⟨R, 1, none⟩ (.int .i64 (room - 2 * st.length))) := ⟨_, rfl⟩
   rw [← HW9.out] at hst9 hr9 hf9
   clear HW9
   have hS9 : S2 w9 := hf9.keep hS7 (by omega)
   refine wpOp_skip (o := ⟨none, .store 3 (.tmp 44) (.tmp 42), _, _, _, none⟩) (w' := w9) rfl rfl (exec_store 3 _ _ rfl ⟨R, 1, none⟩ _ rfl rfl hst9) ⟨hS9, ?_⟩
   simp only [Act.put]
   refine wpAnyH_done (by kernel_rfl) ?_ _
   have hf39 : Fr (fun b => b = R) wF w9 := (hf37.mono (fun _ _ h => h.elim)).trans hf9 (fun _ _ h => h)
   have hFin : Fr (fun b => b = R ∨ ev.ownBlock = some b) w w9 := hFF.trans hf39 (fun _ _ h => .inl h)
   obtain ⟨e1, e2⟩ := placed_split hp
   have HQ : Hid (RollAt w9 R base (room - 2 * st.length) v' (insE (wB.heap.size, newA id st) es)) := by
    refine ⟨hr9, ?_, ?_⟩
    ·unfold insE
     rw [show (wB.heap.size, newA id st).2.id = id from rfl, e1, e2]
     have hlen : (es.take k ++ (wB.heap.size, newA id st) :: es.drop k).length = es.length + 1 := by
      have := hp.1
      simp [idsOf] at this
      simp
      omega
     rw [hlen, List.map_append, List.map_cons, List.map_take, List.map_drop]
     exact own_fr hoF hf39 (fun b c hb1 _ e => by
      rw [e] at hb1
      have := hb1.symm.trans hrF
      simp at this)
    ·intro p hp1
     have hmem : p = (wB.heap.size, newA id st) ∨ p ∈ es := by
      simp only [insE, List.mem_append, List.mem_cons] at hp1
      rcases hp1 with h1 | h1 | h1
      ·exact .inr (List.takeWhile_subset _ h1)
      ·exact .inl h1
      ·exact .inr (List.dropWhile_subset _ h1)
     rcases hmem with rfl | hpe
     ·exact ⟨by show base ≤ wB.heap.size; omega, hf39.keep hEnt (by omega)⟩
     ·exact ⟨(h.e p hpe).1, hFin.keep (h.e p hpe).2 (by rintro (e | e); exact hRe p hpe e; exact hse p hpe e)⟩
   have hown : ∀ b, v'.ownBlock = some b → ev.ownBlock = some b ∨ w.heap.size ≤ b := fun b hb1 => by
    rcases hbZ b hb1 with h1 | h1
    ·exact .inl h1
    ·exact .inr (by omega)
   clear hst9 hr9 hf9 hS9 hf39
   go_wp2
   go_ret
   exact ⟨_, _, rfl, HQ.out, hlB, hFin, hown⟩
end
end Go.Proofs.YteebjgfalllbjaaGreatDoor
namespace Go.Proofs.YteebjgfalllbjaaGreatDoor
open Go.RowKit
def ST.at (s : ST) (a b : Int) : ST := ⟨s.id, a, b, s.steps, 0, 0⟩
def ST.back (s : ST) : ST := if s.step = 1 then s.at 4 0 else s.at 2 (s.step - 1)
theorem fin_box {fn : Func} {p : Tmp} (h : fn.results = #[.cell p 138]) (w : World) (A : Obj) (s : ST) (tmps : Array Value) (h4 : tmps.getD p undef = .pointer (some ⟨w.heap.size + 1, 0, none⟩)) : (results fn tmps).run Tryz.prog ((w.alloc A).alloc (.cells s.cs.toArray 138)) = .ok (.agg s.cs.toArray) ((w.alloc A).alloc (.cells s.cs.toArray 138)) := by
 refine results_cell_row h tmps _ (w.heap.size + 1) 138 s.cs.toArray (0, 0) _ h4 ?_ Tryz.underlying138 rfl stand_size
 have := heap_alloc_at (w.alloc A) (.cells s.cs.toArray 138)
 simpa using this
set_option maxRecDepth 100000 in
theorem stAt_ok (w : World) (s : ST) (a b : Int) : Calls Tryz.prog 173 #[.agg s.cs.toArray, .int .i64 a, .int .i64 b] w fun e w' => e = .returned (.agg (s.at a b).cs.toArray) ∧ Fr (fun _ => False) w w' := by
 obtain ⟨id, state, step, steps, tries, due⟩ := s
 have FIN := fun (tmps : Array Value) (A : Obj) => fin_box Tryz.results173 w A ⟨id, a, b, steps, 0, 0⟩ tmps
 unfold ST.cs ST.at
 go_enter Tryz.func173, Tryz.ntmps173
 go_wp2
 exact bodyPost_ret (FIN _ _ rfl) rfl ⟨rfl, ((Fr.refl _ _).alloc _).alloc _⟩
set_option maxRecDepth 100000 in
theorem stOpen_ok (w : World) (s : ST) : Calls Tryz.prog 102 #[.agg s.cs.toArray] w fun e w' => e = .returned (.bool (decide (s.state = 1 ∨ s.state = 2))) ∧ Fr (fun _ => False) w w' := by
 obtain ⟨id, state, step, steps, tries, due⟩ := s
 unfold ST.cs
 go_enter Tryz.func102, Tryz.ntmps102
 go_wp2
 ·go_ret
  refine ⟨?_, (Fr.refl _ _).alloc _⟩
  simp [*]
 ·go_ret
  refine ⟨?_, (Fr.refl _ _).alloc _⟩
  by_cases h : state = 2
  ·simp [h]
  ·simp [*]
set_option maxRecDepth 100000 in
theorem stBack_ok (w : World) (s : ST) (h1 : 1 ≤ s.step) (h2 : s.step ≤ 6) : Calls Tryz.prog 174 #[.agg s.cs.toArray] w fun e w' => e = .returned (.agg s.back.cs.toArray) ∧ Fr (fun _ => False) w w' := by
 obtain ⟨id, state, step, steps, tries, due⟩ := s
 have h1' : 1 ≤ step := h1
 have h2' : step ≤ 6 := h2
 have e2 : wrap64 (step - 1) = step - 1 := wrap64_id (by omega)
 have zr : ∀ A : Obj, ((w.alloc A).alloc (.cells zST.cs.toArray 138)).heap[w.heap.size + 1]? = some (.cells zST.cs.toArray 138 (0, 0)) := fun A => by
  have := heap_alloc_at (w.alloc A) (.cells zST.cs.toArray 138)
  simpa using this
 clear h1 h2
 by_cases h : step = 1
 ·have eb : ST.back ⟨id, state, step, steps, tries, due⟩ = ST.at ⟨id, state, step, steps, tries, due⟩ 4 0 := if_pos h
  rw [eb]
  subst h
  clear eb
  have HC := fun W => stAt_ok W ⟨id, state, 1, steps, tries, due⟩ 4 0
  simp only [ST.cs] at HC
  have zr := zr (.cells (ST.cs ⟨id, state, 1, steps, tries, due⟩).toArray 138)
  have hF0 : Fr (fun _ => False) w ((w.alloc (.cells (ST.cs ⟨id, state, 1, steps, tries, due⟩).toArray 138)).alloc (.cells zST.cs.toArray 138)) := ((Fr.refl _ _).alloc _).alloc _
  unfold ST.cs at zr hF0 ⊢
  go_enter Tryz.func174, Tryz.ntmps174
  go_wp2_with fail
  refine (HC _).mono ?_
  rintro e w2 ⟨rfl, hf⟩
  have hR : w2.heap[w.heap.size + 1]? = some (.cells zST.cs.toArray 138 (0, 0)) := hf.keep zr (fun h => h)
  have hst := run_store6 (ty := 138) hR rfl (ST.len (ST.at ⟨id, state, 1, steps, tries, due⟩ 4 0)) (ST.one _) stand_size
  have hRE := setRow_heap w2 (w.heap.size + 1) _ (ST.cs (ST.at ⟨id, state, 1, steps, tries, due⟩ 4 0)).toArray 138 (0, 0) hR
  obtain ⟨WE, HWE⟩ : ∃ WE, Hid (WE = w2.setRow (w.heap.size + 1) (ST.cs (ST.at ⟨id, state, 1, steps, tries, due⟩ 4 0)).toArray) := ⟨_, rfl⟩
  have hFE : Fr (fun _ => False) w WE := by rw [HWE.out]; exact (hF0.trans hf (fun _ _ h => h)).setRow _ (fun h => by omega) _
  rw [← HWE.out] at hst hRE
  clear HWE zr hR HC hF0 hf
  simp only [ST.cs] at hst hRE
  go_wp2_with (first | (refine wpList_store 138 (w' := WE) _ _ rfl rfl ?_ ?_; exact hst))
  exact bodyPost_ret (results_cell_row Tryz.results174 _ _ (w.heap.size + 1) 138 _ (0, 0) _ rfl hRE Tryz.underlying138 rfl stand_size) rfl ⟨rfl, hFE⟩
 ·have eb : ST.back ⟨id, state, step, steps, tries, due⟩ = ST.at ⟨id, state, step, steps, tries, due⟩ 2 (step - 1) := if_neg h
  rw [eb]
  clear eb
  have HC := fun W => stAt_ok W ⟨id, state, step, steps, tries, due⟩ 2 (step - 1)
  simp only [ST.cs] at HC
  have zr := zr (.cells (ST.cs ⟨id, state, step, steps, tries, due⟩).toArray 138)
  have hF0 : Fr (fun _ => False) w ((w.alloc (.cells (ST.cs ⟨id, state, step, steps, tries, due⟩).toArray 138)).alloc (.cells zST.cs.toArray 138)) := ((Fr.refl _ _).alloc _).alloc _
  unfold ST.cs at zr hF0 ⊢
  go_enter Tryz.func174, Tryz.ntmps174
  go_wp2_with fail
  refine (HC _).mono ?_
  rintro e w2 ⟨rfl, hf⟩
  have hR : w2.heap[w.heap.size + 1]? = some (.cells zST.cs.toArray 138 (0, 0)) := hf.keep zr (fun h => h)
  have hst := run_store6 (ty := 138) hR rfl (ST.len (ST.at ⟨id, state, step, steps, tries, due⟩ 2 (step - 1))) (ST.one _) stand_size
  have hRE := setRow_heap w2 (w.heap.size + 1) _ (ST.cs (ST.at ⟨id, state, step, steps, tries, due⟩ 2 (step - 1))).toArray 138 (0, 0) hR
  obtain ⟨WE, HWE⟩ : ∃ WE, Hid (WE = w2.setRow (w.heap.size + 1) (ST.cs (ST.at ⟨id, state, step, steps, tries, due⟩ 2 (step - 1))).toArray) := ⟨_, rfl⟩
  have hFE : Fr (fun _ => False) w WE := by rw [HWE.out]; exact (hF0.trans hf (fun _ _ h => h)).setRow _ (fun h => by omega) _
  rw [← HWE.out] at hst hRE
  clear HWE zr hR HC hF0 hf
  simp only [ST.cs] at hst hRE
  go_wp2_with (first | (refine wpList_store 138 (w' := WE) _ _ rfl rfl ?_ ?_; exact hst))
  exact bodyPost_ret (results_cell_row Tryz.results174 _ _ (w.heap.size + 1) 138 _ (0, 0) _ rfl hRE Tryz.underlying138 rfl stand_size) rfl ⟨rfl, hFE⟩
end Go.Proofs.YteebjgfalllbjaaGreatDoor
