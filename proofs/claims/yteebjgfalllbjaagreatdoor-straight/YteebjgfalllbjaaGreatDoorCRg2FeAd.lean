import Derived.Test.YteebjgfalllbjaaGreatDoorCSb
import Derived.Test.YteebjgfalllbjaaGreatDoorCTx
import Derived.Test.YteebjgfalllbjaaGreatDoorCIoTkVe
namespace Go.Proofs.YteebjgfalllbjaaGreatDoor
open Go.RowKit
theorem or_id (a : Nat) (h : a ≤ 1000) : bits .or .i64 ((a : Int) / 256 * 256) ((a : Int) % 256) = a := by
 have h1 : ∀ a : Fin 1001, bits .or .i64 ((a.val : Int) / 256 * 256) ((a.val : Int) % 256) = a.val := by decide +kernel
 exact h1 ⟨a, by omega⟩
set_option maxRecDepth 100000 in
set_option maxHeartbeats 1000000 in
theorem getId_ok (w : World) (id : Nat) (hid : id ≤ 1000) (cs : List Value) : Calls Tryz.prog 165 #[.agg (.int .u8 ((id / 256 : Nat) : Int) :: .int .u8 ((id % 256 : Nat) : Int) :: cs).toArray] w fun e w' => e = .returned (.int .i64 id) ∧ Fr (fun _ => False) w w' := by
 have hrow := heap_alloc_at w (.cells (.int .u8 ((id / 256 : Nat) : Int) :: .int .u8 ((id % 256 : Nat) : Int) :: cs).toArray 182)
 have hfa : Fr (fun _ => False) w (w.alloc (.cells (.int .u8 ((id / 256 : Nat) : Int) :: .int .u8 ((id % 256 : Nat) : Int) :: cs).toArray 182)) := (Fr.refl _ _).alloc _
 have c0 : (w.alloc (.cells (.int .u8 ((id / 256 : Nat) : Int) :: .int .u8 ((id % 256 : Nat) : Int) :: cs).toArray 182)).cell? ⟨w.heap.size, 0, none⟩ = some (.int .u8 ((id / 256 : Nat) : Int)) := (cell_of_row _ _ 0 _ _ _ hrow).trans rfl
 have c1 : (w.alloc (.cells (.int .u8 ((id / 256 : Nat) : Int) :: .int .u8 ((id % 256 : Nat) : Int) :: cs).toArray 182)).cell? ⟨w.heap.size, 1, none⟩ = some (.int .u8 ((id % 256 : Nat) : Int)) := (cell_of_row _ _ 1 _ _ _ hrow).trans rfl
 have HF : Hid (Fr (fun _ => False) w (w.alloc (.cells (.int .u8 ((id / 256 : Nat) : Int) :: .int .u8 ((id % 256 : Nat) : Int) :: cs).toArray 182))) := hfa
 have HE := or_id id hid
 clear hrow hfa
 go_enter Tryz.func165, Tryz.ntmps165
 go_wp2
 go_ret
 exact ⟨by first | rw [HE]; rfl | rfl, HF.out⟩
theorem mkS1 (w : World) : (Instr.makeSlice 38 (.int .i64 ((1 : Nat) : Int)) (.int .i64 ((1 : Nat) : Int))).run Tryz.prog w = .ok (.slice (some ⟨w.heap.size, 0, none⟩) 1 1) (w.alloc (.cells (scells (List.replicate 1 none2)).toArray 58)) := by kernel_rfl
theorem mkS2 (w : World) : (Instr.makeSlice 38 (.int .i64 ((2 : Nat) : Int)) (.int .i64 ((2 : Nat) : Int))).run Tryz.prog w = .ok (.slice (some ⟨w.heap.size, 0, none⟩) 2 2) (w.alloc (.cells (scells (List.replicate 2 none2)).toArray 58)) := by kernel_rfl
theorem mkS3 (w : World) : (Instr.makeSlice 38 (.int .i64 ((3 : Nat) : Int)) (.int .i64 ((3 : Nat) : Int))).run Tryz.prog w = .ok (.slice (some ⟨w.heap.size, 0, none⟩) 3 3) (w.alloc (.cells (scells (List.replicate 3 none2)).toArray 58)) := by kernel_rfl
theorem mkS4 (w : World) : (Instr.makeSlice 38 (.int .i64 ((4 : Nat) : Int)) (.int .i64 ((4 : Nat) : Int))).run Tryz.prog w = .ok (.slice (some ⟨w.heap.size, 0, none⟩) 4 4) (w.alloc (.cells (scells (List.replicate 4 none2)).toArray 58)) := by kernel_rfl
theorem mkS5 (w : World) : (Instr.makeSlice 38 (.int .i64 ((5 : Nat) : Int)) (.int .i64 ((5 : Nat) : Int))).run Tryz.prog w = .ok (.slice (some ⟨w.heap.size, 0, none⟩) 5 5) (w.alloc (.cells (scells (List.replicate 5 none2)).toArray 58)) := by kernel_rfl
theorem mkS6 (w : World) : (Instr.makeSlice 38 (.int .i64 ((6 : Nat) : Int)) (.int .i64 ((6 : Nat) : Int))).run Tryz.prog w = .ok (.slice (some ⟨w.heap.size, 0, none⟩) 6 6) (w.alloc (.cells (scells (List.replicate 6 none2)).toArray 58)) := by kernel_rfl
theorem mkS (n : Nat) (h1 : 1 ≤ n) (h6 : n ≤ 6) (w : World) : (Instr.makeSlice 38 (.int .i64 (n : Int)) (.int .i64 (n : Int))).run Tryz.prog w = .ok (.slice (some ⟨w.heap.size, 0, none⟩) n n) (w.alloc (.cells (scells (List.replicate n none2)).toArray 58)) := by
 have h : n = 1 ∨ n = 2 ∨ n = 3 ∨ n = 4 ∨ n = 5 ∨ n = 6 := by omega
 rcases h with rfl | rfl | rfl | rfl | rfl | rfl
 ·exact mkS1 w
 ·exact mkS2 w
 ·exact mkS3 w
 ·exact mkS4 w
 ·exact mkS5 w
 ·exact mkS6 w
theorem run_store_body {w : World} {g : Nat} {cs r : List Value} (hg : w.heap[g]? = some (.cells cs.toArray 182 (0, 0))) (hc : cs.length = 124) (hl : r.length = 124) (h1 : ∀ v ∈ r, v.oneCell' = true) : (Instr.storeAt 182 (.pointer (some ⟨g, 0, none⟩)) (.agg r.toArray)).run Tryz.prog w = .ok () (w.setRow g r.toArray) := by
 have := run_storeAt_row (P := Tryz.prog) (o := 0) (ty := 182) (vs := r) hg (by omega) h1 (by rw [body_size, hl])
 rwa [show splice cs 0 r = r from by simp [splice, hl, hc]] at this
theorem bodyS_ints (id n : Nat) (l : List SS) (i : Nat) : ∀ v ∈ bodyS id n l i, ∃ z : Int, v = .int .u8 z := by
 intro v hv
 simp only [bodyS, stepsB, stepB, pad8, Lib.byteCells, zv, List.mem_append, List.mem_cons, List.not_mem_nil, or_false, List.mem_flatten, List.mem_map, List.mem_replicate] at hv
 rcases hv with (rfl | rfl | rfl) | ⟨x, ⟨q, _, rfl⟩, hx⟩ | ⟨_, rfl⟩
 ·exact ⟨_, rfl⟩
 ·exact ⟨_, rfl⟩
 ·exact ⟨_, rfl⟩
 ·simp only [List.mem_append, List.mem_cons, List.mem_map, List.mem_replicate] at hx
  rcases hx with rfl | (⟨_, _, rfl⟩ | ⟨_, rfl⟩) | (⟨_, _, rfl⟩ | ⟨_, rfl⟩) <;> exact ⟨_, rfl⟩
 ·exact ⟨_, rfl⟩
theorem ldB_ints (k : Nat) (bd : List Value) (hl : bd.length = 124) (hb : ∀ v ∈ bd, ∃ z : Int, v = .int .u8 z) : ∀ i, i < 128 → ∃ z : Int, (ldB k bd 4).toArray[i]? = some (.int .u8 z) := by
 intro i hi
 have h1 : ∀ v ∈ ldB k bd 4, ∃ z : Int, v = .int .u8 z := by
  intro v hv
  simp only [ldB, scts, sct, List.mem_append, List.mem_flatten, List.mem_map, List.mem_replicate] at hv
  rcases hv with ⟨x, ⟨j, _, rfl⟩, hx⟩ | ⟨_, rfl⟩
  ·simp only [List.mem_cons] at hx
   rcases hx with rfl | hx
   ·exact ⟨_, rfl⟩
   ·exact hb v (List.mem_of_mem_drop (List.mem_of_mem_take hx))
  ·exact ⟨_, rfl⟩
 have hlt : i < (ldB k bd 4).length := by rw [ldB_len k bd hl 4 (by omega)]; exact hi
 obtain ⟨z, hz⟩ := h1 _ (List.getElem_mem hlt)
 exact ⟨z, by rw [List.getElem?_toArray, List.getElem?_eq_getElem hlt, hz]⟩
theorem wpOp_callW {P : Program} {ops : Array Oper} {Q : Exit → Act → World → Prop} {a : Act} {w : World} {i : Nat} {o : Oper} {K : Act → World → Prop} {f : FuncId} {args : Array Value} (hi : ops[i]? = some o) (hw : Region.wanted o (yielded ops a.tmps) = true) (hr : (execOp a.eval o).run P w = .ok (.enter f args) w)
  (h : Calls P f args w fun e w2 => ∃ v, e = .returned v ∧ K (a.put o.dst v) w2) : wpOp P ops Q i K a w := by
 unfold wpOp
 simp only [hi, hw, if_true, Oper.wp, hr, Oper.upon]
 refine .inl (h.mono fun e w2 he => ?_)
 obtain ⟨v, rfl, hk⟩ := he
 exact hk
theorem and_lens (a b : Nat) (ha : a ≤ 8) (hb : b ≤ 8) : bits .and .u8 ((a : Int) * 16 + (b : Int)) 15 = (b : Int) := by
 have h : ∀ a b : Fin 9, bits .and .u8 ((a.val : Int) * 16 + (b.val : Int)) 15 = (b.val : Int) := by decide +kernel
 exact h ⟨a, by omega⟩ ⟨b, by omega⟩
theorem pad8_map (s : ByteArray) : pad8 s = (s.data.toList ++ List.replicate (8 - s.size) (0 : UInt8)).map (fun b => Value.int .u8 (b.toNat : Int)) := by
 simp [pad8, Lib.byteCells, zv]
theorem text_back (s : ByteArray) : (⟨((s.data.toList ++ List.replicate (8 - s.size) (0 : UInt8)).take s.size).toArray⟩ : ByteArray) = s := by
 have h : s.data.toList.length = s.size := by rw [← Lib.size_eq]
 rw [List.take_left' h]
theorem body_cut (id n : Nat) (l : List SS) (hl : l.length = 6) (h8 : ∀ p ∈ l, p.1.size ≤ 8 ∧ p.2.size ≤ 8) (i : Nat) (p : SS) (hp : l[i]? = some p) : ∃ a z, bodyS id n l 6 = a ++ (stepB p ++ z) ∧ a.length = 3 + i * 17 := by
 obtain ⟨hi, rfl⟩ := List.getElem?_eq_some_iff.1 hp
 have e : l = l.take i ++ l[i] :: l.drop (i + 1) := by rw [List.getElem_cons_drop, List.take_append_drop]
 have h6 : stepsB l 6 = stepsB l i ++ (stepB l[i] ++ ((l.drop (i + 1)).map stepB).flatten) := by
  unfold stepsB
  rw [List.take_of_length_le (by omega)]
  conv => lhs; rw [e]
  rw [List.map_append, List.map_cons, List.flatten_append, List.flatten_cons]
 refine ⟨[.int .u8 ((id / 256 : Nat) : Int), .int .u8 ((id % 256 : Nat) : Int), .int .u8 (n : Int)] ++ stepsB l i, ((l.drop (i + 1)).map stepB).flatten ++ List.replicate (121 - 6 * 17) zv, ?_, ?_⟩
 ·rw [bodyS, h6]; simp
 ·rw [List.length_append, stepsB_len l h8 i (by omega)]; rfl
theorem rows_scells {w : World} {g : Nat} {st : List SS} {t : TypeId} (h : w.heap[g]? = some (.cells (scells st).toArray t (0, 0))) : RowsOf w (some ⟨g, 0, none⟩) 2 (st.map stv) := by
 intro i cs hi
 rw [List.getElem?_map] at hi
 obtain ⟨p, hp, rfl⟩ := Option.map_eq_some_iff.1 hi
 obtain ⟨hlt, rfl⟩ := List.getElem?_eq_some_iff.1 hp
 refine ⟨g, 0, rfl, fun j v hv => (cell_of_row w g _ _ _ _ h).trans ?_⟩
 have e : st = st.take i ++ st[i] :: st.drop (i + 1) := by rw [List.getElem_cons_drop, List.take_append_drop]
 have hl : (scells (st.take i)).length = i * 2 := by rw [scells_len, List.length_take]; omega
 have hj : j < 2 := by have := (List.getElem?_eq_some_iff.1 hv).1; simpa [stv] using this
 have e2 : scells st = scells (st.take i) ++ (stv st[i] ++ scells (st.drop (i + 1))) := by
  have h3 : scells (st[i] :: st.drop (i + 1)) = stv st[i] ++ scells (st.drop (i + 1)) := by unfold scells; rw [List.map_cons, List.flatten_cons]
  conv => lhs; rw [e]
  rw [scells_append, h3]
 rw [List.getElem?_toArray, e2, List.getElem?_append_right (by omega), hl, show 0 + i * 2 + j - i * 2 = j by omega, List.getElem?_append_left (by simpa [stv] using hj)]
 exact hv
theorem index_body (g i : Nat) (h : i < 124) (w : World) : (Instr.indexAt 182 (.pointer (some ⟨g, 0, none⟩)) (.int .i64 i)).run Tryz.prog w = .ok (.pointer (some ⟨g, i, none⟩)) w := by
 have h' : (i : Int) < 124 := by omega
 go_simp
theorem index_steps (g n i : Nat) (h : i < n) (w : World) : (Instr.indexAt 38 (.slice (some ⟨g, 0, none⟩) n n) (.int .i64 i)).run Tryz.prog w = .ok (.pointer (some ⟨g, i * 2, none⟩)) w := by
 have h' : (i : Int) < n := by omega
 go_simp
theorem scells_mid (a b : List SS) (q : SS) : scells (a ++ q :: b) = scells a ++ (.string q.1 :: .string q.2 :: scells b) := by rw [scells_append]; simp [scells, stv]
theorem set_do (a b : List SS) (q : SS) (x : ByteArray) : (scells (a ++ q :: b)).toArray.setIfInBounds (a.length * 2) (.string x) = (scells (a ++ (x, q.2) :: b)).toArray := by
 rw [scells_mid, scells_mid, List.setIfInBounds_toArray, List.set_append_right _ _ (by rw [scells_len]; omega), scells_len, Nat.sub_self, List.set_cons_zero]
theorem set_undo (a b : List SS) (q : SS) (x : ByteArray) : (scells (a ++ q :: b)).toArray.setIfInBounds (a.length * 2 + 1) (.string x) = (scells (a ++ (q.1, x) :: b)).toArray := by
 rw [scells_mid, scells_mid, List.setIfInBounds_toArray, List.set_append_right _ _ (by rw [scells_len]; omega), scells_len, show a.length * 2 + 1 - a.length * 2 = 1 by omega, List.set_cons_succ, List.set_cons_zero]
def RsI (st : List SS) (blk bd : List Value) (D G : Nat) (w : World) (i : Nat) (wr : World) : Prop := wr.heap[w.heap.size]? = some (.cells blk.toArray 130 (0, 0)) ∧ wr.heap[w.heap.size + 1]? = some (.cells noS.toArray 122 (0, 0)) ∧ wr.heap[D]? = some (.cells bd.toArray 182 (0, 0)) ∧ wr.heap[G]? = some (.cells (scells (st.take i ++ List.replicate (st.length - i) none2)).toArray 58 (0, 0)) ∧ Fr (fun _ => False) w wr
set_option maxRecDepth 100000 in
set_option maxHeartbeats 8000000 in
theorem readSaga_ok (w : World) (id : Nat) (st : List SS) (hok : sagaOk id st = true) : Calls Tryz.prog 155 #[.agg (ldB 2 (bodyS id st.length (six st) 6) 4).toArray] w fun e w' => e = .returned (.tuple #[.agg (sagaC id st.length (six st)).toArray, .bool true]) ∧ Fr (fun _ => False) w w' := by
 have hlift : Tryz.prog.follows .mixedOrders = true := by kernel_rfl
 obtain ⟨hid1, hid2, hn1, h6, h8⟩ : (1 : Int) ≤ id ∧ (id : Int) ≤ 1000 ∧ 1 ≤ st.length ∧ st.length ≤ 6 ∧ ∀ p ∈ st, p.1.size ≤ 8 ∧ p.2.size ≤ 8 := of_decide_eq_true hok
 have hbl : (bodyS id st.length (six st) 6).length = 124 := bodyS_len id st.length (six st) (six_ok h8) 6 (by rw [six_len _ h6]; omega) (by omega)
 have hb1 : ∀ v ∈ bodyS id st.length (six st) 6, v.oneCell' = true := bodyS_one _ _ _ _
 have hll : (ldB 2 (bodyS id st.length (six st) 6) 4).length = 128 := ldB_len 2 _ hbl 4 (by omega)
 have hl1 := ldB_one 2 _ hb1 4
 obtain ⟨blk, HB⟩ : ∃ blk, Hid (blk = ldB 2 (bodyS id st.length (six st) 6) 4) := ⟨_, rfl⟩
 obtain ⟨bd, HD⟩ : ∃ bd, Hid (bd = bodyS id st.length (six st) 6) := ⟨_, rfl⟩
 have HRD : Hid (rdB blk 4 = bd) := by unfold Hid; rw [HB.out, HD.out]; exact rdB_ldB 2 _ hbl
 rw [← HB.out] at hll hl1 ⊢
 rw [← HD.out] at hbl hb1
 have hneq : ∀ w', (binOp .neq 130 (.agg blk.toArray) (.agg blk.toArray)).run Tryz.prog w' = .ok (.bool false) w' := by
  intro w'
  rw [run_neq_struct, equal_self 9998 blk.toArray w' (by rw [HB.out]; exact ldB_ints 2 _ (by rw [← HD.out]; exact hbl) (bodyS_ints _ _ _ _))]
  rfl
 obtain ⟨W, HW⟩ : ∃ W, Hid (W = (w.alloc (.cells blk.toArray 130)).alloc (.cells #[.int .i64 0, .int .i64 0, .string ⟨#[]⟩, .string ⟨#[]⟩, .string ⟨#[]⟩, .string ⟨#[]⟩, .string ⟨#[]⟩, .string ⟨#[]⟩, .string ⟨#[]⟩, .string ⟨#[]⟩, .string ⟨#[]⟩, .string ⟨#[]⟩, .string ⟨#[]⟩, .string ⟨#[]⟩] 122)) := ⟨_, rfl⟩
 have hF : Fr (fun _ => False) w W := by rw [HW.out]; exact ((Fr.refl _ _).alloc _).alloc _
 have r0 : W.heap[w.heap.size]? = some (.cells blk.toArray 130 (0, 0)) := by rw [HW.out, heap_alloc_lt _ _ _ (by simp)]; exact heap_alloc_at _ _
 have r1 : W.heap[w.heap.size + 1]? = some (.cells noS.toArray 122 (0, 0)) := by rw [HW.out]; exact heap_alloc2_new w _ _
 have hM : ((w.alloc (.cells blk.toArray 130)).alloc (.cells #[.int .i64 0, .int .i64 0, .string ⟨#[]⟩, .string ⟨#[]⟩, .string ⟨#[]⟩, .string ⟨#[]⟩, .string ⟨#[]⟩, .string ⟨#[]⟩, .string ⟨#[]⟩, .string ⟨#[]⟩, .string ⟨#[]⟩, .string ⟨#[]⟩, .string ⟨#[]⟩, .string ⟨#[]⟩] 122)).rangeAt w.heap.size 0 blk := by rw [← HW.out]; exact fun j v hv => (cell_of_row W _ (0 + j) _ _ _ r0).trans (by simpa using hv)
 go_enter Tryz.func155, Tryz.ntmps155
 go_wp2_with (first | (refine wpList_load_mid rfl 130 _ rfl w.heap.size 0 ?_ _ _ hM Tryz.underlying130 rfl ?_ ?_; rfl; (rw [block_size, hll])))
 rw [← HW.out]
 refine (rcread_ok W blk hll hl1).mono ?_
 rintro e w2 ⟨rfl, hf2⟩
 rw [HRD.out]
 have r02 := hf2.keep r0 (fun h => h)
 have r12 := hf2.keep r1 (fun h => h)
 have hF2 : Fr (fun _ => False) w w2 := hF.trans hf2 (fun _ _ h => h)
 clear HW hM r0 r1 hF hf2
 have hzr := heap_alloc_at w2 (.cells Tryz.zeroCells182 182)
 rw [zeroB_eq] at hzr
 have hst := run_store_body hzr (by simp) hbl hb1
 have hr3 := setRow_heap (w2.alloc (.cells (List.replicate 124 zv).toArray 182)) w2.heap.size _ bd.toArray 182 (0, 0) hzr
 have hf3 : Fr (fun _ => False) w2 ((w2.alloc (.cells (List.replicate 124 zv).toArray 182)).setRow w2.heap.size bd.toArray) := Fr.setRow (S := fun _ => False) ((Fr.refl _ _).alloc _) _ (fun h => by omega) _
 obtain ⟨W3, HW3⟩ : ∃ W3, Hid (W3 = (w2.alloc (.cells (List.replicate 124 zv).toArray 182)).setRow w2.heap.size bd.toArray) := ⟨_, rfl⟩
 rw [← HW3.out] at hst hr3 hf3
 rw [← zeroB_eq] at hst
 have hwl := hF2.size
 have hw0 : w.heap.size + 1 < w2.heap.size := lt_of_heap r12
 have c2 : W3.cell? ⟨w2.heap.size, 2, none⟩ = some (.int .u8 (st.length : Int)) := (cell_of_row _ _ 2 _ _ _ hr3).trans (by rw [HD.out]; rfl)
 have r03 := hf3.keep r02 (fun h => h)
 have r13 := hf3.keep r12 (fun h => h)
 have hF3 : Fr (fun _ => False) w W3 := hF2.trans hf3 (fun _ _ h => h)
 have hmk := mkS st.length hn1 h6 W3
 have hmn : min (st.length : Int) 6 = st.length := by omega
 have hn6 : (st.length : Int) ≤ 6 := by omega
 have hfG : Fr (fun _ => False) W3 (W3.alloc (.cells (scells (List.replicate st.length none2)).toArray 58)) := (Fr.refl _ _).alloc _
 have rG := heap_alloc_at W3 (.cells (scells (List.replicate st.length none2)).toArray 58)
 obtain ⟨W4, HW4⟩ : ∃ W4, Hid (W4 = W3.alloc (.cells (scells (List.replicate st.length none2)).toArray 58)) := ⟨_, rfl⟩
 rw [← HW4.out] at hmk hfG rG
 have HI : Hid (RsI st blk bd w2.heap.size W3.heap.size w 0 W4) := ⟨hfG.keep r03 (fun h => h), hfG.keep r13 (fun h => h), hfG.keep hr3 (fun h => h), by simpa using rG, hF3.trans hfG (fun _ _ h => h)⟩
 have hDG : w2.heap.size < W3.heap.size := lt_of_heap hr3
 clear HW3 HW4 hzr hf3 hfG rG r03 r13 r02 r12 hr3
 go_wp2_with (first | (refine wpList_store 182 (w' := W3) _ _ rfl rfl ?_ ?_; exact hst) | (refine wpList_makeSlice 38 (.tmp 15) (.tmp 15) rfl rfl hmk ?_))
 go_loopw [19] (fun c wr => ∃ i : Nat, i ≤ st.length ∧ c = .int .i64 i ∧ Hid (RsI st blk bd w2.heap.size W3.heap.size w i wr)) (fun c _ => st.length - (intOf c).toNat)
 case atStart => exact ⟨0, by omega, rfl, HI⟩
 case round =>
  obtain ⟨i, hi, rfl, HR⟩ := hrel
  clear HI hst c2 hmk
  by_cases hlt : i < st.length
  ·have hlt' : (i : Int) < st.length := by omega
   obtain ⟨p, hpi⟩ : ∃ p, st[i]? = some p := ⟨_, List.getElem?_eq_getElem hlt⟩
   have hp8 := h8 p (List.mem_of_getElem? hpi)
   go_wp2
   have hp6 : (six st)[i]? = some p := by rw [six, List.getElem?_append_left hlt]; exact hpi
   obtain ⟨a, z, hcut, hal⟩ := body_cut id st.length (six st) (six_len _ h6) (six_ok h8) i p hp6
   rw [← HD.out] at hcut
   have htl : (st.take i).length = i := by rw [List.length_take]; omega
   have hbyte : bd.toArray[3 + i * 17]? = some (.int .u8 ((p.1.size * 16 + p.2.size : Nat) : Int)) := by
    rw [List.getElem?_toArray, hcut, List.getElem?_append_right (by omega), hal, Nat.sub_self]; rfl
   have hcellA : ∀ j, j < 16 → bd.toArray[3 + i * 17 + 1 + j]? = (pad8 p.1 ++ pad8 p.2)[j]? := by
    intro j hj
    have hlen : (pad8 p.1 ++ pad8 p.2).length = 16 := by rw [List.length_append, pad8_len _ hp8.1, pad8_len _ hp8.2]
    rw [List.getElem?_toArray, hcut, List.getElem?_append_right (by omega), hal, show 3 + i * 17 + 1 + j - (3 + i * 17) = j + 1 by omega, stepB, List.cons_append, List.getElem?_cons_succ, List.getElem?_append_left (by omega)]
   have hcell0 : ∀ j (hj : j < (p.1.data.toList ++ List.replicate (8 - p.1.size) (0 : UInt8)).length), bd.toArray[3 + i * 17 + 1 + j]? = some (.int .u8 ((p.1.data.toList ++ List.replicate (8 - p.1.size) (0 : UInt8))[j].toNat : Int)) := by
    intro j hj
    have hj8 : j < 8 := by rw [List.length_append, List.length_replicate, ← Lib.size_eq] at hj; omega
    rw [hcellA j (by omega), List.getElem?_append_left (by rw [pad8_len _ hp8.1]; exact hj8), pad8_map, List.getElem?_map, List.getElem?_eq_getElem hj]; rfl
   have hcell1 : ∀ j (hj : j < (p.2.data.toList ++ List.replicate (8 - p.2.size) (0 : UInt8)).length), bd.toArray[3 + i * 17 + 1 + 8 + j]? = some (.int .u8 ((p.2.data.toList ++ List.replicate (8 - p.2.size) (0 : UInt8))[j].toNat : Int)) := by
    intro j hj
    have hj8 : j < 8 := by rw [List.length_append, List.length_replicate, ← Lib.size_eq] at hj; omega
    rw [show 3 + i * 17 + 1 + 8 + j = 3 + i * 17 + 1 + (8 + j) by omega, hcellA (8 + j) (by omega), List.getElem?_append_right (by rw [pad8_len _ hp8.1]; omega), pad8_len _ hp8.1, show 8 + j - 8 = j by omega, pad8_map, List.getElem?_map, List.getElem?_eq_getElem hj]; rfl
   have hsh : ((p.1.size : Int) * 16 + p.2.size) / 16 = p.1.size := by omega
   have hsa : ((p.1.size : Int) * 16 + p.2.size) % 16 = p.2.size := by omega
   have hrG : wr.heap[W3.heap.size]? = some (.cells (scells (st.take i ++ none2 :: List.replicate (st.length - (i + 1)) none2)).toArray 58 (0, 0)) := by
    have := HR.out.2.2.2.1
    rwa [show st.length - i = (st.length - (i + 1)) + 1 by omega, List.replicate_succ] at this
   have hrD := HR.out.2.2.1
   obtain ⟨U7, HU7⟩ : ∃ U7, Hid (U7 = wr.drew) := ⟨_, rfl⟩
   have hfU7 : Fr (fun _ => False) wr U7 := by rw [HU7.out]; exact (Fr.refl _ _).drew
   let SU7 : World → Prop := fun w' => w'.heap[w2.heap.size]? = some (.cells bd.toArray 182 (0, 0))
   have hS : SU7 U7 := hfU7.keep hrD (fun h => h)
   refine wp_region_held (S := SU7) hlift ?_
   change wpAnyH _ _ _ _ SU7 _ _ _ (World.drew _)
   rw [← HU7.out]
   clear HU7
   refine tkE (S := SU7) (i := 0) (oi := ⟨some 25, .move (.tmp 5), _, _, _, none⟩) (v := .slice (some ⟨W3.heap.size, 0, none⟩) st.length st.length) rfl hS ?_
   simp only [Act.put, lsE, lsZ, lsS]
   refine tkE (S := SU7) (i := 1) (oi := ⟨some 26, .move (.tmp 6), _, _, _, none⟩) (v := .int .i64 i) rfl hS ?_
   simp only [Act.put, lsE, lsZ, lsS]
   refine tkE (S := SU7) (i := 2) (oi := ⟨some 27, .move (.tmp 7), _, _, _, none⟩) (v := .int .i64 (3 + (i : Int) * 17)) rfl hS ?_
   simp only [Act.put, lsE, lsZ, lsS]
   refine tkY (S := SU7) (i := 3) (oi := ⟨some 28, .binOp .add 3 (.tmp 27) (.const (.int .i64 1)) 3, _, _, _, none⟩) (v := .int .i64 ((3 + i * 17 + 1 : Nat) : Int)) rfl (Or.inl ⟨rfl, fun w' _ => exec_add rfl rfl rfl (by push_cast; omega) (by omega) (by omega) w'⟩) hS ?_
   simp only [Act.put, lsE, lsZ, lsS]
   refine tkE (S := SU7) (i := 5) (oi := ⟨some 30, .move (.tmp 7), _, _, _, none⟩) (v := .int .i64 (3 + (i : Int) * 17)) rfl hS ?_
   simp only [Act.put, lsE, lsZ, lsS]
   refine tkY (S := SU7) (i := 6) (oi := ⟨some 31, .indexAddr 182 (.tmp 4) (.tmp 30), _, _, _, none⟩) (v := .pointer (some ⟨w2.heap.size, 3 + i * 17, none⟩)) rfl (Or.inl ⟨rfl, fun w' _ => exec_indexAddr 182 _ _ rfl rfl rfl (by rw [show (3 + (i : Int) * 17) = ((3 + i * 17 : Nat) : Int) by omega]; exact index_body _ _ (by omega) w')⟩) hS ?_
   simp only [Act.put, lsE, lsZ, lsS]
   refine tkY (S := SU7) (i := 7) (oi := ⟨some 32, .load 5 (.tmp 31), _, _, _, none⟩) (v := .int .u8 ((p.1.size * 16 + p.2.size : Nat) : Int)) rfl (Or.inl ⟨rfl, fun w' hs => exec_load 5 (.tmp 31) rfl ⟨w2.heap.size, 3 + i * 17, none⟩ rfl (run_loadAt_one ((cell_of_row w' _ _ _ _ _ hs).trans hbyte) Tryz.underlying5 rfl)⟩) hS ?_
   simp only [Act.put, lsE, lsZ, lsS]
   refine tkY (S := SU7) (i := 8) (oi := ⟨some 33, .binOp .shr 5 (.tmp 32) (.const (.int .u64 4)) 185, _, _, _, none⟩) (v := .int .u8 (p.1.size : Int)) rfl (Or.inl ⟨rfl, fun _ _ => by go_simp⟩) hS ?_
   simp only [Act.put, lsE, lsZ, lsS]
   refine wpAnyH_all (rs := [4]) (by kernel_rfl) (by simp) ?_
   intro i4 hi4
   obtain rfl : i4 = 4 := by simpa using hi4
   refine wpOp_call (o := ⟨some 29, .call { callee := .value (.func 97), args := #[(.tmp 4), (.tmp 28), (.const (.int .i64 8))], argTypes := _ }, _, _, _, none⟩) (f := 97) (args := #[.pointer (some ⟨w2.heap.size, 0, none⟩), .int .i64 ((3 + i * 17 + 1 : Nat) : Int), .int .i64 8]) rfl rfl (by kernel_rfl) ?_
   refine (bpart_ok U7 w2.heap.size (3 + i * 17 + 1) 8 (by omega) (by omega)).mono ?_
   rintro e w' ⟨rfl, rfl⟩
   refine ⟨_, rfl, hS, ?_⟩
   simp only [Act.put, lsE, lsZ, lsS]
   refine wpAnyH_all (rs := [9]) (by kernel_rfl) (by simp) ?_
   intro i9 hi9
   obtain rfl : i9 = 9 := by simpa using hi9
   refine wpOp_call (o := ⟨some 34, .call { callee := .value (.func 166), args := #[(.tmp 29), (.tmp 33)], argTypes := _ }, _, _, _, none⟩) (f := 166) (args := #[.slice (some ⟨w2.heap.size, 3 + i * 17 + 1, none⟩) 8 8, .int .u8 (p.1.size : Int)]) rfl rfl (by kernel_rfl) ?_
   refine (text_ok w' w2.heap.size (3 + i * 17 + 1) (p.1.data.toList ++ List.replicate (8 - p.1.size) (0 : UInt8)) p.1.size (by rw [List.length_append, List.length_replicate, ← Lib.size_eq]; omega) (by omega) (fun j hj => (cell_of_row w' _ _ _ _ _ hS).trans (hcell0 j hj))).mono ?_
   rintro e w'' ⟨rfl, rfl⟩
   rw [text_back]
   refine ⟨_, rfl, hS, ?_⟩
   simp only [Act.put, lsE, lsZ, lsS]
   refine tkY (S := SU7) (i := 10) (oi := ⟨some 35, .indexAddr 38 (.tmp 25) (.tmp 26), _, _, _, none⟩) (v := .pointer (some ⟨W3.heap.size, i * 2, none⟩)) rfl (Or.inl ⟨rfl, fun w' _ => exec_indexAddr 38 _ _ rfl rfl rfl (index_steps _ _ i hlt w')⟩) hS ?_
   simp only [Act.put, lsE, lsZ, lsS]
   refine tkE (S := SU7) (i := 11) (oi := ⟨some 36, .fieldAddr 58 (.tmp 35) 0, _, _, _, none⟩) (v := .pointer (some ⟨W3.heap.size, i * 2, none⟩)) rfl hS ?_
   simp only [Act.put, lsE, lsZ, lsS]
   refine wpAnyH_all (rs := [12]) (by kernel_rfl) (by simp) ?_
   intro i12 hi12
   obtain rfl : i12 = 12 := by simpa using hi12
   have g1 := hfU7.keep hrG (fun h => h)
   have hlt0 : i * 2 < (scells (st.take i ++ none2 :: List.replicate (st.length - (i + 1)) none2)).toArray.size := by rw [List.size_toArray, scells_len, List.length_append, List.length_cons, htl]; omega
   have hst := run_storeAt_one (P := Tryz.prog) (w := w'') (a := ⟨W3.heap.size, i * 2, none⟩) (t := 9) (v := .string p.1) ((cell_of_row w'' _ _ _ _ _ g1).trans (Array.getElem?_eq_getElem hlt0)) (frozen_of_row w'' _ _ _ _ g1) (by kernel_rfl) rfl
   have g2 : (w''.setCell ⟨W3.heap.size, i * 2, none⟩ (.string p.1)).heap[W3.heap.size]? = some (.cells (scells (st.take i ++ (p.1, none2.2) :: List.replicate (st.length - (i + 1)) none2)).toArray 58 (0, 0)) := by
    have hset := set_do (st.take i) (List.replicate (st.length - (i + 1)) none2) none2 p.1
    rw [htl] at hset
    rw [heap_setCell_at _ _ _ _ _ _ g1, hset]
   have hfW7 : Fr (fun b => b = W3.heap.size) wr (w''.setCell ⟨W3.heap.size, i * 2, none⟩ (.string p.1)) := (hfU7.mono (fun _ _ h => h.elim)).trans (Fr.set1 _ _ _ _) (fun _ _ h => h)
   obtain ⟨W7, HW7⟩ : ∃ W7, Hid (W7 = w''.setCell ⟨W3.heap.size, i * 2, none⟩ (.string p.1)) := ⟨_, rfl⟩
   rw [← HW7.out] at hst g2 hfW7
   have rDW7 := hfW7.keep hrD (by omega)
   clear HW7 g1
   refine wpOp_skip (o := ⟨none, .store 9 (.tmp 36) (.tmp 34), _, _, _, none⟩) (w' := W7) rfl rfl (exec_store 9 _ _ rfl ⟨W3.heap.size, i * 2, none⟩ _ rfl rfl hst) ⟨rDW7, ?_⟩
   simp only [Act.put]
   refine wpAnyH_done (by kernel_rfl) ?_ _
   clear hst hS
   go_wp2
   obtain ⟨U8, HU8⟩ : ∃ U8, Hid (U8 = W7.drew) := ⟨_, rfl⟩
   have hfU8 : Fr (fun _ => False) W7 U8 := by rw [HU8.out]; exact (Fr.refl _ _).drew
   let SU8 : World → Prop := fun w' => w'.heap[w2.heap.size]? = some (.cells bd.toArray 182 (0, 0))
   have hS : SU8 U8 := hfU8.keep rDW7 (fun h => h)
   refine wp_region_held (S := SU8) hlift ?_
   change wpAnyH _ _ _ _ SU8 _ _ _ (World.drew _)
   rw [← HU8.out]
   clear HU8
   refine tkE (S := SU8) (i := 0) (oi := ⟨some 37, .move (.tmp 5), _, _, _, none⟩) (v := .slice (some ⟨W3.heap.size, 0, none⟩) st.length st.length) rfl hS ?_
   simp only [Act.put, lsE, lsZ, lsS]
   refine tkE (S := SU8) (i := 1) (oi := ⟨some 38, .move (.tmp 6), _, _, _, none⟩) (v := .int .i64 i) rfl hS ?_
   simp only [Act.put, lsE, lsZ, lsS]
   refine tkE (S := SU8) (i := 2) (oi := ⟨some 39, .move (.tmp 7), _, _, _, none⟩) (v := .int .i64 (3 + (i : Int) * 17)) rfl hS ?_
   simp only [Act.put, lsE, lsZ, lsS]
   refine tkY (S := SU8) (i := 3) (oi := ⟨some 40, .binOp .add 3 (.tmp 39) (.const (.int .i64 1)) 3, _, _, _, none⟩) (v := .int .i64 ((3 + i * 17 + 1 : Nat) : Int)) rfl (Or.inl ⟨rfl, fun w' _ => exec_add rfl rfl rfl (by push_cast; omega) (by omega) (by omega) w'⟩) hS ?_
   simp only [Act.put, lsE, lsZ, lsS]
   refine tkY (S := SU8) (i := 4) (oi := ⟨some 41, .binOp .add 3 (.tmp 40) (.const (.int .i64 8)) 3, _, _, _, none⟩) (v := .int .i64 ((3 + i * 17 + 1 + 8 : Nat) : Int)) rfl (Or.inl ⟨rfl, fun w' _ => exec_add rfl rfl rfl (by push_cast; omega) (by omega) (by omega) w'⟩) hS ?_
   simp only [Act.put, lsE, lsZ, lsS]
   refine tkE (S := SU8) (i := 6) (oi := ⟨some 43, .move (.tmp 7), _, _, _, none⟩) (v := .int .i64 (3 + (i : Int) * 17)) rfl hS ?_
   simp only [Act.put, lsE, lsZ, lsS]
   refine tkY (S := SU8) (i := 7) (oi := ⟨some 44, .indexAddr 182 (.tmp 4) (.tmp 43), _, _, _, none⟩) (v := .pointer (some ⟨w2.heap.size, 3 + i * 17, none⟩)) rfl (Or.inl ⟨rfl, fun w' _ => exec_indexAddr 182 _ _ rfl rfl rfl (by rw [show (3 + (i : Int) * 17) = ((3 + i * 17 : Nat) : Int) by omega]; exact index_body _ _ (by omega) w')⟩) hS ?_
   simp only [Act.put, lsE, lsZ, lsS]
   refine tkY (S := SU8) (i := 8) (oi := ⟨some 45, .load 5 (.tmp 44), _, _, _, none⟩) (v := .int .u8 ((p.1.size * 16 + p.2.size : Nat) : Int)) rfl (Or.inl ⟨rfl, fun w' hs => exec_load 5 (.tmp 44) rfl ⟨w2.heap.size, 3 + i * 17, none⟩ rfl (run_loadAt_one ((cell_of_row w' _ _ _ _ _ hs).trans hbyte) Tryz.underlying5 rfl)⟩) hS ?_
   simp only [Act.put, lsE, lsZ, lsS]
   refine tkY (S := SU8) (i := 9) (oi := ⟨some 46, .binOp .and 5 (.tmp 45) (.const (.int .u8 15)) 5, _, _, _, none⟩) (v := .int .u8 (p.2.size : Int)) rfl (Or.inl ⟨rfl, fun _ _ => by go_simp; exact and_lens _ _ hp8.1 hp8.2⟩) hS ?_
   simp only [Act.put, lsE, lsZ, lsS]
   refine wpAnyH_all (rs := [5]) (by kernel_rfl) (by simp) ?_
   intro i5 hi5
   obtain rfl : i5 = 5 := by simpa using hi5
   refine wpOp_call (o := ⟨some 42, .call { callee := .value (.func 97), args := #[(.tmp 4), (.tmp 41), (.const (.int .i64 8))], argTypes := _ }, _, _, _, none⟩) (f := 97) (args := #[.pointer (some ⟨w2.heap.size, 0, none⟩), .int .i64 ((3 + i * 17 + 1 + 8 : Nat) : Int), .int .i64 8]) rfl rfl (by kernel_rfl) ?_
   refine (bpart_ok U8 w2.heap.size (3 + i * 17 + 1 + 8) 8 (by omega) (by omega)).mono ?_
   rintro e w' ⟨rfl, rfl⟩
   refine ⟨_, rfl, hS, ?_⟩
   simp only [Act.put, lsE, lsZ, lsS]
   refine wpAnyH_all (rs := [10]) (by kernel_rfl) (by simp) ?_
   intro i10 hi10
   obtain rfl : i10 = 10 := by simpa using hi10
   refine wpOp_call (o := ⟨some 47, .call { callee := .value (.func 166), args := #[(.tmp 42), (.tmp 46)], argTypes := _ }, _, _, _, none⟩) (f := 166) (args := #[.slice (some ⟨w2.heap.size, 3 + i * 17 + 1 + 8, none⟩) 8 8, .int .u8 (p.2.size : Int)]) rfl rfl (by kernel_rfl) ?_
   refine (text_ok w' w2.heap.size (3 + i * 17 + 1 + 8) (p.2.data.toList ++ List.replicate (8 - p.2.size) (0 : UInt8)) p.2.size (by rw [List.length_append, List.length_replicate, ← Lib.size_eq]; omega) (by omega) (fun j hj => (cell_of_row w' _ _ _ _ _ hS).trans (hcell1 j hj))).mono ?_
   rintro e w'' ⟨rfl, rfl⟩
   rw [text_back]
   refine ⟨_, rfl, hS, ?_⟩
   simp only [Act.put, lsE, lsZ, lsS]
   refine tkY (S := SU8) (i := 11) (oi := ⟨some 48, .indexAddr 38 (.tmp 37) (.tmp 38), _, _, _, none⟩) (v := .pointer (some ⟨W3.heap.size, i * 2, none⟩)) rfl (Or.inl ⟨rfl, fun w' _ => exec_indexAddr 38 _ _ rfl rfl rfl (index_steps _ _ i hlt w')⟩) hS ?_
   simp only [Act.put, lsE, lsZ, lsS]
   refine tkE (S := SU8) (i := 12) (oi := ⟨some 49, .fieldAddr 58 (.tmp 48) 1, _, _, _, none⟩) (v := .pointer (some ⟨W3.heap.size, i * 2 + 1, none⟩)) rfl hS ?_
   simp only [Act.put, lsE, lsZ, lsS]
   refine wpAnyH_all (rs := [13]) (by kernel_rfl) (by simp) ?_
   intro i13 hi13
   obtain rfl : i13 = 13 := by simpa using hi13
   have g1 := hfU8.keep g2 (fun h => h)
   have hlt0 : i * 2 + 1 < (scells (st.take i ++ (p.1, none2.2) :: List.replicate (st.length - (i + 1)) none2)).toArray.size := by rw [List.size_toArray, scells_len, List.length_append, List.length_cons, htl]; omega
   have hst := run_storeAt_one (P := Tryz.prog) (w := w'') (a := ⟨W3.heap.size, i * 2 + 1, none⟩) (t := 9) (v := .string p.2) ((cell_of_row w'' _ _ _ _ _ g1).trans (Array.getElem?_eq_getElem hlt0)) (frozen_of_row w'' _ _ _ _ g1) (by kernel_rfl) rfl
   have g2 : (w''.setCell ⟨W3.heap.size, i * 2 + 1, none⟩ (.string p.2)).heap[W3.heap.size]? = some (.cells (scells (st.take i ++ (p.1, p.2) :: List.replicate (st.length - (i + 1)) none2)).toArray 58 (0, 0)) := by
    have hset := set_undo (st.take i) (List.replicate (st.length - (i + 1)) none2) (p.1, none2.2) p.2
    rw [htl] at hset
    rw [heap_setCell_at _ _ _ _ _ _ g1, hset]
   have hfW8 : Fr (fun b => b = W3.heap.size) W7 (w''.setCell ⟨W3.heap.size, i * 2 + 1, none⟩ (.string p.2)) := (hfU8.mono (fun _ _ h => h.elim)).trans (Fr.set1 _ _ _ _) (fun _ _ h => h)
   obtain ⟨W8, HW8⟩ : ∃ W8, Hid (W8 = w''.setCell ⟨W3.heap.size, i * 2 + 1, none⟩ (.string p.2)) := ⟨_, rfl⟩
   rw [← HW8.out] at hst g2 hfW8
   have rDW8 := hfW8.keep rDW7 (by omega)
   clear HW8 g1
   refine wpOp_skip (o := ⟨none, .store 9 (.tmp 49) (.tmp 47), _, _, _, none⟩) (w' := W8) rfl rfl (exec_store 9 _ _ rfl ⟨W3.heap.size, i * 2 + 1, none⟩ _ rfl rfl hst) ⟨rDW8, ?_⟩
   simp only [Act.put]
   refine wpAnyH_done (by kernel_rfl) ?_ _
   clear hst hS
   have hf8 : Fr (fun b => b = W3.heap.size) wr W8 := hfW7.trans hfW8 (fun _ _ h => h)
   have hG3 := hF3.size
   have HN : Hid (RsI st blk bd w2.heap.size W3.heap.size w (i + 1) W8) := by
    refine ⟨hf8.keep HR.out.1 (by omega), hf8.keep HR.out.2.1 (by omega), rDW8, ?_, HR.out.2.2.2.2.trans hf8 (fun b hb h => by omega)⟩
    rw [g2, List.take_add_one, hpi]
    simp
   clear hf8 hfW7 hfW8 rDW7 rDW8 hrD hrG hcell0 hcell1 hcellA hbyte hcut
   go_wp2
   go_roundw
   case rel => exact ⟨i + 1, by omega, by go_num, HN⟩
   case measure => simp [intOf]; omega
  ·obtain rfl : i = st.length := by omega
   have hM5 : wr.rangeAt w2.heap.size 0 bd := fun j v hv => (cell_of_row wr _ (0 + j) _ _ _ HR.out.2.2.1).trans (by simpa using hv)
   go_wp2_with (first | (refine wpList_load_mid rfl 182 _ rfl w2.heap.size 0 ?_ _ _ hM5 Tryz.underlying182 rfl ?_ ?_; rfl; (rw [body_size, hbl])))
   have HG : Calls Tryz.prog 165 #[.agg bd.toArray] wr fun e w' => e = .returned (.int .i64 id) ∧ Fr (fun _ => False) wr w' := by rw [HD.out]; exact getId_ok wr id (by omega) _
   refine HG.mono ?_
   rintro e w8 ⟨rfl, hf8⟩
   have hrows : w8.heap[W3.heap.size]? = some (.cells (scells st).toArray 58 (0, 0)) := by
    have := hf8.keep HR.out.2.2.2.1 (fun h => h)
    rwa [List.take_length, Nat.sub_self, List.replicate_zero, List.append_nil] at this
   have HNS := NewSaga_ok (cap := st.length) (rows_scells hrows) (id : Int)
   have k0 := hf8.keep HR.out.1 (fun h => h)
   have k1 := hf8.keep HR.out.2.1 (fun h => h)
   have hF8 : Fr (fun _ => False) w w8 := HR.out.2.2.2.2.trans hf8 (fun _ _ h => h)
   clear HG hM5 HR hf8 hrows
   go_wp2_with fail
   refine HNS.mono ?_
   rintro e w9 ⟨hns, hf9⟩
   rcases hns with ⟨_, rfl⟩ | ⟨hbad, _⟩
   ·have m0 := hf9.keep k0 (fun h => h)
    have m1 := hf9.keep k1 (fun h => h)
    have hF9 : Fr (fun _ => False) w w9 := hF8.trans hf9 (fun _ _ h => h)
    clear HNS k0 k1 hF8 hf9
    have hl := sagaC_len (id : Int) st.length _ (six_len _ h6)
    have zr := heap_alloc_at w9 (.cells noS.toArray 122)
    have hst := run_store14 zr noS_len hl (sagaC_one _ _ _)
    have rS := setRow_heap (w9.alloc (.cells noS.toArray 122)) w9.heap.size _ (sagaC (id : Int) st.length (six st)).toArray 122 (0, 0) zr
    have hfS : Fr (fun _ => False) w9 ((w9.alloc (.cells noS.toArray 122)).setRow w9.heap.size (sagaC (id : Int) st.length (six st)).toArray) := Fr.setRow (S := fun _ => False) ((Fr.refl _ _).alloc _) _ (fun h => by omega) _
    obtain ⟨WS, HWS⟩ : ∃ WS, Hid (WS = (w9.alloc (.cells noS.toArray 122)).setRow w9.heap.size (sagaC (id : Int) st.length (six st)).toArray) := ⟨_, rfl⟩
    rw [← HWS.out] at hst rS hfS
    have n0 := hfS.keep m0 (fun h => h)
    have n1 := hfS.keep m1 (fun h => h)
    have hFS : Fr (fun _ => False) w WS := hF9.trans hfS (fun _ _ h => h)
    clear HWS zr m0 m1 hF9 hfS
    go_wp2_with (first | (refine wpList_store 122 (w' := WS) _ _ rfl rfl ?_ ?_; exact hst))
    obtain ⟨US, HUS⟩ : ∃ US, Hid (US = WS.drew) := ⟨_, rfl⟩
    have hfUS : Fr (fun _ => False) WS US := by rw [HUS.out]; exact (Fr.refl _ _).drew
    let SU : World → Prop := fun w' => w'.heap[w9.heap.size]? = some (.cells (sagaC (id : Int) st.length (six st)).toArray 122 (0, 0)) ∧ w'.heap[w.heap.size]? = some (.cells blk.toArray 130 (0, 0))
    have hS : SU US := ⟨hfUS.keep rS (fun h => h), hfUS.keep n0 (fun h => h)⟩
    refine wp_region_held (S := SU) hlift ?_
    change wpAnyH _ _ _ _ SU _ _ _ (World.drew _)
    rw [← HUS.out]
    clear HUS
    refine tkE (S := SU) (i := 0) (oi := ⟨some 58, .move (.tmp 9), _, _, _, none⟩) (v := .nilIface) rfl hS ?_
    simp only [Act.put, lsE, lsZ, lsS]
    refine tkE (S := SU) (i := 1) (oi := ⟨some 59, .binOp .neq 36 (.tmp 58) (.const (.nilIface)) 36, _, _, _, none⟩) (v := .bool false) rfl hS ?_
    simp only [Act.put, lsE, lsZ, lsS]
    refine tkE (S := SU) (i := 2) (oi := ⟨some 60, .move (.tmp 59), _, _, _, none⟩) (v := .bool false) rfl hS ?_
    simp only [Act.put, lsE, lsZ, lsS]
    refine tkY (S := SU) (i := 3) (oi := ⟨some 61, .load 122 (.tmp 8), _, _, _, some (2, false)⟩) (v := .agg (sagaC (id : Int) st.length (six st)).toArray) rfl (Or.inl ⟨rfl, fun w' hs => exec_load 122 (.tmp 8) rfl ⟨w9.heap.size, 0, none⟩ rfl (load14 hs.1 h6)⟩) hS ?_
    simp only [Act.put, lsE, lsZ, lsS]
    refine tkY (S := SU) (i := 5) (oi := ⟨some 63, .load 130 (.tmp 1), _, _, _, some (2, false)⟩) (v := .agg blk.toArray) rfl (Or.inl ⟨rfl, fun w' hs => exec_load 130 (.tmp 1) rfl ⟨w.heap.size, 0, none⟩ rfl (run_loadAt_mid w' w.heap.size 0 130 blk _ (fun j v hv => (cell_of_row w' _ (0 + j) _ _ _ hs.2).trans (by simpa using hv)) Tryz.underlying130 rfl (by rw [block_size, hll]))⟩) hS ?_
    simp only [Act.put, lsE, lsZ, lsS]
    refine wpAnyH_all (rs := [4]) (by kernel_rfl) (by simp) ?_
    intro i4 hi4
    obtain rfl : i4 = 4 := by simpa using hi4
    refine wpOp_callW (o := ⟨some 62, .call { callee := .value (.func 62), args := #[.tmp 61], argTypes := _ }, _, _, _, some (2, false)⟩) (f := 62) (args := #[.agg (sagaC (id : Int) st.length (six st)).toArray]) rfl rfl (by kernel_rfl) ?_
    refine (sBlock_ok US id st (by omega) h6 h8).mono ?_
    rintro e wT ⟨rfl, hfT⟩
    rw [← HB.out]
    have hST : SU wT := ⟨hfT.keep hS.1 (fun h => h), hfT.keep hS.2 (fun h => h)⟩
    refine ⟨_, rfl, hST, ?_⟩
    simp only [Act.put, lsE, lsZ, lsS]
    refine tkY (S := SU) (i := 6) (oi := ⟨some 64, .binOp .neq 130 (.tmp 62) (.tmp 63) 130, _, _, _, some (2, false)⟩) (v := .bool false) rfl (Or.inl ⟨rfl, fun w' _ => exec_neq_block rfl rfl rfl (hneq w')⟩) hST ?_
    simp only [Act.put, lsE, lsZ, lsS]
    refine tkE (S := SU) (i := 7) (oi := ⟨some 65, .pick (Operand.tmp 60) (Operand.const (.bool true)) (Operand.tmp 64), _, _, _, none⟩) (v := .bool false) rfl hST ?_
    simp only [Act.put, lsE, lsZ, lsS]
    refine wpAnyH_done (by kernel_rfl) ?_ _
    have hFT : Fr (fun _ => False) w wT := (hFS.trans hfUS (fun _ _ h => h)).trans hfT (fun _ _ h => h)
    have p1 := hfT.keep (hfUS.keep n1 (fun h => h)) (fun h => h)
    have hMS : wT.rangeAt w9.heap.size 0 (sagaC (id : Int) st.length (six st)) := fun j v hv => (cell_of_row wT _ (0 + j) _ _ _ hST.1).trans (by simpa using hv)
    have hst2 := run_store14 p1 noS_len hl (sagaC_one _ _ _)
    have hRE := setRow_heap wT (w.heap.size + 1) _ (sagaC (id : Int) st.length (six st)).toArray 122 (0, 0) p1
    obtain ⟨WE, HWE⟩ : ∃ WE, Hid (WE = wT.setRow (w.heap.size + 1) (sagaC (id : Int) st.length (six st)).toArray) := ⟨_, rfl⟩
    have hFE : Fr (fun _ => False) w WE := by rw [HWE.out]; exact hFT.setRow _ (fun h => by omega) _
    rw [← HWE.out] at hst2 hRE
    clear HWE hst hS hST rS n0 n1 hFS hfUS hfT hFT p1
    go_wp2_with (first | (refine wpList_load_mid rfl 122 _ rfl w9.heap.size 0 ?_ _ _ hMS Tryz.underlying122 rfl ?_ ?_; rfl; (rw [rsaga_size, hl])) | (refine wpList_store 122 (w' := WE) _ _ rfl rfl ?_ ?_; exact hst2))
    refine bodyPost_ret (results_row_tmp Tryz.results155 _ _ (w.heap.size + 1) 122 _ (0, 0) _ rfl hRE Tryz.underlying122 rfl (by rw [rsaga_size, List.size_toArray, hl])) rfl ⟨rfl, hFE⟩
   ·rw [hok] at hbad; cases hbad
end Go.Proofs.YteebjgfalllbjaaGreatDoor
namespace Go.Proofs.YteebjgfalllbjaaGreatDoor
open Go.RowKit
theorem saga_box (w : World) (id : Int) (st : List SS) (h6 : st.length ≤ 6) : ∃ WS, (Instr.storeAt 122 (.pointer (some ⟨w.heap.size, 0, none⟩)) (.agg (sagaC id st.length (six st)).toArray)).run Tryz.prog (w.alloc (.cells noS.toArray 122)) = .ok () WS ∧ WS.heap[w.heap.size]? = some (.cells (sagaC id st.length (six st)).toArray 122 (0, 0)) ∧ Fr (fun _ => False) w WS := by
 have hl := sagaC_len id st.length _ (six_len _ h6)
 have zr := heap_alloc_at w (.cells noS.toArray 122)
 exact ⟨_, run_store14 zr noS_len hl (sagaC_one _ _ _), setRow_heap _ _ _ _ _ _ zr, Fr.setRow (S := fun _ => False) ((Fr.refl _ _).alloc _) _ (fun h => by omega) _⟩
theorem blk_kind (id : Nat) (st : List SS) (h6 : st.length ≤ 6) (h8 : ∀ p ∈ st, p.1.size ≤ 8 ∧ p.2.size ≤ 8) : (ldB 2 (bodyS id st.length (six st) 6) 4)[0]? = some (.int .u8 2) := by
 have hbl : (bodyS id st.length (six st) 6).length = 124 := bodyS_len id st.length (six st) (six_ok h8) 6 (by rw [six_len _ h6]; omega) (by omega)
 exact ldB_kind 2 _ hbl 0 (by omega)
set_option maxRecDepth 100000 in
set_option maxHeartbeats 1000000 in
theorem rcRead_ok {w : World} {R : Nat} {Q : World → Prop} {fv : Fn} {fa fc : Array Value} (id : Nat) (st : List SS) (hok : sagaOk id st = true) (HT : ∀ w', Fr (fun _ => False) w w' → Calls Tryz.prog 63 #[.pointer (some ⟨R, 0, none⟩), .agg (sagaC id st.length (six st)).toArray] w' fun e w'' => e = .returned (.bool true) ∧ Q w'') :
  Calls Tryz.prog 116 #[.agg (ldB 2 (bodyS id st.length (six st) 6) 4).toArray, .func (.func 63) #[.pointer (some ⟨R, 0, none⟩)] #[], .func fv fa fc] w fun e w' => e = .returned (.bool true) ∧ Q w' := by
 obtain ⟨hid1, hid2, hn1, h6, h8⟩ : (1 : Int) ≤ id ∧ (id : Int) ≤ 1000 ∧ 1 ≤ st.length ∧ st.length ≤ 6 ∧ ∀ p ∈ st, p.1.size ≤ 8 ∧ p.2.size ≤ 8 := of_decide_eq_true hok
 have hbl : (bodyS id st.length (six st) 6).length = 124 := bodyS_len id st.length (six st) (six_ok h8) 6 (by rw [six_len _ h6]; omega) (by omega)
 have hll : (ldB 2 (bodyS id st.length (six st) 6) 4).length = 128 := ldB_len 2 _ hbl 4 (by omega)
 have hk := blk_kind id st h6 h8
 have HS := fun w' => readSaga_ok w' id st hok
 obtain ⟨blk, HB⟩ : ∃ blk, Hid (blk = ldB 2 (bodyS id st.length (six st) 6) 4) := ⟨_, rfl⟩
 rw [← HB.out] at hll hk HS ⊢
 have hrow := heap_alloc_at w (.cells blk.toArray 130)
 have hfa : Fr (fun _ => False) w (w.alloc (.cells blk.toArray 130)) := (Fr.refl _ _).alloc _
 have c0 : (w.alloc (.cells blk.toArray 130)).cell? ⟨w.heap.size, 0, none⟩ = some (.int .u8 2) := (cell_of_row _ _ 0 _ _ _ hrow).trans (by rw [List.getElem?_toArray]; exact hk)
 have hM : (w.alloc (.cells blk.toArray 130)).rangeAt w.heap.size 0 blk := fun j v hv => (cell_of_row _ _ (0 + j) _ _ _ hrow).trans (by simpa using hv)
 go_enter Tryz.func116, Tryz.ntmps116
 go_wp2_with (first | (refine wpList_load_mid rfl 130 _ rfl w.heap.size 0 ?_ _ _ hM Tryz.underlying130 rfl ?_ ?_; rfl; (rw [block_size, hll])))
 refine (HS _).mono ?_
 rintro e w2 ⟨rfl, hf2⟩
 have hF2 : Fr (fun _ => False) w w2 := hfa.trans hf2 (fun _ _ h => h)
 clear hrow hfa c0 hM hf2 HS
 obtain ⟨WS, hst, hrS, hfS⟩ := saga_box w2 id st h6
 have hFS : Fr (fun _ => False) w WS := hF2.trans hfS (fun _ _ h => h)
 have hL := load14 hrS h6
 have HT' := HT WS hFS
 clear hF2 hfS HT
 go_wp2_with (first | (refine wpList_store 122 (w' := WS) _ _ rfl rfl ?_ ?_; exact hst) | (refine wpList_wanted ?_ (exec_load 122 (.tmp 9) rfl ⟨w2.heap.size, 0, none⟩ rfl hL) ?_; (first | rfl | kernel_rfl | simp [Region.wanted, yielded])))
 refine HT'.mono ?_
 rintro e w5 ⟨rfl, hQ⟩
 have HQ : Hid (Q w5) := hQ
 clear hQ HT' hL hst hrS hFS
 go_wp2
 go_ret
 exact ⟨rfl, HQ.out⟩
set_option maxRecDepth 100000 in
theorem Find11_ok {w : World} {R X3 X4 : Nat} {Q : World → Prop} {fv : Fn} {fa fc : Array Value} (id : Nat) (st : List SS) (hok : sagaOk id st = true)
  (h3 : w.heap[X3]? = some (.cells #[.func (.func 63) #[.pointer (some ⟨R, 0, none⟩)] #[]] 127 (0, 0))) (h4 : w.heap[X4]? = some (.cells #[.func fv fa fc] 162 (0, 0)))
  (HT : ∀ w', Fr (fun _ => False) w w' → Calls Tryz.prog 63 #[.pointer (some ⟨R, 0, none⟩), .agg (sagaC id st.length (six st)).toArray] w' fun e w'' => e = .returned (.bool true) ∧ Q w'') :
  Calls Tryz.prog 115 #[.agg (ldB 2 (bodyS id st.length (six st) 6) 4).toArray, .pointer (some ⟨X3, 0, none⟩), .pointer (some ⟨X4, 0, none⟩)] w fun e w' => e = .returned (.bool true) ∧ Q w' := by
 obtain ⟨hid1, hid2, hn1, h6, h8⟩ : (1 : Int) ≤ id ∧ (id : Int) ≤ 1000 ∧ 1 ≤ st.length ∧ st.length ≤ 6 ∧ ∀ p ∈ st, p.1.size ≤ 8 ∧ p.2.size ≤ 8 := of_decide_eq_true hok
 have hbl : (bodyS id st.length (six st) 6).length = 124 := bodyS_len id st.length (six st) (six_ok h8) 6 (by rw [six_len _ h6]; omega) (by omega)
 have hll : (ldB 2 (bodyS id st.length (six st) 6) 4).length = 128 := ldB_len 2 _ hbl 4 (by omega)
 have HR : ∀ W, Fr (fun _ => False) w W → Calls Tryz.prog 116 #[.agg (ldB 2 (bodyS id st.length (six st) 6) 4).toArray, .func (.func 63) #[.pointer (some ⟨R, 0, none⟩)] #[], .func fv fa fc] W fun e w' => e = .returned (.bool true) ∧ Q w' := fun W hf => rcRead_ok id st hok (fun w' hf' => HT w' (hf.trans hf' (fun _ _ h => h)))
 obtain ⟨blk, HB⟩ : ∃ blk, Hid (blk = ldB 2 (bodyS id st.length (six st) 6) 4) := ⟨_, rfl⟩
 rw [← HB.out] at hll HR ⊢
 have hrow := heap_alloc_at w (.cells blk.toArray 130)
 have hfa : Fr (fun _ => False) w (w.alloc (.cells blk.toArray 130)) := (Fr.refl _ _).alloc _
 have hM : (w.alloc (.cells blk.toArray 130)).rangeAt w.heap.size 0 blk := fun j v hv => (cell_of_row _ _ (0 + j) _ _ _ hrow).trans (by simpa using hv)
 have c3 : (w.alloc (.cells blk.toArray 130)).cell? ⟨X3, 0, none⟩ = some (.func (.func 63) #[.pointer (some ⟨R, 0, none⟩)] #[]) := (cell_of_row _ _ 0 _ _ _ (hfa.keep h3 (fun h => h))).trans rfl
 have c4 : (w.alloc (.cells blk.toArray 130)).cell? ⟨X4, 0, none⟩ = some (.func fv fa fc) := (cell_of_row _ _ 0 _ _ _ (hfa.keep h4 (fun h => h))).trans rfl
 have HR' := HR _ hfa
 clear HR HT
 go_enter Tryz.func115, Tryz.ntmps115
 go_wp2_with (first | (refine wpList_load_mid rfl 130 _ rfl w.heap.size 0 ?_ _ _ hM Tryz.underlying130 rfl ?_ ?_; rfl; (rw [block_size, hll])))
 refine HR'.mono ?_
 rintro e w5 ⟨rfl, hQ⟩
 have HQ : Hid (Q w5) := hQ
 clear hQ HR' hrow hfa hM c3 c4
 go_wp2
 go_ret
 exact ⟨rfl, HQ.out⟩
end Go.Proofs.YteebjgfalllbjaaGreatDoor
namespace Go.Proofs.YteebjgfalllbjaaGreatDoor
open Go.RowKit
theorem exec_build0 {ρ : Operand → Value} {o : Oper} (ho : o.op = .build 130 #[]) (w : World) : (execOp ρ o).run Tryz.prog w = .ok (.value (.agg zB.toArray)) w := by
 simp only [execOp, ho]
 kernel_rfl
set_option maxRecDepth 100000 in
set_option maxHeartbeats 1000000 in
theorem Settle1_ok {w : World} {X J V A B n e : Nat} {calls writes : Int} {bs : List Value} (hx : w.heap[X]? = some (.cells #[.pointer (some ⟨J, 0, none⟩)] 87 (0, 0))) (hj : JAt w J V e false) (hv : VolAt w V A n) (hd : DiskAt w A B n (.slice none 0 0) calls writes) (hr : RowsAt w B n bs) (h0 : 0 ≤ calls) (h1 : calls < 95000000) (h2 : 0 ≤ writes) (h3 : writes < 95000000) (he : e < n) : Calls Tryz.prog 138 #[.pointer (some ⟨X, 0, none⟩)] w fun e' w' => e' = .returned .nilIface ∧ JAt w' J V e true ∧ VolAt w' V A n ∧ DiskAt w' A B n (.slice none 0 0) (calls + 2) (writes + 1) ∧ RowsAt w' B n (splice bs (e * 128) zB) ∧ Fr (fun b => b = A ∨ b = B ∨ b = J) w w' := by
 have hlift : Tryz.prog.follows .mixedOrders = true := by kernel_rfl
 have nVA : V ≠ A := hv.ne hd
 have nJA : J ≠ A := fun e => by have := hj; rw [e] at this; have := this.symm.trans hd; simp [dcells] at this
 have nJB : J ≠ B := fun e => by have := hj; rw [e] at this; have := this.symm.trans hr.1; simp at this
 have nJV : J ≠ V := fun e => by have := hj; rw [e] at this; have := this.symm.trans hv; simp at this
 have nAB : A ≠ B := fun e => by have := hd; rw [e] at this; have := this.symm.trans hr.1; simp [dcells] at this
 have nVB : V ≠ B := fun e => by have := hv; rw [e] at this; have := this.symm.trans hr.1; simp at this
 have nXA : X ≠ A := fun e => by have := hx; rw [e] at this; have := this.symm.trans hd; simp [dcells] at this
 have nXB : X ≠ B := fun e => by have := hx; rw [e] at this; have := this.symm.trans hr.1; simp at this
 go_enter Tryz.func138, Tryz.ntmps138
 go_wp2
 obtain ⟨W, HW⟩ : ∃ W, Hid (W = w.drew) := ⟨_, rfl⟩
 have hfW : Fr (fun _ => False) w W := by rw [HW.out]; exact (Fr.refl _ _).drew
 let S : World → Prop := fun w' => w'.cell? ⟨X, 0, none⟩ = some (.pointer (some ⟨J, 0, none⟩)) ∧ w'.cell? ⟨J, 0, none⟩ = some (.pointer (some ⟨V, 0, none⟩)) ∧ w'.cell? ⟨J, 1, none⟩ = some (.int .i64 e)
 have hS : S W := ⟨(cell_of_row W X 0 _ _ _ (hfW.keep hx (fun h => h))).trans rfl, (hj.fr hfW id).c0, (hj.fr hfW id).c1⟩
 refine wp_region_held (S := S) hlift ?_
 change wpAnyH _ _ _ _ S _ _ _ (World.drew _)
 rw [← HW.out]
 clear HW
 refine tkY (S := S) (i := 0) (oi := ⟨some 2, .load 87 (.tmp 0), _, _, _, none⟩) (v := .pointer (some ⟨J, 0, none⟩)) rfl (Or.inl ⟨rfl, fun w' hs => exec_load 87 (.tmp 0) rfl ⟨X, 0, none⟩ rfl (run_loadAt_one hs.1 Tryz.underlying87 rfl)⟩) hS ?_
 simp only [Act.put, lsE, lsZ, lsS]
 refine tkE (S := S) (i := 1) (oi := ⟨some 3, .nilCheck (.tmp 2), _, _, _, none⟩) (v := .pointer (some ⟨J, 0, none⟩)) rfl hS ?_
 simp only [Act.put, lsE, lsZ, lsS]
 refine tkE (S := S) (i := 2) (oi := ⟨some 4, .fieldAddr 179 (.tmp 3) 0, _, _, _, none⟩) (v := .pointer (some ⟨J, 0, none⟩)) rfl hS ?_
 simp only [Act.put, lsE, lsZ, lsS]
 refine tkY (S := S) (i := 3) (oi := ⟨some 5, .load 155 (.tmp 4), _, _, _, none⟩) (v := .pointer (some ⟨V, 0, none⟩)) rfl (Or.inl ⟨rfl, fun w' hs => exec_load 155 (.tmp 4) rfl ⟨J, 0, none⟩ rfl (run_loadAt_one hs.2.1 Tryz.underlying155 rfl)⟩) hS ?_
 simp only [Act.put, lsE, lsZ, lsS]
 refine tkY (S := S) (i := 4) (oi := ⟨some 6, .load 87 (.tmp 0), _, _, _, none⟩) (v := .pointer (some ⟨J, 0, none⟩)) rfl (Or.inl ⟨rfl, fun w' hs => exec_load 87 (.tmp 0) rfl ⟨X, 0, none⟩ rfl (run_loadAt_one hs.1 Tryz.underlying87 rfl)⟩) hS ?_
 simp only [Act.put, lsE, lsZ, lsS]
 refine tkE (S := S) (i := 5) (oi := ⟨some 7, .nilCheck (.tmp 6), _, _, _, none⟩) (v := .pointer (some ⟨J, 0, none⟩)) rfl hS ?_
 simp only [Act.put, lsE, lsZ, lsS]
 refine tkE (S := S) (i := 6) (oi := ⟨some 8, .fieldAddr 179 (.tmp 7) 1, _, _, _, none⟩) (v := .pointer (some ⟨J, 1, none⟩)) rfl hS ?_
 simp only [Act.put, lsE, lsZ, lsS]
 refine tkY (S := S) (i := 7) (oi := ⟨some 9, .load 3 (.tmp 8), _, _, _, none⟩) (v := .int .i64 e) rfl (Or.inl ⟨rfl, fun w' hs => exec_load 3 (.tmp 8) rfl ⟨J, 1, none⟩ rfl (run_loadAt_one hs.2.2 Tryz.underlying3 rfl)⟩) hS ?_
 simp only [Act.put, lsE, lsZ, lsS]
 refine tkY (S := S) (i := 8) (oi := ⟨some 10, .build 130 #[], _, _, _, none⟩) (v := .agg zB.toArray) rfl (Or.inl ⟨rfl, fun w' _ => exec_build0 rfl w'⟩) hS ?_
 simp only [Act.put, lsE, lsZ, lsS]
 refine wpAnyH_all (rs := [9]) (by kernel_rfl) (by simp) ?_
 intro i9 hi9
 obtain rfl : i9 = 9 := by simpa using hi9
 refine wpOp_call (o := ⟨some 11, .call { callee := .value (.func 94), args := #[(.tmp 5), (.tmp 9), (.tmp 10)], argTypes := _ }, _, _, _, none⟩) (f := 94) (args := #[.pointer (some ⟨V, 0, none⟩), .int .i64 e, .agg zB.toArray]) rfl rfl (by kernel_rfl) ?_
 refine (Store_ok (hv.fr hfW id) (hd.fr hfW id) h0 (by omega) h2 (by omega) (base := W.heap.size) (k := 0) (xs := []) (World.ownsRow_nil _ _ _ _) (by decide) (Nat.le_refl _) e he zB zB_len zB_one).mono ?_
 rintro e' w1 ⟨rfl, cache1, hd1, ho1, hf1⟩
 have hno : ∀ b, ¬ ((Value.slice none 0 0).ownBlock = some b) := fun b h => by cases h
 have k1 : ∀ {b : Nat} {o : Obj}, w.heap[b]? = some o → b ≠ A → w1.heap[b]? = some o := fun hb hbA => hf1.keep (hfW.keep hb (fun h => h)) (by rintro (h | h); exact hbA h; exact hno _ h)
 have x1 := k1 hx nXA
 have j1 : JAt w1 J V e false := k1 hj nJA
 have v1 : VolAt w1 V A n := k1 hv nVA
 have r1 : RowsAt w1 B n bs := ⟨k1 hr.1 nAB.symm, hr.2⟩
 have hF1 : Fr (fun b => b = A ∨ b = B ∨ b = J) w w1 := (hfW.mono (fun _ _ h => h.elim)).trans hf1 (fun b _ h => by rcases h with h | h; exact .inl h; exact absurd h (hno b))
 refine ⟨_, rfl, ?_, ?_⟩
 ·exact ⟨(cell_of_row w1 X 0 _ _ _ x1).trans rfl, j1.c0, j1.c1⟩
 simp only [Act.put, lsE, lsZ, lsS]
 refine wpAnyH_done (by kernel_rfl) ?_ _
 have cx1 : w1.cell? ⟨X, 0, none⟩ = some (.pointer (some ⟨J, 0, none⟩)) := (cell_of_row w1 X 0 _ _ _ x1).trans rfl
 have c01 := j1.c0
 clear hS
 go_wp2_with fail
 refine (Secure_ok v1 hd1 r1 (by omega) (by omega) (k := 1) (ents := [(e, zB)]) (base := W.heap.size) (by simpa [flat] using ho1) (by decide) (by decide) (by simpa using zB_len) (by simpa using zB_one) (by simpa using he)).mono ?_
 rintro e' w2 ⟨rfl, hd2, hr2, hf2⟩
 have x2 := hf2.keep x1 (by rintro (h | h); exact nXA h; exact nXB h)
 have j2 : JAt w2 J V e false := hf2.keep j1 (by rintro (h | h); exact nJA h; exact nJB h)
 have v2 : VolAt w2 V A n := hf2.keep v1 (by rintro (h | h); exact nVA h; exact nVB h)
 have hF2 : Fr (fun b => b = A ∨ b = B ∨ b = J) w w2 := hF1.trans hf2 (fun b _ h => by rcases h with h | h; exact .inl h; exact .inr (.inl h))
 rw [lain_one] at hr2
 have ecalls : calls + 1 + 1 = calls + 2 := by omega
 rw [ecalls] at hd2
 have cx2 : w2.cell? ⟨X, 0, none⟩ = some (.pointer (some ⟨J, 0, none⟩)) := (cell_of_row w2 X 0 _ _ _ x2).trans rfl
 have c12 := j2.c1
 have c22 := j2.c2
 have z12 := j2.fz 1
 have z22 := j2.fz 2
 have jE := j2.set2 true
 have hfE : Fr (fun b => b = J) w2 (w2.setCell ⟨J, 2, none⟩ (.bool true)) := Fr.set1 _ _ _ _
 obtain ⟨wE, HWE⟩ : ∃ wE, Hid (wE = w2.setCell ⟨J, 2, none⟩ (.bool true)) := ⟨_, rfl⟩
 rw [← HWE.out] at jE hfE
 have HF : Hid (VolAt wE V A n ∧ DiskAt wE A B n (.slice none 0 0) (calls + 2) (writes + 1) ∧ RowsAt wE B n (splice bs (e * 128) zB) ∧ Fr (fun b => b = A ∨ b = B ∨ b = J) w wE) := by
  refine ⟨?_, ?_, ⟨?_, hr2.2⟩, ?_⟩
  ·exact hfE.keep v2 (by omega)
  ·exact hd2.fr hfE (by omega)
  ·exact hfE.keep hr2.1 (by omega)
  ·exact hF2.trans hfE (fun _ _ h => .inr (.inr h))
 clear hd1 ho1 hf1 k1 hr2 hf2 hd2 hF1 hF2 hfE v2 v1 r1 x1 x2 j1
 go_wp2
 rw [← HWE.out]
 go_ret
 exact ⟨rfl, jE, HF.out.1, HF.out.2.1, HF.out.2.2.1, HF.out.2.2.2⟩
set_option maxRecDepth 100000 in
set_option maxHeartbeats 1000000 in
theorem Add1_ok {w : World} {X X2 J V A B n e : Nat} {calls writes : Int} {bs blk : List Value} (hx : w.heap[X]? = some (.cells #[.pointer (some ⟨J, 0, none⟩)] 87 (0, 0))) (hx2 : w.heap[X2]? = some (.cells blk.toArray 130 (0, 0))) (nX2A : X2 ≠ A) (hl : blk.length = 128) (hb1 : ∀ v ∈ blk, v.oneCell' = true) (hj : JAt w J V e true) (hv : VolAt w V A n) (hd : DiskAt w A B n (.slice none 0 0) calls writes) (hr : RowsAt w B n bs) (h0 : 0 ≤ calls) (h1 : calls < 95000000) (h2 : 0 ≤ writes) (h3 : writes < 95000000) (he : e < n) (hn : n ≤ 400) : Calls Tryz.prog 93 #[.pointer (some ⟨X, 0, none⟩), .pointer (some ⟨X2, 0, none⟩)] w fun e' w' => e' = .returned .nilIface ∧ JAt w' J V ((e : Int) + 1) true ∧ VolAt w' V A n ∧ DiskAt w' A B n (.slice none 0 0) (calls + 2) (writes + 1) ∧ RowsAt w' B n (splice bs (e * 128) blk) ∧ Fr (fun b => b = A ∨ b = B ∨ b = J) w w' := by
 have hlift : Tryz.prog.follows .mixedOrders = true := by kernel_rfl
 have nVA : V ≠ A := hv.ne hd
 have nJA : J ≠ A := fun e => by have := hj; rw [e] at this; have := this.symm.trans hd; simp [dcells] at this
 have nJB : J ≠ B := fun e => by have := hj; rw [e] at this; have := this.symm.trans hr.1; simp at this
 have nJV : J ≠ V := fun e => by have := hj; rw [e] at this; have := this.symm.trans hv; simp at this
 have nAB : A ≠ B := fun e => by have := hd; rw [e] at this; have := this.symm.trans hr.1; simp [dcells] at this
 have nVB : V ≠ B := fun e => by have := hv; rw [e] at this; have := this.symm.trans hr.1; simp at this
 have nXA : X ≠ A := fun e => by have := hx; rw [e] at this; have := this.symm.trans hd; simp [dcells] at this
 have nXB : X ≠ B := fun e => by have := hx; rw [e] at this; have := this.symm.trans hr.1; simp at this
 go_enter Tryz.func93, Tryz.ntmps93
 go_wp2
 obtain ⟨W, HW⟩ : ∃ W, Hid (W = w.drew) := ⟨_, rfl⟩
 have hfW : Fr (fun _ => False) w W := by rw [HW.out]; exact (Fr.refl _ _).drew
 let S : World → Prop := fun w' => w'.cell? ⟨X, 0, none⟩ = some (.pointer (some ⟨J, 0, none⟩)) ∧ w'.cell? ⟨J, 0, none⟩ = some (.pointer (some ⟨V, 0, none⟩)) ∧ w'.cell? ⟨J, 1, none⟩ = some (.int .i64 e) ∧ w'.heap[X2]? = some (.cells blk.toArray 130 (0, 0))
 have hS : S W := ⟨(cell_of_row W X 0 _ _ _ (hfW.keep hx (fun h => h))).trans rfl, (hj.fr hfW id).c0, (hj.fr hfW id).c1, hfW.keep hx2 (fun h => h)⟩
 refine wp_region_held (S := S) hlift ?_
 change wpAnyH _ _ _ _ S _ _ _ (World.drew _)
 rw [← HW.out]
 clear HW
 refine tkY (S := S) (i := 0) (oi := ⟨some 3, .load 87 (.tmp 0), _, _, _, none⟩) (v := .pointer (some ⟨J, 0, none⟩)) rfl (Or.inl ⟨rfl, fun w' hs => exec_load 87 (.tmp 0) rfl ⟨X, 0, none⟩ rfl (run_loadAt_one hs.1 Tryz.underlying87 rfl)⟩) hS ?_
 simp only [Act.put, lsE, lsZ, lsS]
 refine tkE (S := S) (i := 1) (oi := ⟨some 4, .nilCheck (.tmp 3), _, _, _, none⟩) (v := .pointer (some ⟨J, 0, none⟩)) rfl hS ?_
 simp only [Act.put, lsE, lsZ, lsS]
 refine tkE (S := S) (i := 2) (oi := ⟨some 5, .fieldAddr 179 (.tmp 4) 0, _, _, _, none⟩) (v := .pointer (some ⟨J, 0, none⟩)) rfl hS ?_
 simp only [Act.put, lsE, lsZ, lsS]
 refine tkY (S := S) (i := 3) (oi := ⟨some 6, .load 155 (.tmp 5), _, _, _, none⟩) (v := .pointer (some ⟨V, 0, none⟩)) rfl (Or.inl ⟨rfl, fun w' hs => exec_load 155 (.tmp 5) rfl ⟨J, 0, none⟩ rfl (run_loadAt_one hs.2.1 Tryz.underlying155 rfl)⟩) hS ?_
 simp only [Act.put, lsE, lsZ, lsS]
 refine tkY (S := S) (i := 4) (oi := ⟨some 7, .load 87 (.tmp 0), _, _, _, none⟩) (v := .pointer (some ⟨J, 0, none⟩)) rfl (Or.inl ⟨rfl, fun w' hs => exec_load 87 (.tmp 0) rfl ⟨X, 0, none⟩ rfl (run_loadAt_one hs.1 Tryz.underlying87 rfl)⟩) hS ?_
 simp only [Act.put, lsE, lsZ, lsS]
 refine tkE (S := S) (i := 5) (oi := ⟨some 8, .nilCheck (.tmp 7), _, _, _, none⟩) (v := .pointer (some ⟨J, 0, none⟩)) rfl hS ?_
 simp only [Act.put, lsE, lsZ, lsS]
 refine tkE (S := S) (i := 6) (oi := ⟨some 9, .fieldAddr 179 (.tmp 8) 1, _, _, _, none⟩) (v := .pointer (some ⟨J, 1, none⟩)) rfl hS ?_
 simp only [Act.put, lsE, lsZ, lsS]
 refine tkY (S := S) (i := 7) (oi := ⟨some 10, .load 3 (.tmp 9), _, _, _, none⟩) (v := .int .i64 e) rfl (Or.inl ⟨rfl, fun w' hs => exec_load 3 (.tmp 9) rfl ⟨J, 1, none⟩ rfl (run_loadAt_one hs.2.2.1 Tryz.underlying3 rfl)⟩) hS ?_
 simp only [Act.put, lsE, lsZ, lsS]
 refine tkY (S := S) (i := 8) (oi := ⟨some 11, .load 130 (.tmp 1), _, _, _, none⟩) (v := .agg blk.toArray) rfl (Or.inl ⟨rfl, fun w' hs => exec_load 130 (.tmp 1) rfl ⟨X2, 0, none⟩ rfl (run_loadAt_mid w' X2 0 130 blk _ (fun j v hv => (cell_of_row w' _ (0 + j) _ _ _ hs.2.2.2).trans (by simpa using hv)) Tryz.underlying130 rfl (by rw [block_size, hl]))⟩) hS ?_
 simp only [Act.put, lsE, lsZ, lsS]
 refine wpAnyH_all (rs := [9]) (by kernel_rfl) (by simp) ?_
 intro i9 hi9
 obtain rfl : i9 = 9 := by simpa using hi9
 refine wpOp_call (o := ⟨some 12, .call { callee := .value (.func 94), args := #[(.tmp 6), (.tmp 10), (.tmp 11)], argTypes := _ }, _, _, _, none⟩) (f := 94) (args := #[.pointer (some ⟨V, 0, none⟩), .int .i64 e, .agg blk.toArray]) rfl rfl (by kernel_rfl) ?_
 refine (Store_ok (hv.fr hfW id) (hd.fr hfW id) h0 (by omega) h2 (by omega) (base := W.heap.size) (k := 0) (xs := []) (World.ownsRow_nil _ _ _ _) (by decide) (Nat.le_refl _) e he blk hl hb1).mono ?_
 rintro e' w1 ⟨rfl, cache1, hd1, ho1, hf1⟩
 have hno : ∀ b, ¬ ((Value.slice none 0 0).ownBlock = some b) := fun b h => by cases h
 have k1 : ∀ {b : Nat} {o : Obj}, w.heap[b]? = some o → b ≠ A → w1.heap[b]? = some o := fun hb hbA => hf1.keep (hfW.keep hb (fun h => h)) (by rintro (h | h); exact hbA h; exact hno _ h)
 have x1 := k1 hx nXA
 have j1 : JAt w1 J V e true := k1 hj nJA
 have v1 : VolAt w1 V A n := k1 hv nVA
 have r1 : RowsAt w1 B n bs := ⟨k1 hr.1 nAB.symm, hr.2⟩
 have hF1 : Fr (fun b => b = A ∨ b = B ∨ b = J) w w1 := (hfW.mono (fun _ _ h => h.elim)).trans hf1 (fun b _ h => by rcases h with h | h; exact .inl h; exact absurd h (hno b))
 refine ⟨_, rfl, ?_, ?_⟩
 ·exact ⟨(cell_of_row w1 X 0 _ _ _ x1).trans rfl, j1.c0, j1.c1, k1 hx2 nX2A⟩
 simp only [Act.put, lsE, lsZ, lsS]
 refine wpAnyH_done (by kernel_rfl) ?_ _
 have cx1 : w1.cell? ⟨X, 0, none⟩ = some (.pointer (some ⟨J, 0, none⟩)) := (cell_of_row w1 X 0 _ _ _ x1).trans rfl
 have c01 := j1.c0
 clear hS
 go_wp2_with fail
 refine (Secure_ok v1 hd1 r1 (by omega) (by omega) (k := 1) (ents := [(e, blk)]) (base := W.heap.size) (by simpa [flat] using ho1) (by decide) (by decide) (by simpa using hl) (by simpa using hb1) (by simpa using he)).mono ?_
 rintro e' w2 ⟨rfl, hd2, hr2, hf2⟩
 have x2 := hf2.keep x1 (by rintro (h | h); exact nXA h; exact nXB h)
 have j2 : JAt w2 J V e true := hf2.keep j1 (by rintro (h | h); exact nJA h; exact nJB h)
 have v2 : VolAt w2 V A n := hf2.keep v1 (by rintro (h | h); exact nVA h; exact nVB h)
 have hF2 : Fr (fun b => b = A ∨ b = B ∨ b = J) w w2 := hF1.trans hf2 (fun b _ h => by rcases h with h | h; exact .inl h; exact .inr (.inl h))
 rw [lain_one] at hr2
 have ecalls : calls + 1 + 1 = calls + 2 := by omega
 rw [ecalls] at hd2
 have cx2 : w2.cell? ⟨X, 0, none⟩ = some (.pointer (some ⟨J, 0, none⟩)) := (cell_of_row w2 X 0 _ _ _ x2).trans rfl
 have c12 := j2.c1
 have c22 := j2.c2
 have z12 := j2.fz 1
 have z22 := j2.fz 2
 have jE := j2.set1 ((e : Int) + 1)
 have hfE : Fr (fun b => b = J) w2 (w2.setCell ⟨J, 1, none⟩ (.int .i64 ((e : Int) + 1))) := Fr.set1 _ _ _ _
 obtain ⟨wE, HWE⟩ : ∃ wE, Hid (wE = w2.setCell ⟨J, 1, none⟩ (.int .i64 ((e : Int) + 1))) := ⟨_, rfl⟩
 rw [← HWE.out] at jE hfE
 have hwr : IntKind.i64.wrap ((e : Int) + 1) = (e : Int) + 1 := by rw [IntKind.wrap_i64]; omega
 have HF : Hid (VolAt wE V A n ∧ DiskAt wE A B n (.slice none 0 0) (calls + 2) (writes + 1) ∧ RowsAt wE B n (splice bs (e * 128) blk) ∧ Fr (fun b => b = A ∨ b = B ∨ b = J) w wE) := by
  refine ⟨?_, ?_, ⟨?_, hr2.2⟩, ?_⟩
  ·exact hfE.keep v2 (by omega)
  ·exact hd2.fr hfE (by omega)
  ·exact hfE.keep hr2.1 (by omega)
  ·exact hF2.trans hfE (fun _ _ h => .inr (.inr h))
 clear hd1 ho1 hf1 k1 hr2 hf2 hd2 hF1 hF2 hfE v2 v1 r1 x1 x2 j1
 go_wp2
 rw [← HWE.out]
 go_ret
 exact ⟨rfl, jE, HF.out.1, HF.out.2.1, HF.out.2.2.1, HF.out.2.2.2⟩
end Go.Proofs.YteebjgfalllbjaaGreatDoor
