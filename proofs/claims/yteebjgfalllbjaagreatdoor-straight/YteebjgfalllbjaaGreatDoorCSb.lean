import Derived.Test.YteebjgfalllbjaaGreatDoorCLdRlSl
import Derived.Test.YteebjgfalllbjaaGreatDoorCNtRoRp
import Derived.Lib.LazyBuf
namespace Go.Proofs.YteebjgfalllbjaaGreatDoor
open Go.RowKit
set_option maxRecDepth 100000 in
set_option maxHeartbeats 1000000 in
theorem putId_ok {w : World} {g : Nat} {b0 b1 : Value} {cs : List Value} (hg : w.heap[g]? = some (.cells (b0 :: b1 :: cs).toArray 182 (0, 0))) (id : Nat) (hid : id ≤ 1000) : Calls Tryz.prog 96 #[.pointer (some ⟨g, 0, none⟩), .int .i64 id] w fun e w' => e = .returned (.tuple #[]) ∧ w'.heap[g]? = some (.cells (.int .u8 ((id / 256 : Nat) : Int) :: .int .u8 ((id % 256 : Nat) : Int) :: cs).toArray 182 (0, 0)) ∧ Fr (fun b => b = g) w w' := by
 have hlift : Tryz.prog.follows .mixedOrders = true := by kernel_rfl
 have hid' : (id : Int) ≤ 1000 := by omega
 have hid0 : (0 : Int) ≤ id := by omega
 have hw8 : ((id : Int) / 256) % 256 = (id : Int) / 256 := by omega
 have hwu : IntKind.u8.wrap ((id : Int) / 256) = (id : Int) / 256 := by rw [IntKind.wrap_u8]; omega
 have hwv : IntKind.u8.wrap (id : Int) = (id : Int) % 256 := by rw [IntKind.wrap_u8]
 go_enter Tryz.func96, Tryz.ntmps96
 go_wp2
 obtain ⟨W, HW⟩ : ∃ W, Hid (W = w.drew) := ⟨_, rfl⟩
 have hfW : Fr (fun _ => False) w W := by rw [HW.out]; exact (Fr.refl _ _).drew
 let S : World → Prop := fun _ => True
 have hS : S W := trivial
 refine wp_region_held (S := S) hlift ?_
 change wpAnyH _ _ _ _ S _ _ _ (World.drew _)
 rw [← HW.out]
 clear HW
 refine tkE (S := S) (i := 0) (oi := ⟨some 4, .move (.tmp 0), _, _, _, none⟩) (v := .pointer (some ⟨g, 0, none⟩)) rfl hS ?_
 simp only [Act.put, lsE, lsZ, lsS]
 refine tkE (S := S) (i := 1) (oi := ⟨some 5, .move (.tmp 0), _, _, _, none⟩) (v := .pointer (some ⟨g, 0, none⟩)) rfl hS ?_
 simp only [Act.put, lsE, lsZ, lsS]
 refine tkE (S := S) (i := 2) (oi := ⟨some 6, .move (.tmp 1), _, _, _, none⟩) (v := .int .i64 id) rfl hS ?_
 simp only [Act.put, lsE, lsZ, lsS]
 refine tkY (S := S) (i := 3) (oi := ⟨some 7, .binOp .shr 3 (.tmp 6) (.const (.int .u64 8)) 185, _, _, _, none⟩) (v := .int .i64 ((id : Int) / 256)) rfl (Or.inl ⟨rfl, fun _ _ => by go_simp⟩) hS ?_
 simp only [Act.put, lsE, lsZ, lsS]
 refine tkY (S := S) (i := 4) (oi := ⟨some 8, .convert 3 5 (.tmp 7), _, _, _, none⟩) (v := .int .u8 ((id : Int) / 256)) rfl (Or.inl ⟨rfl, fun _ _ => by go_simp⟩) hS ?_
 simp only [Act.put, lsE, lsZ, lsS]
 refine tkE (S := S) (i := 5) (oi := ⟨some 9, .move (.tmp 1), _, _, _, none⟩) (v := .int .i64 id) rfl hS ?_
 simp only [Act.put, lsE, lsZ, lsS]
 refine tkY (S := S) (i := 6) (oi := ⟨some 10, .convert 3 5 (.tmp 9), _, _, _, none⟩) (v := .int .u8 ((id : Int) % 256)) rfl (Or.inl ⟨rfl, fun _ _ => by go_simp⟩) hS ?_
 simp only [Act.put, lsE, lsZ, lsS]
 refine tkE (S := S) (i := 7) (oi := ⟨some 11, .nilCheck (.tmp 4), _, _, _, none⟩) (v := .pointer (some ⟨g, 0, none⟩)) rfl hS ?_
 simp only [Act.put, lsE, lsZ, lsS]
 refine tkE (S := S) (i := 8) (oi := ⟨some 12, .indexAddr 182 (.tmp 11) (.const (.int .i64 0)), _, _, _, none⟩) (v := .pointer (some ⟨g, 0, none⟩)) rfl hS ?_
 simp only [Act.put, lsE, lsZ, lsS]
 refine tkE (S := S) (i := 10) (oi := ⟨some 13, .nilCheck (.tmp 5), _, _, _, none⟩) (v := .pointer (some ⟨g, 0, none⟩)) rfl hS ?_
 simp only [Act.put, lsE, lsZ, lsS]
 refine wpAnyH_all (rs := [9]) (by kernel_rfl) (by simp) ?_
 intro i9 hi9
 obtain rfl : i9 = 9 := by simpa using hi9
 have hgW := hfW.keep hg (fun h => h)
 have hst := run_storeAt_one (P := Tryz.prog) (w := W) (a := ⟨g, 0, none⟩) (t := 5) (v := .int .u8 ((id : Int) / 256)) ((cell_of_row W g 0 _ _ _ hgW).trans rfl) (frozen_of_row W g 0 _ _ hgW) (by kernel_rfl) rfl
 have hr1 : (W.setCell ⟨g, 0, none⟩ (.int .u8 ((id : Int) / 256))).heap[g]? = some (.cells (.int .u8 ((id : Int) / 256) :: b1 :: cs).toArray 182 (0, 0)) := by rw [heap_setCell_at _ _ _ _ _ _ hgW]; simp
 have hf1 : Fr (fun b => b = g) w (W.setCell ⟨g, 0, none⟩ (.int .u8 ((id : Int) / 256))) := (hfW.mono (fun _ _ h => h.elim)).trans (Fr.set1 _ _ _ _) (fun _ _ h => h)
 refine wpOp_skip (o := ⟨none, .store 5 (.tmp 12) (.tmp 8), _, _, _, none⟩) rfl rfl (exec_store 5 _ _ rfl ⟨g, 0, none⟩ _ rfl rfl hst) ⟨trivial, ?_⟩
 simp only [Act.put]
 obtain ⟨W1, HW1⟩ : ∃ W1, Hid (W1 = W.setCell ⟨g, 0, none⟩ (.int .u8 ((id : Int) / 256))) := ⟨_, rfl⟩
 rw [← HW1.out] at hr1 hf1 ⊢
 clear HW1 hst
 refine tkE (S := S) (i := 11) (oi := ⟨some 14, .indexAddr 182 (.tmp 13) (.const (.int .i64 1)), _, _, _, none⟩) (v := .pointer (some ⟨g, 1, none⟩)) rfl (show S W1 from trivial) ?_
 simp only [Act.put, lsE, lsZ, lsS]
 refine wpAnyH_all (rs := [12]) (by kernel_rfl) (by simp) ?_
 intro i12 hi12
 obtain rfl : i12 = 12 := by simpa using hi12
 have hst := run_storeAt_one (P := Tryz.prog) (w := W1) (a := ⟨g, 1, none⟩) (t := 5) (v := .int .u8 ((id : Int) % 256)) ((cell_of_row W1 g 1 _ _ _ hr1).trans rfl) (frozen_of_row W1 g 1 _ _ hr1) (by kernel_rfl) rfl
 have hr2 : (W1.setCell ⟨g, 1, none⟩ (.int .u8 ((id : Int) % 256))).heap[g]? = some (.cells (.int .u8 ((id : Int) / 256) :: .int .u8 ((id : Int) % 256) :: cs).toArray 182 (0, 0)) := by rw [heap_setCell_at _ _ _ _ _ _ hr1]; simp
 have hf2 : Fr (fun b => b = g) w (W1.setCell ⟨g, 1, none⟩ (.int .u8 ((id : Int) % 256))) := hf1.trans (Fr.set1 _ _ _ _) (fun _ _ h => h)
 refine wpOp_skip (o := ⟨none, .store 5 (.tmp 14) (.tmp 10), _, _, _, none⟩) rfl rfl (exec_store 5 _ _ rfl ⟨g, 1, none⟩ _ rfl rfl hst) ⟨trivial, ?_⟩
 simp only [Act.put]
 refine wpAnyH_done (by kernel_rfl) ?_ _
 go_wp2
 go_end0
 exact ⟨rfl, hr2, hf2⟩
theorem zeroB_eq : Tryz.zeroCells182 = (List.replicate 124 zv).toArray := by kernel_rfl
theorem bodyS_nil (id n : Nat) (l : List SS) : bodyS id n l 0 = .int .u8 ((id / 256 : Nat) : Int) :: .int .u8 ((id % 256 : Nat) : Int) :: .int .u8 (n : Int) :: List.replicate 121 zv := by simp [bodyS, stepsB]
theorem six_ok {st : List SS} (h8 : ∀ p ∈ st, p.1.size ≤ 8 ∧ p.2.size ≤ 8) : ∀ p ∈ six st, p.1.size ≤ 8 ∧ p.2.size ≤ 8 := by
 intro p hp
 simp only [six, List.mem_append, List.mem_replicate] at hp
 rcases hp with h | ⟨_, rfl⟩
 ·exact h8 p h
 ·exact ⟨by decide, by decide⟩
theorem ix0 (p0 p1 p2 p3 p4 p5 : SS) (w : World) : (Instr.index 120 (.agg (scells [p0, p1, p2, p3, p4, p5]).toArray) (.int .i64 ((0 : Nat) : Int))).run Tryz.prog w = .ok (.agg #[.string p0.1, .string p0.2]) w := by kernel_rfl
theorem ix1 (p0 p1 p2 p3 p4 p5 : SS) (w : World) : (Instr.index 120 (.agg (scells [p0, p1, p2, p3, p4, p5]).toArray) (.int .i64 ((1 : Nat) : Int))).run Tryz.prog w = .ok (.agg #[.string p1.1, .string p1.2]) w := by kernel_rfl
theorem ix2 (p0 p1 p2 p3 p4 p5 : SS) (w : World) : (Instr.index 120 (.agg (scells [p0, p1, p2, p3, p4, p5]).toArray) (.int .i64 ((2 : Nat) : Int))).run Tryz.prog w = .ok (.agg #[.string p2.1, .string p2.2]) w := by kernel_rfl
theorem ix3 (p0 p1 p2 p3 p4 p5 : SS) (w : World) : (Instr.index 120 (.agg (scells [p0, p1, p2, p3, p4, p5]).toArray) (.int .i64 ((3 : Nat) : Int))).run Tryz.prog w = .ok (.agg #[.string p3.1, .string p3.2]) w := by kernel_rfl
theorem ix4 (p0 p1 p2 p3 p4 p5 : SS) (w : World) : (Instr.index 120 (.agg (scells [p0, p1, p2, p3, p4, p5]).toArray) (.int .i64 ((4 : Nat) : Int))).run Tryz.prog w = .ok (.agg #[.string p4.1, .string p4.2]) w := by kernel_rfl
theorem ix5 (p0 p1 p2 p3 p4 p5 : SS) (w : World) : (Instr.index 120 (.agg (scells [p0, p1, p2, p3, p4, p5]).toArray) (.int .i64 ((5 : Nat) : Int))).run Tryz.prog w = .ok (.agg #[.string p5.1, .string p5.2]) w := by kernel_rfl
theorem index_six_agg (l : List SS) (hl : l.length = 6) (i : Nat) (p : SS) (hp : l[i]? = some p) (w : World) : (Instr.index 120 (.agg (scells l).toArray) (.int .i64 i)).run Tryz.prog w = .ok (.agg #[.string p.1, .string p.2]) w := by
 obtain ⟨p0, p1, p2, p3, p4, p5, rfl⟩ : ∃ p0 p1 p2 p3 p4 p5, l = [p0, p1, p2, p3, p4, p5] := by
  match l, hl with
  | [p0, p1, p2, p3, p4, p5], _ => exact ⟨p0, p1, p2, p3, p4, p5, rfl⟩
 have hi : i < 6 := (List.getElem?_eq_some_iff.1 hp).1
 have h6 : i = 0 ∨ i = 1 ∨ i = 2 ∨ i = 3 ∨ i = 4 ∨ i = 5 := by omega
 rcases h6 with h | h | h | h | h | h <;> subst h <;> (obtain rfl := Option.some.inj hp)
 ·exact ix0 _ _ _ _ _ _ w
 ·exact ix1 _ _ _ _ _ _ w
 ·exact ix2 _ _ _ _ _ _ w
 ·exact ix3 _ _ _ _ _ _ w
 ·exact ix4 _ _ _ _ _ _ w
 ·exact ix5 _ _ _ _ _ _ w
theorem or_lens (a b : Nat) (ha : a ≤ 8) (hb : b ≤ 8) : bits .or .i64 ((a : Int) * 16) (b : Int) % 256 = ((a * 16 + b : Nat) : Int) := by
 have h : ∀ a b : Fin 9, bits .or .i64 ((a.val : Int) * 16) (b.val : Int) % 256 = ((a.val * 16 + b.val : Nat) : Int) := by decide +kernel
 exact h ⟨a, by omega⟩ ⟨b, by omega⟩
theorem run_copy_text (w : World) (g : Nat) (a b : List Value) (s : ByteArray) (h : s.size ≤ 8) (t : TypeId) (hg : w.heap[g]? = some (.cells (a ++ (List.replicate 8 zv ++ b)).toArray t (0, 0))) (ty : TypeId) :
  (Builtin.copy_ #[85, 9] ty #[.slice (some ⟨g, a.length, none⟩) 8 8, .string s]).run Tryz.prog w = .ok (goInt s.size) (w.setRow g (a ++ (pad8 s ++ b)).toArray) := by
 have hst := run_storeCells_at Tryz.prog g a.length t (Lib.byteCells s.data.toList) 0 (a ++ (List.replicate 8 zv ++ b)).toArray w hg (by rw [cells_size]; simp; omega) (fun v hv => by simp only [Lib.byteCells, List.mem_map] at hv; obtain ⟨_, _, rfl⟩ := hv; rfl)
 have hm : Nat.min s.size 8 = s.size := Nat.min_eq_left h
 have hz : ∀ w, (sizeOf 5).run Tryz.prog w = .ok 1 w := fun _ => by kernel_rfl
 have hl : (s.data.toList.map fun x => Value.int .u8 (x.toNat : Int)).length = s.size := by rw [List.length_map, ← Lib.size_eq]
 have e : (s.data.toList.map fun b => Value.int .u8 (b.toNat : Int)) = Lib.byteCells s.data.toList := rfl
 simp only [Nat.add_zero, List.append_assoc] at hst
 rw [put_text a b s h] at hst
 simp [Builtin.copy_, run_underlying Tryz.underlying85, Builtin.lenOf, Builtin.firstCells, hz, hm]
 rw [List.take_of_length_le (by rw [hl]; exact Nat.le_refl _), e, hst]
 rfl
theorem exec_copy {ρ : Operand → Value} {o : Oper} {x y : Operand} {a b v : Value} {w w' : World} (ho : o.op = .call { callee := .builtin .copy, args := #[x, y], argTypes := #[85, 9] }) (hx : ρ x = a) (hy : ρ y = b) (hr : (Builtin.copy_ #[85, 9] o.type #[a, b]).run Tryz.prog w = .ok v w') : (execOp ρ o).run Tryz.prog w = .ok (.value v) w' := by
 simp only [execOp, ho, resolve, invoke, builtin, Sem.run_bind, Sem.run_pure, Result.andThen_ok, List.map_toArray, List.map_cons, List.map_nil, hx, hy, hr]
theorem exec_add {ρ : Operand → Value} {o : Oper} {x y : Operand} {a b c : Int} (ho : o.op = .binOp .add 3 x y 3) (hx : ρ x = .int .i64 a) (hy : ρ y = .int .i64 b) (hc : a + b = c) (h1 : -1000000 ≤ a + b) (h2 : a + b ≤ 1000000) (w : World) : (execOp ρ o).run Tryz.prog w = .ok (.value (.int .i64 c)) w := by
 have hw : IntKind.i64.wrap (a + b) = c := by rw [IntKind.wrap_i64]; omega
 have : (execOp ρ o).run Tryz.prog w = .ok (.value (.int .i64 (IntKind.i64.wrap (a + b)))) w := by
  simp only [execOp, ho, hx, hy]
  kernel_rfl
 rw [this, hw]
theorem bodyS_one (id n : Nat) (l : List SS) (i : Nat) : ∀ v ∈ bodyS id n l i, v.oneCell' = true := by
 intro v hv
 simp only [bodyS, stepsB, stepB, pad8, Lib.byteCells, zv, List.mem_append, List.mem_cons, List.not_mem_nil, or_false, List.mem_flatten, List.mem_map, List.mem_replicate] at hv
 rcases hv with (rfl | rfl | rfl) | ⟨x, ⟨q, _, rfl⟩, hx⟩ | ⟨_, rfl⟩
 ·rfl
 ·rfl
 ·rfl
 ·simp only [List.mem_append, List.mem_cons, List.mem_map, List.mem_replicate] at hx
  rcases hx with rfl | (⟨_, _, rfl⟩ | ⟨_, rfl⟩) | (⟨_, _, rfl⟩ | ⟨_, rfl⟩) <;> rfl
 ·rfl
def SbI (id : Nat) (st : List SS) (w : World) (i : Nat) (wr : World) : Prop := wr.heap[w.heap.size]? = some (.cells (sagaC id st.length (six st)).toArray 122 (0, 0)) ∧ wr.heap[w.heap.size + 1]? = some (.cells zB.toArray 130 (0, 0)) ∧ wr.heap[w.heap.size + 2]? = some (.cells (bodyS id st.length (six st) i).toArray 182 (0, 0)) ∧ Fr (fun _ => False) w wr
set_option maxRecDepth 100000 in
set_option maxHeartbeats 4000000 in
theorem sBlock_ok (w : World) (id : Nat) (st : List SS) (hid : id ≤ 1000) (h6 : st.length ≤ 6) (h8 : ∀ p ∈ st, p.1.size ≤ 8 ∧ p.2.size ≤ 8) : Calls Tryz.prog 62 #[.agg (sagaC id st.length (six st)).toArray] w fun e w' => e = .returned (.agg (ldB 2 (bodyS id st.length (six st) 6) 4).toArray) ∧ Fr (fun _ => False) w w' := by
 have hlift : Tryz.prog.follows .mixedOrders = true := by kernel_rfl
 have hn6 : (st.length : Int) ≤ 6 := by omega
 obtain ⟨W, HW⟩ : ∃ W, Hid (W = ((w.alloc (.cells (sagaC id st.length (six st)).toArray 122)).alloc (.cells Tryz.zeroCells130 130)).alloc (.cells Tryz.zeroCells182 182)) := ⟨_, rfl⟩
 have hF : Fr (fun _ => False) w W := by rw [HW.out]; exact (((Fr.refl _ _).alloc _).alloc _).alloc _
 have r0 : W.heap[w.heap.size]? = some (.cells (sagaC id st.length (six st)).toArray 122 (0, 0)) := by
  rw [HW.out, heap_alloc_lt _ _ _ (by simp; omega), heap_alloc_lt _ _ _ (by simp)]; exact heap_alloc_at _ _
 have r1 : W.heap[w.heap.size + 1]? = some (.cells zB.toArray 130 (0, 0)) := by
  rw [HW.out, heap_alloc_lt _ _ _ (by simp)]; exact heap_alloc2_new w _ _
 have r2 : W.heap[w.heap.size + 2]? = some (.cells (zv :: zv :: List.replicate 122 zv).toArray 182 (0, 0)) := by
  rw [HW.out]
  have := heap_alloc_at ((w.alloc (.cells (sagaC id st.length (six st)).toArray 122)).alloc (.cells Tryz.zeroCells130 130)) (.cells Tryz.zeroCells182 182)
  simp only [World.size_alloc] at this
  rw [zeroB_eq] at this ⊢
  exact this
 have c0 : (((w.alloc (.cells (sagaC id st.length (six st)).toArray 122)).alloc (.cells Tryz.zeroCells130 130)).alloc (.cells Tryz.zeroCells182 182)).cell? ⟨w.heap.size, 0, none⟩ = some (.int .i64 id) := by rw [← HW.out]; exact (cell_of_row _ _ 0 _ _ _ r0).trans rfl
 go_enter Tryz.func62, Tryz.ntmps62
 go_wp2_with fail
 rw [← HW.out]
 refine (putId_ok r2 id hid).mono ?_
 rintro e w1 ⟨rfl, h2, hf1⟩
 have h0 := hf1.keep r0 (by omega)
 have h1 := hf1.keep r1 (by omega)
 have hF1 : Fr (fun _ => False) w w1 := hF.trans hf1 (fun _ _ h => by omega)
 have c1 : w1.cell? ⟨w.heap.size, 1, none⟩ = some (.int .i64 st.length) := (cell_of_row _ _ 1 _ _ _ h0).trans rfl
 have hst := run_storeAt_one (P := Tryz.prog) (w := w1) (a := ⟨w.heap.size + 2, 2, none⟩) (t := 5) (v := .int .u8 st.length) ((cell_of_row _ _ 2 _ _ _ h2).trans rfl) (frozen_of_row _ _ 2 _ _ h2) (by kernel_rfl) rfl
 have k2 : (w1.setCell ⟨w.heap.size + 2, 2, none⟩ (.int .u8 st.length)).heap[w.heap.size + 2]? = some (.cells (bodyS id st.length (six st) 0).toArray 182 (0, 0)) := by
  rw [heap_setCell_at _ _ _ _ _ _ h2, bodyS_nil]
  rfl
 have hf2 : Fr (fun b => b = w.heap.size + 2) w1 (w1.setCell ⟨w.heap.size + 2, 2, none⟩ (.int .u8 st.length)) := Fr.set1 _ _ _ _
 obtain ⟨W2, HW2⟩ : ∃ W2, Hid (W2 = w1.setCell ⟨w.heap.size + 2, 2, none⟩ (.int .u8 st.length)) := ⟨_, rfl⟩
 rw [← HW2.out] at hst k2 hf2
 have HI : Hid (SbI id st w 0 W2) := ⟨hf2.keep h0 (by omega), hf2.keep h1 (by omega), k2, hF1.trans hf2 (fun _ _ h => by omega)⟩
 have hM : W2.rangeAt w.heap.size 2 (scells (six st)) := fun j v hv => (cell_of_row W2 _ (2 + j) _ _ _ HI.out.1).trans (by
  rw [List.getElem?_toArray, show 2 + j = j + 1 + 1 by omega, sagaC, List.getElem?_cons_succ, List.getElem?_cons_succ]; exact hv)
 have hwn : IntKind.u8.wrap (st.length : Int) = st.length := by rw [IntKind.wrap_u8]; omega
 have hl12 : (scells (six st)).length = 12 := by rw [scells_len, six_len _ h6]
 clear HW HW2 hF r0 r1 r2 c0 hf1 h0 h1 h2 hf2 k2
 go_wp2_with (first | (refine wpList_store 5 (w' := W2) _ _ rfl rfl ?_ ?_; exact hst) | (refine wpList_load_mid rfl 120 _ rfl w.heap.size 2 ?_ _ _ hM Tryz.underlying120 rfl ?_ ?_; rfl; (rw [hl12]; kernel_rfl)))
 go_loopw [16] (fun c wr => ∃ i : Nat, i ≤ 6 ∧ c = .int .i64 i ∧ Hid (SbI id st w i wr)) (fun c _ => 6 - (intOf c).toNat)
 case atStart => exact ⟨0, by omega, rfl, HI⟩
 case round =>
  obtain ⟨i, hi, rfl, HR⟩ := hrel
  clear HI hM hst c1
  by_cases hlt : i < 6
  ·have hlt' : (i : Int) < 6 := by omega
   obtain ⟨p, hpi⟩ : ∃ p, (six st)[i]? = some p := ⟨_, List.getElem?_eq_getElem (by rw [six_len _ h6]; exact hlt)⟩
   have hp8 := six_ok h8 p (List.mem_of_getElem? hpi)
   have hix := index_six_agg (six st) (six_len _ h6) i p hpi wr
   obtain ⟨b, hbd, hbn⟩ := bodyS_room id st.length (six st) i hlt
   obtain ⟨A, hA⟩ : ∃ A : List Value, A = [.int .u8 ((id / 256 : Nat) : Int), .int .u8 ((id % 256 : Nat) : Int), .int .u8 (st.length : Int)] ++ stepsB (six st) i := ⟨_, rfl⟩
   have hAl : A.length = 3 + i * 17 := by rw [hA, List.length_append, stepsB_len (six st) (six_ok h8) i (by rw [six_len _ h6]; omega)]; rfl
   rw [← hA] at hbd hbn
   have hbn := hbn p hpi
   have hfS : Fr (fun _ => False) wr (wr.alloc (.cells #[.string p.1, .string p.2] 58)) := (Fr.refl _ _).alloc _
   have rS := heap_alloc_at wr (.cells #[.string p.1, .string p.2] 58)
   have q2 := hfS.keep HR.out.2.2.1 (fun h => h)
   rw [hbd] at q2
   have hor := or_lens p.1.size p.2.size hp8.1 hp8.2
   have hst := run_storeAt_one (P := Tryz.prog) (w := wr.alloc (.cells #[.string p.1, .string p.2] 58)) (a := ⟨w.heap.size + 1 + 1, 3 + i * 17, none⟩) (t := 5) (v := .int .u8 (bits .or .i64 ((p.1.size : Int) * 16) (p.2.size : Int) % 256)) (u := zv) ((cell_of_row _ _ (3 + i * 17) _ _ _ q2).trans (by rw [List.getElem?_toArray, List.getElem?_append_right (by omega), hAl, Nat.sub_self]; rfl)) (frozen_of_row _ _ _ _ _ q2) (by kernel_rfl) rfl
   have q3 : ((wr.alloc (.cells #[.string p.1, .string p.2] 58)).setCell ⟨w.heap.size + 1 + 1, 3 + i * 17, none⟩ (.int .u8 (bits .or .i64 ((p.1.size : Int) * 16) (p.2.size : Int) % 256))).heap[w.heap.size + 2]? = some (.cells ((A ++ [Value.int .u8 ((p.1.size * 16 + p.2.size : Nat) : Int)]) ++ (List.replicate 8 zv ++ (List.replicate 8 zv ++ b))).toArray 182 (0, 0)) := by
    rw [heap_setCell_at _ _ _ _ _ _ q2, hor, List.setIfInBounds_toArray, List.set_append_right _ _ (by omega), hAl, Nat.sub_self, List.set_cons_zero]
    simp
   have hf3 : Fr (fun b => b = w.heap.size + 2) (wr.alloc (.cells #[.string p.1, .string p.2] 58)) ((wr.alloc (.cells #[.string p.1, .string p.2] 58)).setCell ⟨w.heap.size + 1 + 1, 3 + i * 17, none⟩ (.int .u8 (bits .or .i64 ((p.1.size : Int) * 16) (p.2.size : Int) % 256))) := Fr.set1 _ _ _ _
   obtain ⟨W3, HW3⟩ : ∃ W3, Hid (W3 = (wr.alloc (.cells #[.string p.1, .string p.2] 58)).setCell ⟨w.heap.size + 1 + 1, 3 + i * 17, none⟩ (.int .u8 (bits .or .i64 ((p.1.size : Int) * 16) (p.2.size : Int) % 256))) := ⟨_, rfl⟩
   rw [← HW3.out] at hst q3 hf3
   have hwl := lt_of_heap HR.out.2.2.1
   have rS3 : W3.heap[wr.heap.size]? = some (.cells #[.string p.1, .string p.2] 58 (0, 0)) := hf3.keep rS (by omega)
   have k0 := hf3.keep (hfS.keep HR.out.1 (fun h => h)) (by omega)
   have k1 := hf3.keep (hfS.keep HR.out.2.1 (fun h => h)) (by omega)
   have hF3 : Fr (fun _ => False) w W3 := (HR.out.2.2.2.trans hfS (fun _ _ h => h)).trans hf3 (fun _ _ h => by omega)
   clear HW3 hfS rS q2 hf3 hbd
   go_wp2_with (first | (refine wpList_store 5 (w' := W3) _ _ rfl rfl ?_ ?_; exact hst))
   try simp only [Act.put]
   have hA1 : (A ++ [Value.int .u8 ((p.1.size * 16 + p.2.size : Nat) : Int)]).length = 3 + i * 17 + 1 := by rw [List.length_append, hAl]; rfl
   obtain ⟨U3, HU3⟩ : ∃ U3, Hid (U3 = W3.drew) := ⟨_, rfl⟩
   have hfU3 : Fr (fun _ => False) W3 U3 := by rw [HU3.out]; exact (Fr.refl _ _).drew
   let SU3 : World → Prop := fun w' => w'.cell? ⟨wr.heap.size, 0, none⟩ = some (.string p.1)
   have hS : SU3 U3 := (cell_of_row U3 _ 0 _ _ _ (hfU3.keep rS3 (fun h => h))).trans rfl
   refine wp_region_held (S := SU3) hlift ?_
   change wpAnyH _ _ _ _ SU3 _ _ _ (World.drew _)
   rw [← HU3.out]
   clear HU3
   refine tkE (S := SU3) (i := 0) (oi := ⟨some 34, .move (.tmp 6), _, _, _, none⟩) (v := .int .i64 (3 + (i : Int) * 17)) rfl hS ?_
   simp only [Act.put, lsE, lsZ, lsS]
   refine tkY (S := SU3) (i := 1) (oi := ⟨some 35, .binOp .add 3 (.tmp 34) (.const (.int .i64 1)) 3, _, _, _, none⟩) (v := .int .i64 ((3 + i * 17 + 1 : Nat) : Int)) rfl (Or.inl ⟨rfl, fun w' _ => exec_add rfl rfl rfl (by push_cast; omega) (by omega) (by omega) w'⟩) hS ?_
   simp only [Act.put, lsE, lsZ, lsS]
   refine tkE (S := SU3) (i := 3) (oi := ⟨some 37, .fieldAddr 58 (.tmp 5) 0, _, _, _, none⟩) (v := .pointer (some ⟨wr.heap.size, 0, none⟩)) rfl hS ?_
   simp only [Act.put, lsE, lsZ, lsS]
   refine tkY (S := SU3) (i := 4) (oi := ⟨some 38, .load 9 (.tmp 37), _, _, _, none⟩) (v := .string p.1) rfl (Or.inl ⟨rfl, fun w' hs => exec_load 9 (.tmp 37) rfl ⟨wr.heap.size, 0, none⟩ rfl (run_loadAt_one hs Tryz.underlying9 rfl)⟩) hS ?_
   simp only [Act.put, lsE, lsZ, lsS]
   refine wpAnyH_all (rs := [2]) (by kernel_rfl) (by simp) ?_
   intro i2 hi2
   obtain rfl : i2 = 2 := by simpa using hi2
   refine wpOp_call (o := ⟨some 36, .call { callee := .value (.func 97), args := #[(.tmp 3), (.tmp 35), (.const (.int .i64 8))], argTypes := _ }, _, _, _, none⟩) (f := 97) (args := #[.pointer (some ⟨w.heap.size + 1 + 1, 0, none⟩), .int .i64 ((3 + i * 17 + 1 : Nat) : Int), .int .i64 8]) rfl rfl (by kernel_rfl) ?_
   refine (bpart_ok U3 (w.heap.size + 1 + 1) (3 + i * 17 + 1) 8 (by omega) (by omega)).mono ?_
   rintro e w' ⟨rfl, rfl⟩
   refine ⟨_, rfl, hS, ?_⟩
   simp only [Act.put, lsE, lsZ, lsS]
   refine wpAnyH_all (rs := [5]) (by kernel_rfl) (by simp) ?_
   intro i5 hi5
   obtain rfl : i5 = 5 := by simpa using hi5
   have hcp := run_copy_text w' (w.heap.size + 1 + 1) (A ++ [Value.int .u8 ((p.1.size * 16 + p.2.size : Nat) : Int)]) (List.replicate 8 zv ++ b) p.1 hp8.1 182 (hfU3.keep q3 (fun h => h)) 3
   rw [hA1] at hcp
   have q4 := setRow_heap w' (w.heap.size + 2) _ ((A ++ [Value.int .u8 ((p.1.size * 16 + p.2.size : Nat) : Int)]) ++ (pad8 p.1 ++ (List.replicate 8 zv ++ b))).toArray 182 (0, 0) (hfU3.keep q3 (fun h => h))
   have hf4 : Fr (fun b => b = w.heap.size + 2) W3 (w'.setRow (w.heap.size + 2) ((A ++ [Value.int .u8 ((p.1.size * 16 + p.2.size : Nat) : Int)]) ++ (pad8 p.1 ++ (List.replicate 8 zv ++ b))).toArray) := Fr.setRow (S := fun b => b = w.heap.size + 2) (hfU3.mono (fun _ _ h => h.elim)) _ (fun _ => rfl) _
   obtain ⟨W4, HW4⟩ : ∃ W4, Hid (W4 = w'.setRow (w.heap.size + 2) ((A ++ [Value.int .u8 ((p.1.size * 16 + p.2.size : Nat) : Int)]) ++ (pad8 p.1 ++ (List.replicate 8 zv ++ b))).toArray) := ⟨_, rfl⟩
   have hcp' : (Builtin.copy_ #[85, 9] 3 #[.slice (some ⟨w.heap.size + 1 + 1, 3 + i * 17 + 1, none⟩) 8 8, .string p.1]).run Tryz.prog w' = .ok (goInt p.1.size) W4 := by rw [HW4.out]; exact hcp
   rw [← HW4.out] at q4 hf4
   have rS4 := hf4.keep rS3 (by omega)
   have k04 := hf4.keep k0 (by omega)
   have k14 := hf4.keep k1 (by omega)
   have hF4 : Fr (fun _ => False) w W4 := hF3.trans hf4 (fun _ _ h => by omega)
   refine wpOp_value (o := ⟨some 39, .call { callee := .builtin .copy, args := #[.tmp 36, .tmp 38], argTypes := #[85, 9] }, 3, _, _, none⟩) (v := goInt p.1.size) (w' := W4) rfl rfl (exec_copy rfl rfl rfl hcp') ⟨(cell_of_row W4 _ 0 _ _ _ rS4).trans rfl, ?_⟩
   simp only [Act.put, lsE, lsZ, lsS]
   refine wpAnyH_done (by kernel_rfl) ?_ _
   clear HW4 hcp hcp' hf4 hfU3 q3 rS3 k0 k1 hF3 hS hst
   go_wp2
   have hA2 : ((A ++ [Value.int .u8 ((p.1.size * 16 + p.2.size : Nat) : Int)]) ++ pad8 p.1).length = 3 + i * 17 + 1 + 8 := by rw [List.length_append, hA1, pad8_len _ hp8.1]
   have q4' : W4.heap[w.heap.size + 2]? = some (.cells (((A ++ [Value.int .u8 ((p.1.size * 16 + p.2.size : Nat) : Int)]) ++ pad8 p.1) ++ (List.replicate 8 zv ++ b)).toArray 182 (0, 0)) := by rw [q4]; simp
   obtain ⟨U4, HU4⟩ : ∃ U4, Hid (U4 = W4.drew) := ⟨_, rfl⟩
   have hfU4 : Fr (fun _ => False) W4 U4 := by rw [HU4.out]; exact (Fr.refl _ _).drew
   let SU4 : World → Prop := fun w' => w'.cell? ⟨wr.heap.size, 1, none⟩ = some (.string p.2)
   have hS : SU4 U4 := (cell_of_row U4 _ 1 _ _ _ (hfU4.keep rS4 (fun h => h))).trans rfl
   refine wp_region_held (S := SU4) hlift ?_
   change wpAnyH _ _ _ _ SU4 _ _ _ (World.drew _)
   rw [← HU4.out]
   clear HU4
   refine tkE (S := SU4) (i := 0) (oi := ⟨some 40, .move (.tmp 6), _, _, _, none⟩) (v := .int .i64 (3 + (i : Int) * 17)) rfl hS ?_
   simp only [Act.put, lsE, lsZ, lsS]
   refine tkY (S := SU4) (i := 1) (oi := ⟨some 41, .binOp .add 3 (.tmp 40) (.const (.int .i64 1)) 3, _, _, _, none⟩) (v := .int .i64 ((3 + i * 17 + 1 : Nat) : Int)) rfl (Or.inl ⟨rfl, fun w' _ => exec_add rfl rfl rfl (by push_cast; omega) (by omega) (by omega) w'⟩) hS ?_
   simp only [Act.put, lsE, lsZ, lsS]
   refine tkY (S := SU4) (i := 2) (oi := ⟨some 42, .binOp .add 3 (.tmp 41) (.const (.int .i64 8)) 3, _, _, _, none⟩) (v := .int .i64 ((3 + i * 17 + 1 + 8 : Nat) : Int)) rfl (Or.inl ⟨rfl, fun w' _ => exec_add rfl rfl rfl (by push_cast; omega) (by omega) (by omega) w'⟩) hS ?_
   simp only [Act.put, lsE, lsZ, lsS]
   refine tkE (S := SU4) (i := 4) (oi := ⟨some 44, .fieldAddr 58 (.tmp 5) 1, _, _, _, none⟩) (v := .pointer (some ⟨wr.heap.size, 1, none⟩)) rfl hS ?_
   simp only [Act.put, lsE, lsZ, lsS]
   refine tkY (S := SU4) (i := 5) (oi := ⟨some 45, .load 9 (.tmp 44), _, _, _, none⟩) (v := .string p.2) rfl (Or.inl ⟨rfl, fun w' hs => exec_load 9 (.tmp 44) rfl ⟨wr.heap.size, 1, none⟩ rfl (run_loadAt_one hs Tryz.underlying9 rfl)⟩) hS ?_
   simp only [Act.put, lsE, lsZ, lsS]
   refine wpAnyH_all (rs := [3]) (by kernel_rfl) (by simp) ?_
   intro i3 hi3
   obtain rfl : i3 = 3 := by simpa using hi3
   refine wpOp_call (o := ⟨some 43, .call { callee := .value (.func 97), args := #[(.tmp 3), (.tmp 42), (.const (.int .i64 8))], argTypes := _ }, _, _, _, none⟩) (f := 97) (args := #[.pointer (some ⟨w.heap.size + 1 + 1, 0, none⟩), .int .i64 ((3 + i * 17 + 1 + 8 : Nat) : Int), .int .i64 8]) rfl rfl (by kernel_rfl) ?_
   refine (bpart_ok U4 (w.heap.size + 1 + 1) (3 + i * 17 + 1 + 8) 8 (by omega) (by omega)).mono ?_
   rintro e w' ⟨rfl, rfl⟩
   refine ⟨_, rfl, hS, ?_⟩
   simp only [Act.put, lsE, lsZ, lsS]
   refine wpAnyH_all (rs := [6]) (by kernel_rfl) (by simp) ?_
   intro i6 hi6
   obtain rfl : i6 = 6 := by simpa using hi6
   have hcp := run_copy_text w' (w.heap.size + 1 + 1) ((A ++ [Value.int .u8 ((p.1.size * 16 + p.2.size : Nat) : Int)]) ++ pad8 p.1) b p.2 hp8.2 182 (hfU4.keep q4' (fun h => h)) 3
   rw [hA2] at hcp
   have q5 := setRow_heap w' (w.heap.size + 2) _ (((A ++ [Value.int .u8 ((p.1.size * 16 + p.2.size : Nat) : Int)]) ++ pad8 p.1) ++ (pad8 p.2 ++ b)).toArray 182 (0, 0) (hfU4.keep q4' (fun h => h))
   have hf5 : Fr (fun b => b = w.heap.size + 2) W4 (w'.setRow (w.heap.size + 2) (((A ++ [Value.int .u8 ((p.1.size * 16 + p.2.size : Nat) : Int)]) ++ pad8 p.1) ++ (pad8 p.2 ++ b)).toArray) := Fr.setRow (S := fun b => b = w.heap.size + 2) (hfU4.mono (fun _ _ h => h.elim)) _ (fun _ => rfl) _
   obtain ⟨W5, HW5⟩ : ∃ W5, Hid (W5 = w'.setRow (w.heap.size + 2) (((A ++ [Value.int .u8 ((p.1.size * 16 + p.2.size : Nat) : Int)]) ++ pad8 p.1) ++ (pad8 p.2 ++ b)).toArray) := ⟨_, rfl⟩
   have hcp' : (Builtin.copy_ #[85, 9] 3 #[.slice (some ⟨w.heap.size + 1 + 1, 3 + i * 17 + 1 + 8, none⟩) 8 8, .string p.2]).run Tryz.prog w' = .ok (goInt p.2.size) W5 := by rw [HW5.out]; exact hcp
   rw [← HW5.out] at q5 hf5
   have rS5 := hf5.keep rS4 (by omega)
   have HN : Hid (SbI id st w (i + 1) W5) := by
    refine ⟨hf5.keep k04 (by omega), hf5.keep k14 (by omega), ?_, hF4.trans hf5 (fun _ _ h => by omega)⟩
    rw [hbn, q5]
    simp
   refine wpOp_value (o := ⟨some 46, .call { callee := .builtin .copy, args := #[.tmp 43, .tmp 45], argTypes := #[85, 9] }, 3, _, _, none⟩) (v := goInt p.2.size) (w' := W5) rfl rfl (exec_copy rfl rfl rfl hcp') ⟨(cell_of_row W5 _ 1 _ _ _ rS5).trans rfl, ?_⟩
   simp only [Act.put, lsE, lsZ, lsS]
   refine wpAnyH_done (by kernel_rfl) ?_ _
   clear HW5 hcp hcp' hf5 hfU4 q4 q4' rS4 rS5 k04 k14 hF4 hS q5 hbn hor hix
   go_wp2
   go_roundw
   case rel => exact ⟨i + 1, by omega, by go_num, HN⟩
   case measure => simp [intOf]; omega
  ·obtain rfl : i = 6 := by omega
   have hbl : (bodyS id st.length (six st) 6).length = 124 := bodyS_len id st.length (six st) (six_ok h8) 6 (by rw [six_len _ h6]; omega) (by omega)
   have hb1 : ∀ v ∈ bodyS id st.length (six st) 6, v.oneCell' = true := bodyS_one _ _ _ _
   have hM6 : wr.rangeAt (w.heap.size + 1 + 1) 0 (bodyS id st.length (six st) 6) := fun j v hv => (cell_of_row wr _ (0 + j) _ _ _ HR.out.2.2.1).trans (by simpa using hv)
   go_wp2_with (first | (refine wpList_load_mid rfl 182 _ rfl (w.heap.size + 1 + 1) 0 ?_ _ _ hM6 Tryz.underlying182 rfl ?_ ?_; rfl; (rw [body_size, hbl])))
   refine (laid_ok wr 2 _ hbl hb1).mono ?_
   rintro e w7 ⟨rfl, hf7⟩
   have r7 := hf7.keep HR.out.2.1 (fun h => h)
   have hll : (ldB 2 (bodyS id st.length (six st) 6) 4).length = 128 := ldB_len 2 _ hbl 4 (by omega)
   have hst := run_store_blk r7 zB_len hll (ldB_one 2 _ hb1 4)
   have hRE := setRow_heap w7 (w.heap.size + 1) _ (ldB 2 (bodyS id st.length (six st) 6) 4).toArray 130 (0, 0) r7
   obtain ⟨WE, HWE⟩ : ∃ WE, Hid (WE = w7.setRow (w.heap.size + 1) (ldB 2 (bodyS id st.length (six st) 6) 4).toArray) := ⟨_, rfl⟩
   have hFE : Fr (fun _ => False) w WE := by rw [HWE.out]; exact (HR.out.2.2.2.trans hf7 (fun _ _ h => h)).setRow _ (fun h => by omega) _
   rw [← HWE.out] at hst hRE
   clear HWE hM6 HR hf7 r7
   go_wp2_with (first | (refine wpList_store 130 (w' := WE) _ _ rfl rfl ?_ ?_; exact hst))
   refine bodyPost_ret (v := .agg (ldB 2 (bodyS id st.length (six st) 6) 4).toArray) (results_cell_row Tryz.results62 _ _ (w.heap.size + 1) 130 _ (0, 0) _ rfl hRE Tryz.underlying130 rfl (by rw [block_size, List.size_toArray, hll])) rfl ⟨rfl, hFE⟩
end Go.Proofs.YteebjgfalllbjaaGreatDoor
