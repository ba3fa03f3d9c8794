import Derived.Test.YteebjgfalllbjaaGreatDoorProg
import Derived.Test.YteebjgfalllbjaaGreatDoorCFrRfRg
import Derived.WalkSpells
import Derived.WalkLawsBesides
import Derived.Laws.CopyOwn
import Derived.Deep.DeepMust
namespace Go.Proofs.YteebjgfalllbjaaGreatDoor
open Go.RowKit

def dcells (B n : Nat) (cache : Value) (calls writes : Int) : Array Value :=
 #[.slice (some ⟨B, 0, none⟩) n n, cache, .int .i64 calls, .int .i64 writes, .int .i64 0, .int .i64 (-1), .int .i64 0, .int .i64 0]
def DiskAt (w : World) (A B n : Nat) (cache : Value) (calls writes : Int) : Prop :=
 w.heap[A]? = some (.cells (dcells B n cache calls writes) 96 (0, 0))

section
variable {w : World} {A B n : Nat} {cache : Value} {calls writes : Int}
theorem DiskAt.c0 (h : DiskAt w A B n cache calls writes) : w.cell? ⟨A, 0, none⟩ = some (.slice (some ⟨B, 0, none⟩) n n) := by rw [cell_of_row w A 0 _ _ _ h]; rfl
theorem DiskAt.c1 (h : DiskAt w A B n cache calls writes) : w.cell? ⟨A, 1, none⟩ = some cache := by rw [cell_of_row w A 1 _ _ _ h]; rfl
theorem DiskAt.c2 (h : DiskAt w A B n cache calls writes) : w.cell? ⟨A, 2, none⟩ = some (.int .i64 calls) := by rw [cell_of_row w A 2 _ _ _ h]; rfl
theorem DiskAt.c3 (h : DiskAt w A B n cache calls writes) : w.cell? ⟨A, 3, none⟩ = some (.int .i64 writes) := by rw [cell_of_row w A 3 _ _ _ h]; rfl
theorem DiskAt.c5 (h : DiskAt w A B n cache calls writes) : w.cell? ⟨A, 5, none⟩ = some (.int .i64 (-1)) := by rw [cell_of_row w A 5 _ _ _ h]; rfl
theorem DiskAt.c6 (h : DiskAt w A B n cache calls writes) : w.cell? ⟨A, 6, none⟩ = some (.int .i64 0) := by rw [cell_of_row w A 6 _ _ _ h]; rfl
theorem DiskAt.c7 (h : DiskAt w A B n cache calls writes) : w.cell? ⟨A, 7, none⟩ = some (.int .i64 0) := by rw [cell_of_row w A 7 _ _ _ h]; rfl
theorem DiskAt.fz (h : DiskAt w A B n cache calls writes) (j : Nat) : w.frozen? ⟨A, j, none⟩ = false := frozen_of_row w A j _ _ h
theorem DiskAt.lt (h : DiskAt w A B n cache calls writes) : A < w.heap.size := lt_of_heap h
theorem DiskAt.set1 (h : DiskAt w A B n cache calls writes) (v : Value) : DiskAt (w.setCell ⟨A, 1, none⟩ v) A B n v calls writes := heap_setCell_at w A 1 _ _ v h
theorem DiskAt.set2 (h : DiskAt w A B n cache calls writes) (v : Int) : DiskAt (w.setCell ⟨A, 2, none⟩ (.int .i64 v)) A B n cache v writes := heap_setCell_at w A 2 _ _ _ h
theorem DiskAt.set3 (h : DiskAt w A B n cache calls writes) (v : Int) : DiskAt (w.setCell ⟨A, 3, none⟩ (.int .i64 v)) A B n cache calls v := heap_setCell_at w A 3 _ _ _ h
theorem DiskAt.drew (h : DiskAt w A B n cache calls writes) : DiskAt w.drew A B n cache calls writes := h
theorem DiskAt.alloc (h : DiskAt w A B n cache calls writes) (o : Obj) : DiskAt (w.alloc o) A B n cache calls writes := by
 unfold DiskAt; rw [heap_alloc_lt w o A h.lt]; exact h
theorem DiskAt.setCell (h : DiskAt w A B n cache calls writes) (p : Addr) (v : Value) (hp : A ≠ p.block) : DiskAt (w.setCell p v) A B n cache calls writes := by
 unfold DiskAt; rw [heap_setCell_ne w p A v hp]; exact h
theorem DiskAt.fr {S : Nat → Prop} {w' : World} (h : DiskAt w A B n cache calls writes) (hf : Fr S w w') (hn : ¬ S A) : DiskAt w' A B n cache calls writes := hf.keep h hn
end

theorem fails_ok {w : World} {A B n : Nat} {cache : Value} {calls writes : Int} (h : DiskAt w A B n cache calls writes) (h0 : 0 ≤ calls) (h1 : calls < 1000000000) :
  Calls Tryz.prog 208 #[.pointer (some ⟨A, 0, none⟩)] w fun e w' => e = .returned (.bool false) ∧ DiskAt w' A B n cache (calls + 1) writes ∧ Fr (· = A) w w' ∧ w'.heap.size = w.heap.size := by
 have hq := h.set2 (calls + 1)
 have c2 := h.c2
 have c5 := h.c5
 have c6 := h.c6
 have c7 := h.c7
 have f2 := h.fz 2
 have hd : decide (calls < 0) = false := by simp; omega
 clear h
 go_enter Tryz.func208, Tryz.ntmps208
 go_wp2
 go_ret
 exact ⟨rfl, hq, Fr.set1 _ _ _ _, by simp⟩

theorem none_ok {w : World} {A B n : Nat} {cache : Value} {calls writes : Int} (h : DiskAt w A B n cache calls writes) (i : Int) (h0 : 0 ≤ i) (h1 : i < n) :
  Calls Tryz.prog 209 #[.pointer (some ⟨A, 0, none⟩), .int .i64 i] w fun e w' => e = .returned (.bool false) ∧ w' = w := by
 have c0 := h.c0
 have hd : decide (i < 0) = false := by simp; omega
 have hd2 : decide ((n : Int) ≤ i) = false := by simp; omega
 clear h
 go_enter Tryz.func209, Tryz.ntmps209
 go_wp2
 go_ret
 exact ⟨rfl, rfl⟩

theorem dBlocks_ok {w : World} {A B n : Nat} {cache : Value} {calls writes : Int} (h : DiskAt w A B n cache calls writes) :
  Calls Tryz.prog 204 #[.pointer (some ⟨A, 0, none⟩)] w fun e w' => e = .returned (.int .i64 n) ∧ w' = w := by
 have c0 := h.c0
 clear h
 go_enter Tryz.func204, Tryz.ntmps204
 go_wp2
 go_ret
 exact ⟨rfl, rfl⟩
end Go.Proofs.YteebjgfalllbjaaGreatDoor
namespace Go.Proofs.YteebjgfalllbjaaGreatDoor
open Go.RowKit

def z128 : Array Value := Array.replicate 128 (.int .u8 0)
theorem z128_size : z128.size = 128 := by simp [z128]
theorem makeBytes128 (w : World) : (Instr.makeSlice 85 (.int .i64 128) (.int .i64 128)).run Tryz.prog w = .ok (.slice (some ⟨w.heap.size, 0, none⟩) 128 128) (w.alloc (.cells z128 5)) := by kernel_rfl
theorem u8size : (Tryz.prog.info? 5).map (·.size) = some 1 := by kernel_rfl

def RowsAt (w : World) (B n : Nat) (bs : List Value) : Prop := w.heap[B]? = some (.cells bs.toArray 97 (0, 0)) ∧ bs.length = n * 128 ∧ ∀ v ∈ bs, v.oneCell' = true

set_option maxRecDepth 100000 in
set_option maxHeartbeats 400000 in
theorem Read_ok {w : World} {A B n : Nat} {calls writes : Int} {bs : List Value} (h : DiskAt w A B n (.slice none 0 0) calls writes) (hr : RowsAt w B n bs) (h0 : 0 ≤ calls) (h1 : calls < 1000000000) (i : Nat) (hi : i < n) :
  Calls Tryz.prog 206 #[.pointer (some ⟨A, 0, none⟩), .int .i64 i] w fun e w' => e = .returned (.tuple #[.slice (some ⟨w.heap.size, 0, none⟩) 128 128, .nilIface]) ∧
   w'.heap[w.heap.size]? = some (.cells ((bs.drop (i * 128)).take 128).toArray 5 (0, 0)) ∧ DiskAt w' A B n (.slice none 0 0) (calls + 1) writes ∧ Fr (· = A) w w' := by
 have hA := h.lt
 obtain ⟨hb, hl, hone⟩ := hr
 have hAB : A ≠ B := by
  intro e; subst e
  have := h.symm.trans hb
  simp at this
 have hBl : B < w.heap.size := lt_of_heap hb
 have hcl : ((bs.drop (i * 128)).take 128).length = 128 := by simp; omega
 have hone' : ∀ v ∈ (bs.drop (i * 128)).take 128, v.oneCell' = true := fun v hv => hone v (List.mem_of_mem_drop (List.mem_of_mem_take hv))
 have hnew : z128.toList.take 0 ++ ((bs.drop (i * 128)).take 128 ++ z128.toList.drop (0 + ((bs.drop (i * 128)).take 128).length)) = (bs.drop (i * 128)).take 128 := by
  rw [hcl, List.drop_of_length_le (l := z128.toList) (by rw [Array.length_toList, z128_size]; decide)]; simp
 have hsrcs : ∀ w1 : World, w1.heap[B]? = some (.cells bs.toArray 97 (0, 0)) → ∀ j v, ((bs.drop (i * 128)).take 128)[j]? = some v → w1.cell? ((⟨B, i * 128, none⟩ : Addr).add j) = some v := fun w1 hw1 => src_of_row hw1 (i * 128) 128
 generalize (bs.drop (i * 128)).take 128 = cs at *
 go_enter Tryz.func206, Tryz.ntmps206
 go_wp2_with fail
 refine (fails_ok h h0 h1).mono ?_
 rintro e w1 ⟨rfl, hd1, hf1, hs1⟩
 have HS1 : Hid (w1.heap.size = w.heap.size) := hs1
 clear hs1
 have hb1 := hf1.keep hb hAB.symm
 go_wp2_with fail
 refine (none_ok hd1 _ (by omega) (by omega)).mono ?_
 rintro e w' ⟨rfl, rfl⟩
 have c0' := (hd1.alloc (.cells z128 5)).c0
 have c1' := (hd1.alloc (.cells z128 5)).c1
 have hsrc := hsrcs (w'.alloc (.cells z128 5)) (by rw [heap_alloc_lt _ _ _ (lt_of_heap hb1)]; exact hb1)
 go_wp2_with (first
  | (refine wpList_makeSlice 85 (.const (.int .i64 128)) (.const (.int .i64 128)) rfl rfl (by exact makeBytes128 _) ?_)
  | (refine wpList_copy_to rfl (.tmp 18) (.tmp 25) 85 85 rfl 5 Tryz.underlying85 u8size w'.heap.size 0 128 128 ⟨B, i * 128, none⟩ 128 128 rfl rfl z128 5 (heap_alloc_at _ _) cs (by rw [hcl]; rfl) hsrc (by rw [hcl, z128_size]; decide) hone' cs hnew ?_; intro w2 HW2; have c12 : w2.cell? ⟨A, 1, none⟩ = some (.slice none 0 0) := by (rw [HW2.out, cell_setRow_other _ _ _ _ (by have := hd1.lt; simp; omega)]; exact c1')))
 refine wp_loop_rounds 1 ?_
 rw [rounds_succ]
 go_wp2
 go_ret2
 have hs2 : w2.heap[w'.heap.size]? = some (.cells cs.toArray 5 (0, 0)) := by rw [HW2.out]; exact setRow_heap _ _ _ _ _ _ (heap_alloc_at _ _)
 have hf2 : Fr (· = A) w w2 := by rw [HW2.out]; exact (hf1.alloc _).setRow _ (fun hh => by rw [HS1.out] at hh; omega) _
 have hd2 : DiskAt w2 A B n (.slice none 0 0) (calls + 1) writes := by
  unfold DiskAt; rw [HW2.out, setRow_other _ _ _ _ (by have := hd1.lt; omega)]; exact hd1.alloc _
 rw [HS1.out] at hs2 ⊢
 exact ⟨rfl, hs2, hd2, hf2⟩
end Go.Proofs.YteebjgfalllbjaaGreatDoor
namespace Go.Proofs.YteebjgfalllbjaaGreatDoor
open Go.RowKit

theorem fold_set : ∀ (l : List Value) (k : Nat) (d : Array Value), k + l.length ≤ d.size →
  ((l.zipIdx k).foldl (fun cs p => cs.setIfInBounds (0 + p.2) p.1) d).toList = d.toList.take k ++ (l ++ d.toList.drop (k + l.length))
 | [], k, d, _ => by simp
 | v :: r, k, d, h => by
  simp only [List.zipIdx_cons, List.foldl_cons]
  rw [fold_set r (k + 1) _ (by simp at h ⊢; omega)]
  simp only [List.length_cons] at h
  simp only [Nat.zero_add, Array.toList_setIfInBounds, List.length_cons]
  have hk : k < d.toList.length := by rw [Array.length_toList]; omega
  have e1 : (d.toList.set k v).take (k + 1) = d.toList.take k ++ [v] := by
   rw [List.take_set, List.take_succ_eq_append_getElem hk, List.set_append_right _ _ (by simp; omega)]
   have hm : min k d.size = k := Nat.min_eq_left (by rw [← Array.length_toList]; omega)
   simp [hm]
  have e2 : (d.toList.set k v).drop (k + 1 + r.length) = d.toList.drop (k + 1 + r.length) := by
   rw [List.drop_set_of_lt (by omega)]
  rw [e1, e2]
  have e3 : k + 1 + r.length = k + (r.length + 1) := by omega
  rw [e3]
  simp

theorem fill_one (size : Nat) (d : Array Value) (v : Value) (h1 : v.cells.size = size) (h2 : d.size = size) :
  Instr.fill (fun i => some (i * size, size)) d [(0, v)] = some v.cells := by
 simp only [Instr.fill, Nat.zero_mul, h1]
 have hne : (decide (size ≠ size) || decide (0 + size > d.size)) = false := by simp; omega
 rw [if_neg (by simpa using hne)]
 congr 1
 apply Array.toList_inj.1
 rw [← Array.foldl_toList]
 have e : v.cells.zipIdx.toList = v.cells.toList.zipIdx := by simp
 rw [e]
 have := fold_set v.cells.toList 0 d (by simp; omega)
 rw [this]
 rw [List.drop_of_length_le (l := d.toList) (by simp; omega)]
 simp

theorem run_buildSlice_one {P : Program} (w : World) (t e : TypeId) (inf : TypeInfo) (z v : Value) (hu : P.underlying t = some (.slice e)) (hi : P.info? e = some inf) (hz : inf.zero = some z)
  (hs : v.cells.size = inf.size) (h0 : 0 < inf.size) (hb : inf.size ≤ 16777216) :
  (Instr.buildSlice t 1 #[(0, v)]).run P w = .ok (.slice (some ⟨w.heap.size, 0, none⟩) 1 1) (w.alloc (.cells v.cells e)) := by
 have hf := fill_one inf.size ((Array.range (1 * inf.size)).map (z.cells[· % z.cells.size]!)) v hs (by simp)
 have hne : ¬ inf.size = 0 := by omega
 have hle : ¬ (1 * inf.size > 2 ^ 24) := by simp; omega
 simp only [Nat.one_mul] at hf hle
 simp [Instr.buildSlice, run_underlying hu, sizeOf, typeInfo, zeroValue, hi, hz, hne, hf, newRow]
 omega

theorem run_loadAt_one {P : Program} {w : World} {a : Addr} {v : Value} {t : TypeId} {d : TypeDesc} (hc : w.cell? a = some v) (hu : P.underlying t = some d) (hd : d.isRow = false) :
  (Instr.loadAt t (.pointer (some a))).run P w = .ok v w := by
 have hagg : (isAgg t).run P w = .ok false w := by
  unfold isAgg
  rw [Sem.run_bind, run_underlying hu w]
  cases d <;> simp_all
 simp [Instr.loadAt, Instr.sureAddr, loadVar, Sem.run_bind, hagg, hc]

theorem run_storeAt_one {P : Program} {w : World} {a : Addr} {v u : Value} {t : TypeId} (hc : w.cell? a = some u) (hf : w.frozen? a = false) (hi : (P.info? t).map (·.size) = some 1) (h1 : v.oneCell' = true) :
  (Instr.storeAt t (.pointer (some a)) v).run P w = .ok () (w.setCell a v) := by
 cases hq : P.info? t with
 | none => simp [hq] at hi
 | some i =>
  have hs : i.size = 1 := by simpa [hq] using hi
  have hcl : v.cells = #[v] := by cases v <;> first | rfl | simp [Value.oneCell'] at h1
  have hst := run_store P w a v .plain h1
  simp only [hc, hf] at hst
  simp [Instr.storeAt, Instr.sureAddr, storeVar, sizeOf, typeInfo, hq, hs, hcl, storeCells, Addr.add, hst]

section
variable {P : Program} {ρ : Operand → Value} {o : Oper} {w w' : World} {v : Value}
theorem exec_load (t : TypeId) (x : Operand) (ho : o.op = .load t x) (a : Addr) (hx : ρ x = .pointer (some a)) (hr : (Instr.loadAt t (.pointer (some a))).run P w = .ok v w') : (execOp ρ o).run P w = .ok (.value v) w' := by
 simp only [execOp, ho, hx, Sem.run_bind, hr, Result.andThen_ok, Sem.run_pure]
theorem exec_buildSlice (t : TypeId) (n : Nat) (ps : Array (Nat × Operand)) (ho : o.op = .buildSlice t n ps) (vs : Array (Nat × Value)) (hvs : (ps.map fun (i, x) => (i, ρ x)) = vs) (hr : (Instr.buildSlice t n vs).run P w = .ok v w') : (execOp ρ o).run P w = .ok (.value v) w' := by
 simp only [execOp, ho, hvs, Sem.run_bind, hr, Result.andThen_ok, Sem.run_pure]
theorem exec_store (t : TypeId) (x y : Operand) (ho : o.op = .store t x y) (a : Addr) (u : Value) (hx : ρ x = .pointer (some a)) (hy : ρ y = u) (hr : (Instr.storeAt t (.pointer (some a)) u).run P w = .ok () w') : (execOp ρ o).run P w = .ok .skip w' := by
 simp only [execOp, ho, hx, hy, Sem.run_bind, hr, Result.andThen_ok, Sem.run_pure]
theorem exec_indexAddr (t : TypeId) (x y : Operand) (ho : o.op = .indexAddr t x y) {u i : Value} (hx : ρ x = u) (hy : ρ y = i) (hr : (Instr.indexAt t u i).run P w = .ok v w') : (execOp ρ o).run P w = .ok (.value v) w' := by
 simp only [execOp, ho, hx, hy, Sem.run_bind, hr, Result.andThen_ok, Sem.run_pure]
end
end Go.Proofs.YteebjgfalllbjaaGreatDoor
