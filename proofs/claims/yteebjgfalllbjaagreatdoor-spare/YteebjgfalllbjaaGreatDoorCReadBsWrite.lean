import Derived.Test.YteebjgfalllbjaaGreatDoorCRhRiApi
import Derived.Laws.CopyOwn
import Derived.Deep.DeepMust
import Derived.Test.YteebjgfalllbjaaGreatDoorCFrRfRg
namespace Go.Proofs.YteebjgfalllbjaaGreatDoor
open Go.RowKit

/-- 128 noughts. -/
def z128 : Array Value := Array.replicate 128 (.int .u8 0)
theorem z128_size : z128.size = 128 := by simp [z128]
theorem makeBytes128 (w : World) : (Instr.makeSlice 85 (.int .i64 128) (.int .i64 128)).run Tryz.prog w = .ok (.slice (some ⟨w.heap.size, 0, none⟩) 128 128) (w.alloc (.cells z128 5)) := by kernel_rfl
theorem u8size : (Tryz.prog.info? 5).map (·.size) = some 1 := by kernel_rfl

/-- n blocks lie at block B. -/
def RowsAt (w : World) (B n : Nat) (bs : List Value) : Prop := w.heap[B]? = some (.cells bs.toArray 97 (0, 0)) ∧ bs.length = n * 128 ∧ ∀ v ∈ bs, v.oneCell' = true

set_option maxRecDepth 100000 in
set_option maxHeartbeats 400000 in
theorem Read_ok {w : World} {A B n : Nat} {calls writes : Int} {bs : List Value} (h : DiskAt w A B n (.slice none 0 0) calls writes) (hr : RowsAt w B n bs) (h0 : 0 ≤ calls) (h1 : calls < 1000000000) (i : Nat) (hi : i < n) :
    Calls Tryz.prog 206 #[.pointer (some ⟨A, 0, none⟩), .int .i64 i] w fun e w' => e = .returned (.tuple #[.slice (some ⟨w.heap.size, 0, none⟩) 128 128, .nilIface]) ∧
      w'.heap[w.heap.size]? = some (.cells ((bs.drop (i * 128)).take 128).toArray 5 (0, 0)) ∧ DiskAt w' A B n (.slice none 0 0) (calls + 1) writes ∧ Fr (· = A) w w' := by
  have hA := h.lt
  obtain ⟨hb, hl, hone⟩ := hr
  have hAB : A ≠ B := by
    intro e; subst e
    have := h.symm.trans hb
    simp at this
  have hBl : B < w.heap.size := lt_of_heap hb
  have hcl : ((bs.drop (i * 128)).take 128).length = 128 := by simp; omega
  have hone' : ∀ v ∈ (bs.drop (i * 128)).take 128, v.oneCell' = true := fun v hv => hone v (List.mem_of_mem_drop (List.mem_of_mem_take hv))
  have hnew : z128.toList.take 0 ++ ((bs.drop (i * 128)).take 128 ++ z128.toList.drop (0 + ((bs.drop (i * 128)).take 128).length)) = (bs.drop (i * 128)).take 128 := by
    rw [hcl, List.drop_of_length_le (l := z128.toList) (by rw [Array.length_toList, z128_size]; decide)]; simp
  have hsrcs : ∀ w1 : World, w1.heap[B]? = some (.cells bs.toArray 97 (0, 0)) → ∀ j v, ((bs.drop (i * 128)).take 128)[j]? = some v → w1.cell? ((⟨B, i * 128, none⟩ : Addr).add j) = some v := fun w1 hw1 => src_of_row hw1 (i * 128) 128
  generalize (bs.drop (i * 128)).take 128 = cs at *
  go_enter Tryz.func206, Tryz.ntmps206
  go_wp2_with fail
  refine (fails_ok h h0 h1).mono ?_
  rintro e w1 ⟨rfl, hd1, hf1, hs1⟩
  have HS1 : Hid (w1.heap.size = w.heap.size) := hs1
  clear hs1
  have hb1 := hf1.keep hb hAB.symm
  go_wp2_with fail
  refine (none_ok hd1 _ (by omega) (by omega)).mono ?_
  rintro e w' ⟨rfl, rfl⟩
  have c0' := (hd1.alloc (.cells z128 5)).c0
  have c1' := (hd1.alloc (.cells z128 5)).c1
  have hsrc := hsrcs (w'.alloc (.cells z128 5)) (by rw [heap_alloc_lt _ _ _ (lt_of_heap hb1)]; exact hb1)
  go_wp2_with (first
    | (refine wpList_makeSlice 85 (.const (.int .i64 128)) (.const (.int .i64 128)) rfl rfl (by exact makeBytes128 _) ?_)
    | (refine wpList_copy_to rfl (.tmp 18) (.tmp 25) 85 85 rfl 5 Tryz.underlying85 u8size w'.heap.size 0 128 128 ⟨B, i * 128, none⟩ 128 128 rfl rfl z128 5 (heap_alloc_at _ _) cs (by rw [hcl]; rfl) hsrc (by rw [hcl, z128_size]; decide) hone' cs hnew ?_; intro w2 HW2; have c12 : w2.cell? ⟨A, 1, none⟩ = some (.slice none 0 0) := by (rw [HW2.out, cell_setRow_other _ _ _ _ (by have := hd1.lt; simp; omega)]; exact c1')))
  refine wp_loop_rounds 1 ?_
  rw [rounds_succ]
  go_wp2
  go_ret2
  have hs2 : w2.heap[w'.heap.size]? = some (.cells cs.toArray 5 (0, 0)) := by rw [HW2.out]; exact setRow_heap _ _ _ _ _ _ (heap_alloc_at _ _)
  have hf2 : Fr (· = A) w w2 := by rw [HW2.out]; exact (hf1.alloc _).setRow _ (fun hh => by rw [HS1.out] at hh; omega) _
  have hd2 : DiskAt w2 A B n (.slice none 0 0) (calls + 1) writes := by
    unfold DiskAt; rw [HW2.out, setRow_other _ _ _ _ (by have := hd1.lt; omega)]; exact hd1.alloc _
  rw [HS1.out] at hs2 ⊢
  exact ⟨rfl, hs2, hd2, hf2⟩
end Go.Proofs.YteebjgfalllbjaaGreatDoor
namespace Go.Proofs.YteebjgfalllbjaaGreatDoor
open Go.RowKit

theorem fold_set : ∀ (l : List Value) (k : Nat) (d : Array Value), k + l.length ≤ d.size →
    ((l.zipIdx k).foldl (fun cs p => cs.setIfInBounds (0 + p.2) p.1) d).toList = d.toList.take k ++ (l ++ d.toList.drop (k + l.length))
  | [], k, d, _ => by simp
  | v :: r, k, d, h => by
    simp only [List.zipIdx_cons, List.foldl_cons]
    rw [fold_set r (k + 1) _ (by simp at h ⊢; omega)]
    simp only [List.length_cons] at h
    simp only [Nat.zero_add, Array.toList_setIfInBounds, List.length_cons]
    have hk : k < d.toList.length := by rw [Array.length_toList]; omega
    have e1 : (d.toList.set k v).take (k + 1) = d.toList.take k ++ [v] := by
      rw [List.take_set, List.take_succ_eq_append_getElem hk, List.set_append_right _ _ (by simp; omega)]
      have hm : min k d.size = k := Nat.min_eq_left (by rw [← Array.length_toList]; omega)
      simp [hm]
    have e2 : (d.toList.set k v).drop (k + 1 + r.length) = d.toList.drop (k + 1 + r.length) := by
      rw [List.drop_set_of_lt (by omega)]
    rw [e1, e2]
    have e3 : k + 1 + r.length = k + (r.length + 1) := by omega
    rw [e3]
    simp

theorem fill_one (size : Nat) (d : Array Value) (v : Value) (h1 : v.cells.size = size) (h2 : d.size = size) :
    Instr.fill (fun i => some (i * size, size)) d [(0, v)] = some v.cells := by
  simp only [Instr.fill, Nat.zero_mul, h1]
  have hne : (decide (size ≠ size) || decide (0 + size > d.size)) = false := by simp; omega
  rw [if_neg (by simpa using hne)]
  congr 1
  apply Array.toList_inj.1
  rw [← Array.foldl_toList]
  have e : v.cells.zipIdx.toList = v.cells.toList.zipIdx := by simp
  rw [e]
  have := fold_set v.cells.toList 0 d (by simp; omega)
  rw [this]
  rw [List.drop_of_length_le (l := d.toList) (by simp; omega)]
  simp

/-- A slice of one element, whatever its cells. -/
theorem run_buildSlice_one {P : Program} (w : World) (t e : TypeId) (inf : TypeInfo) (z v : Value) (hu : P.underlying t = some (.slice e)) (hi : P.info? e = some inf) (hz : inf.zero = some z)
    (hs : v.cells.size = inf.size) (h0 : 0 < inf.size) (hb : inf.size ≤ 16777216) :
    (Instr.buildSlice t 1 #[(0, v)]).run P w = .ok (.slice (some ⟨w.heap.size, 0, none⟩) 1 1) (w.alloc (.cells v.cells e)) := by
  have hf := fill_one inf.size ((Array.range (1 * inf.size)).map (z.cells[· % z.cells.size]!)) v hs (by simp)
  have hne : ¬ inf.size = 0 := by omega
  have hle : ¬ (1 * inf.size > 2 ^ 24) := by simp; omega
  simp only [Nat.one_mul] at hf hle
  simp [Instr.buildSlice, run_underlying hu, sizeOf, typeInfo, zeroValue, hi, hz, hne, hf, newRow]
  omega

theorem run_loadAt_one {P : Program} {w : World} {a : Addr} {v : Value} {t : TypeId} {d : TypeDesc} (hc : w.cell? a = some v) (hu : P.underlying t = some d) (hd : d.isRow = false) :
    (Instr.loadAt t (.pointer (some a))).run P w = .ok v w := by
  have hagg : (isAgg t).run P w = .ok false w := by
    unfold isAgg
    rw [Sem.run_bind, run_underlying hu w]
    cases d <;> simp_all
  simp [Instr.loadAt, Instr.sureAddr, loadVar, Sem.run_bind, hagg, hc]

theorem run_storeAt_one {P : Program} {w : World} {a : Addr} {v u : Value} {t : TypeId} (hc : w.cell? a = some u) (hf : w.frozen? a = false) (hi : (P.info? t).map (·.size) = some 1) (h1 : v.oneCell' = true) :
    (Instr.storeAt t (.pointer (some a)) v).run P w = .ok () (w.setCell a v) := by
  cases hq : P.info? t with
  | none => simp [hq] at hi
  | some i =>
    have hs : i.size = 1 := by simpa [hq] using hi
    have hcl : v.cells = #[v] := by cases v <;> first | rfl | simp [Value.oneCell'] at h1
    have hst := run_store P w a v .plain h1
    simp only [hc, hf] at hst
    simp [Instr.storeAt, Instr.sureAddr, storeVar, sizeOf, typeInfo, hq, hs, hcl, storeCells, Addr.add, hst]

section
variable {P : Program} {ρ : Operand → Value} {o : Oper} {w w' : World} {v : Value}
theorem exec_load (t : TypeId) (x : Operand) (ho : o.op = .load t x) (a : Addr) (hx : ρ x = .pointer (some a)) (hr : (Instr.loadAt t (.pointer (some a))).run P w = .ok v w') : (execOp ρ o).run P w = .ok (.value v) w' := by
  simp only [execOp, ho, hx, Sem.run_bind, hr, Result.andThen_ok, Sem.run_pure]
theorem exec_buildSlice (t : TypeId) (n : Nat) (ps : Array (Nat × Operand)) (ho : o.op = .buildSlice t n ps) (vs : Array (Nat × Value)) (hvs : (ps.map fun (i, x) => (i, ρ x)) = vs) (hr : (Instr.buildSlice t n vs).run P w = .ok v w') : (execOp ρ o).run P w = .ok (.value v) w' := by
  simp only [execOp, ho, hvs, Sem.run_bind, hr, Result.andThen_ok, Sem.run_pure]
theorem exec_store (t : TypeId) (x y : Operand) (ho : o.op = .store t x y) (a : Addr) (u : Value) (hx : ρ x = .pointer (some a)) (hy : ρ y = u) (hr : (Instr.storeAt t (.pointer (some a)) u).run P w = .ok () w') : (execOp ρ o).run P w = .ok .skip w' := by
  simp only [execOp, ho, hx, hy, Sem.run_bind, hr, Result.andThen_ok, Sem.run_pure]
theorem exec_indexAddr (t : TypeId) (x y : Operand) (ho : o.op = .indexAddr t x y) {u i : Value} (hx : ρ x = u) (hy : ρ y = i) (hr : (Instr.indexAt t u i).run P w = .ok v w') : (execOp ρ o).run P w = .ok (.value v) w' := by
  simp only [execOp, ho, hx, hy, Sem.run_bind, hr, Result.andThen_ok, Sem.run_pure]
end
end Go.Proofs.YteebjgfalllbjaaGreatDoor
namespace Go.Proofs.YteebjgfalllbjaaGreatDoor
open Go.RowKit

/-- The cells of a write: where, and noughts. -/
def wz (v : Value) : Array Value := #[v] ++ z128
theorem wz_size (v : Value) : (wz v).size = 129 := by simp [wz, z128_size]
theorem wz_list (v : Value) : (wz v).toList = v :: z128.toList := by simp [wz]
theorem built_write (x : Int) (w : World) : (Instr.build 101 #[(0, .int .i64 x)]).run Tryz.prog w = .ok (.agg (wz (.int .i64 x))) w := by kernel_rfl
theorem alloc_write (w : World) : (Instr.alloc 101 true (.tuple #[])).run Tryz.prog w = .ok (.pointer (some ⟨w.heap.size, 0, none⟩)) (w.alloc (.cells (wz (.int .i64 0)) 101)) := by kernel_rfl
theorem write_size : (Tryz.prog.info? 101).map (·.size) = some 129 := by kernel_rfl
theorem write_info : (Tryz.prog.info? 101).map (fun i => (i.zero, i.size, i.bytes)) = some (some (.agg (wz (.int .i64 0))), 129, 136) := by kernel_rfl
theorem z128_one : ∀ v ∈ z128.toList, v.oneCell' = true := by
  intro v hv
  simp [z128] at hv
  rw [hv]; rfl
theorem store_write (i : Int) (w : World) : (Instr.storeAt 101 (.pointer (some ⟨w.heap.size, 0, none⟩)) (.agg (wz (.int .i64 i)))).run Tryz.prog (w.alloc (.cells (wz (.int .i64 0)) 101)) = .ok () (w.alloc (.cells (wz (.int .i64 i)) 101)) :=
  run_storeAt_new w 101 _ _ (by rw [wz_size]; exact write_size) (by rw [wz_size, wz_size]) (by
    rw [Array.all_eq_true_iff_forall_mem]
    intro v hv
    have : v ∈ (wz (.int .i64 i)).toList := by simpa using hv
    rw [wz_list] at this
    rcases List.mem_cons.1 this with rfl | h
    · rfl
    · exact z128_one v h)

/-- What is owned of another type stays while a cell of a block is set. -/
theorem own_set {w : World} {A i : Nat} {u : Value} {cs : Array Value} {tA : TypeId} (hA : w.heap[A]? = some (.cells cs tA (0, 0))) {base e size k : Nat} {v : Value} {xs : List Value} (he : tA ≠ e) (h : w.ownsRow base e size v k xs) : (w.setCell ⟨A, i, none⟩ u).ownsRow base e size v k xs := by
  refine h.kept (row := some A) ⟨rfl, rfl, rfl, by simp [World.setCell], fun b _ hn => heap_setCell_ne _ _ _ _ (fun e => hn (by rw [e]))⟩ ?_
  rcases h.2 with ⟨rfl, _⟩ | ⟨g, cap, cur, rfl, hb, hg, _⟩
  · exact .inl rfl
  · right
    intro e
    simp only [Value.ownBlock, Option.some.injEq] at e
    subst e
    rw [hA] at hg
    simp at hg
    exact he hg.2

set_option maxRecDepth 100000 in
set_option maxHeartbeats 1000000 in
theorem Write_ok {w : World} {A B n : Nat} {cache : Value} {calls writes : Int} (h : DiskAt w A B n cache calls writes) (h0 : 0 ≤ calls) (h1 : calls < 1000000000) (h2 : 0 ≤ writes) (h3 : writes < 1000000000)
    {base k : Nat} {xs : List Value} (hown : w.ownsRow base 101 129 cache k xs) (hk : k < 1000000) (hbase : base ≤ w.heap.size)
    (i : Nat) (hi : i < n) (C : Nat) (tC : TypeId) (data : List Value) (hC : w.heap[C]? = some (.cells data.toArray tC (0, 0))) (hl : data.length = 128) (hone : ∀ v ∈ data, v.oneCell' = true) (hCA : C ≠ A) :
    Calls Tryz.prog 207 #[.pointer (some ⟨A, 0, none⟩), .int .i64 i, .slice (some ⟨C, 0, none⟩) 128 128] w fun e w' => e = .returned .nilIface ∧
      ∃ cache', DiskAt w' A B n cache' (calls + 1) (writes + 1) ∧ w'.ownsRow base 101 129 cache' (k + 1) (xs ++ (.int .i64 i :: data)) ∧ Fr (fun b => b = A ∨ cache.ownBlock = some b) w w' := by
  have hA := h.lt
  have hCl := lt_of_heap hC
  have hnew : (wz (.int .i64 i)).toList.take 1 ++ (data ++ (wz (.int .i64 i)).toList.drop (1 + data.length)) = .int .i64 i :: data := by
    rw [wz_list, hl, List.drop_of_length_le (l := Value.int .i64 i :: z128.toList) (by simp [z128_size])]; simp
  go_enter Tryz.func207, Tryz.ntmps207
  go_wp2_with fail
  refine (fails_ok h h0 h1).mono ?_
  rintro e w1 ⟨rfl, hd1, hf1, hs1⟩
  have HS1 : Hid (w1.heap.size = w.heap.size) := hs1
  clear hs1
  have hC1 := hf1.keep hC hCA
  have hsrc := World.news_of_block (w := w1.alloc (.cells (wz (.int .i64 i)) 101)) (B := C) (cs := data.toArray) (t := tC) (fr := (0, 0)) (by rw [heap_alloc_lt _ _ _ (lt_of_heap hC1)]; exact hC1)
  go_wp2_with fail
  refine (none_ok hd1 _ (by omega) (by omega)).mono ?_
  rintro e w' ⟨rfl, rfl⟩
  go_wp2_with (first
    | (refine wpList_buildOf 101 #[(0, .tmp 16)] (v := .agg (wz (.int .i64 i))) (w' := w') rfl rfl #[(0, .int .i64 i)] ?_ ?_ ?_; (simp [Act.eval]); exact built_write i w')
    | (refine wpList_alloc 101 (v := .pointer (some ⟨w'.heap.size, 0, none⟩)) (w' := w'.alloc (.cells (wz (.int .i64 0)) 101)) rfl rfl ?_ ?_; exact alloc_write w')
    | (refine wpList_store 101 (w' := w'.alloc (.cells (wz (.int .i64 i)) 101)) (.tmp 7) (.tmp 17) rfl rfl ?_ ?_; exact store_write i w')
    | (refine wpList_copy_to rfl (.tmp 19) (.tmp 20) 85 85 rfl 5 Tryz.underlying85 u8size w'.heap.size 1 128 128 ⟨C, 0, none⟩ 128 128 rfl rfl (wz (.int .i64 i)) 101 ?_ data ?_ ?_ ?_ hone (.int .i64 i :: data) hnew ?_; exact heap_alloc_at _ _; (rw [hl]; rfl); (simpa using hsrc); (rw [hl, wz_size]; decide); intro w2 HW2))
  have hg2 : w2.heap[w'.heap.size]? = some (.cells (Value.int .i64 i :: data).toArray 101 (0, 0)) := by rw [HW2.out]; exact setRow_heap _ _ _ _ _ _ (heap_alloc_at _ _)
  have hs2 : w2.heap.size = w'.heap.size + 1 := by rw [HW2.out]; simp
  have hne2 : ∀ b, b < w'.heap.size → w2.heap[b]? = w'.heap[b]? := fun b hb => by
    rw [HW2.out, setRow_other _ _ _ _ (by omega), heap_alloc_lt _ _ _ hb]
  have hd2 : DiskAt w2 A B n cache (calls + 1) writes := by unfold DiskAt; rw [hne2 A hd1.lt]; exact hd1
  have hf2 : Fr (fun b => b = A ∨ cache.ownBlock = some b) w w2 := by
    rw [HW2.out]; exact ((hf1.mono (fun b _ hb => Or.inl hb)).alloc _).setRow _ (fun hh => by rw [HS1.out] at hh; omega) _
  have hown1 : w'.ownsRow base 101 129 cache k xs := by
    refine hown.kept (row := some A) ⟨hf1.os, hf1.tape, hf1.output, hf1.size, fun b hb hn => hf1.block b hb (fun e => hn (by rw [e]))⟩ ?_
    rcases hown.2 with ⟨rfl, _⟩ | ⟨g, cap, cur, rfl, hb, hg, _⟩
    · exact .inl rfl
    · right
      intro e
      simp only [Value.ownBlock, Option.some.injEq] at e
      subst e
      have := h.symm.trans hg
      simp at this
  have hown2 : w2.ownsRow base 101 129 cache k xs :=
    hown1.kept (row := none) ⟨by rw [HW2.out]; rfl, by rw [HW2.out]; rfl, by rw [HW2.out]; rfl, by omega, fun b hb _ => hne2 b hb⟩ (by cases hv : cache.ownBlock <;> simp)
  have hgA : A < w'.heap.size := hd1.lt
  have hgC : ∀ b, cache.ownBlock = some b → b < w'.heap.size := fun b hb => (hown1.lt b hb).2
  have hb' : base ≤ w'.heap.size := by rw [HS1.out]; exact hbase
  obtain ⟨g, HG⟩ : ∃ g, Hid (g = w'.heap.size) := ⟨_, rfl⟩
  rw [← HG.out] at hg2 hs2 hgA hgC hb'
  have HG2 : Hid (w2.heap.size = g + 1) := hs2
  have HO2 : Hid (w2.ownsRow base 101 129 cache k xs) := hown2
  have HD2 : Hid (DiskAt w2 A B n cache (calls + 1) writes) := hd2
  have HF2 : Hid (Fr (fun b => b = A ∨ cache.ownBlock = some b) w w2) := hf2
  have HB2 : Hid (w2.heap[g]? = some (.cells (Value.int .i64 i :: data).toArray 101 (0, 0))) := hg2
  clear hs2 hown2 hd2 hf2 hg2 hne2 hsrc hown1 HW2
  try go_simp
  rw [← HG.out]
  go_cut [] (fun wx => ∃ cache', DiskAt wx A B n cache' (calls + 1) writes ∧ wx.ownsRow base 101 129 cache' (k + 1) (xs ++ (.int .i64 i :: data)) ∧ Fr (fun b => b = A ∨ cache.ownBlock = some b) w wx)
  case rest =>
    obtain ⟨cache', hd3, ho3, hf3⟩ := hcut
    have c3 := hd3.c3
    have f3 := hd3.fz 3
    have HD3 : Hid (DiskAt wc A B n cache' (calls + 1) writes) := hd3
    have HO3 : Hid (wc.ownsRow base 101 129 cache' (k + 1) (xs ++ (.int .i64 i :: data))) := ho3
    have HF3 : Hid (Fr (fun b => b = A ∨ cache.ownBlock = some b) w wc) := hf3
    clear hd3 ho3 hf3
    go_wp2
    go_ret
    exact ⟨rfl, cache', HD3.out.set3 _, own_set HD3.out (by decide) HO3.out, HF3.out.setCell _ (fun _ => Or.inl rfl) _⟩
  case first =>
    have hw2 : Tryz.prog.follows .mixedOrders = true := by kernel_rfl
    refine wp_region_any hw2 ?_
    refine wpAny_take (i := 0) (oi := ⟨some 22, .move (.tmp 0), _, _, _, none⟩) (v := .pointer (some ⟨A, 0, none⟩)) rfl (by kernel_rfl) (by kernel_rfl) (by kernel_rfl) (fun _ _ _ h => h) (Or.inl ⟨rfl, fun _ => rfl⟩) ?_
    simp only [Act.put, List.setIfInBounds_toArray, List.set_cons_zero, List.set_cons_succ]
    refine wpAny_take (i := 1) (oi := ⟨some 23, .move (.tmp 0), _, _, _, none⟩) (v := .pointer (some ⟨A, 0, none⟩)) rfl (by kernel_rfl) (by kernel_rfl) (by kernel_rfl) (fun _ _ _ h => h) (Or.inl ⟨rfl, fun _ => rfl⟩) ?_
    simp only [Act.put, List.setIfInBounds_toArray, List.set_cons_zero, List.set_cons_succ]
    refine wpAny_take (i := 2) (oi := ⟨some 24, .nilCheck (.tmp 23), _, _, _, none⟩) (v := .pointer (some ⟨A, 0, none⟩)) rfl (by kernel_rfl) (by kernel_rfl) (by kernel_rfl) (fun _ _ _ h => h) (Or.inl ⟨rfl, fun _ => rfl⟩) ?_
    simp only [Act.put, List.setIfInBounds_toArray, List.set_cons_zero, List.set_cons_succ]
    refine wpAny_take (i := 3) (oi := ⟨some 25, .fieldAddr 96 (.tmp 24) 1, _, _, _, none⟩) (v := .pointer (some ⟨A, 1, none⟩)) rfl (by kernel_rfl) (by kernel_rfl) (by kernel_rfl) (fun _ _ _ h => h) (Or.inl ⟨rfl, fun _ => by kernel_rfl⟩) ?_
    simp only [Act.put, List.setIfInBounds_toArray, List.set_cons_zero, List.set_cons_succ]
    refine wpAny_all (rs := [4, 5]) (by kernel_rfl) (by simp) ?_
    obtain ⟨inf, hi0, hz0, hz1, hz2⟩ := info_parts write_info
    have hl1 : (Instr.loadAt 94 (.pointer (some ⟨A, 1, none⟩))).run Tryz.prog w2.drew = .ok cache w2.drew := run_loadAt_one (w := w2.drew) (HD2.out.drew.c1) Tryz.underlying94 rfl
    have hl2 : (Instr.loadAt 101 (.pointer (some ⟨g, 0, none⟩))).run Tryz.prog w2.drew = .ok (.agg (Value.int .i64 i :: data).toArray) w2.drew :=
      run_loadAt_mid w2.drew g 0 101 (Value.int .i64 i :: data) _ (fun j v hv => by rw [Nat.zero_add, cell_of_row w2.drew g j _ _ _ HB2.out]; simpa using hv) Tryz.underlying101 rfl (by rw [write_size]; simp [hl])
    have hbs : (Instr.buildSlice 94 1 #[(0, .agg (Value.int .i64 i :: data).toArray)]).run Tryz.prog w2.drew = .ok (.slice (some ⟨w2.drew.heap.size, 0, none⟩) 1 1) (w2.drew.alloc (.cells (Value.int .i64 i :: data).toArray 101)) :=
      run_buildSlice_one w2.drew 94 101 inf _ _ Tryz.underlying94 hi0 hz0 (by rw [hz1]; simp [Value.cells, hl]) (by rw [hz1]; decide) (by rw [hz1]; decide)
    have hl3 : (Instr.loadAt 94 (.pointer (some ⟨A, 1, none⟩))).run Tryz.prog (w2.drew.alloc (.cells (Value.int .i64 i :: data).toArray 101)) = .ok cache (w2.drew.alloc (.cells (Value.int .i64 i :: data).toArray 101)) := run_loadAt_one ((HD2.out.drew.alloc _).c1) Tryz.underlying94 rfl
    have hownW : (w2.drew.alloc (.cells (Value.int .i64 i :: data).toArray 101)).ownsRow base 101 129 cache k xs := (show w2.drew.ownsRow base 101 129 cache k xs from HO2.out).alloc _
    have hnewsW := World.news_of_block (w := w2.drew.alloc (.cells (Value.int .i64 i :: data).toArray 101)) (B := w2.drew.heap.size) (heap_alloc_at _ _)
    have hdW : DiskAt (w2.drew.alloc (.cells (Value.int .i64 i :: data).toArray 101)) A B n cache (calls + 1) writes := HD2.out.drew.alloc _
    have hfW : Fr (fun b => b = A ∨ cache.ownBlock = some b) w (w2.drew.alloc (.cells (Value.int .i64 i :: data).toArray 101)) := HF2.out.drew.alloc _
    have hzW : base ≤ (w2.drew.alloc (.cells (Value.int .i64 i :: data).toArray 101)).heap.size := by
      have := HG2.out; simp; omega
    have hAc : cache.ownBlock ≠ some A := by
      intro e
      rcases HO2.out.2 with ⟨rfl, _⟩ | ⟨g', cap, cur, rfl, hb, hg, _⟩
      · simp [Value.ownBlock] at e
      · simp only [Value.ownBlock, Option.some.injEq] at e
        subst e
        have := HD2.out.symm.trans hg
        simp at this
    have fin : ∀ (gn cap : Nat) (wn : World), DiskAt wn A B n cache (calls + 1) writes → wn.ownsRow base 101 129 (.slice (some ⟨gn, 0, none⟩) (k + 1) cap) (k + 1) (xs ++ (.int .i64 i :: data)) →
        (w2.drew.alloc (.cells (Value.int .i64 i :: data).toArray 101)).grownBy wn cache.ownBlock →
        ∃ cache', DiskAt (wn.setCell ⟨A, 1, none⟩ (.slice (some ⟨gn, 0, none⟩) (k + 1) cap)) A B n cache' (calls + 1) writes ∧ (wn.setCell ⟨A, 1, none⟩ (.slice (some ⟨gn, 0, none⟩) (k + 1) cap)).ownsRow base 101 129 cache' (k + 1) (xs ++ (.int .i64 i :: data)) ∧
          Fr (fun b => b = A ∨ cache.ownBlock = some b) w (wn.setCell ⟨A, 1, none⟩ (.slice (some ⟨gn, 0, none⟩) (k + 1) cap)) := by
      intro gn cap wn hdn hon hgrow
      refine ⟨_, hdn.set1 _, ?_, (hfW.grown hgrow (fun b _ hb => Or.inr hb)).setCell _ (fun _ => Or.inl rfl) _⟩
      refine hon.kept (row := some A) ⟨rfl, rfl, rfl, by simp [World.setCell], fun b _ hn => heap_setCell_ne _ _ _ _ (fun e => hn (by rw [e]))⟩ ?_
      right
      intro e
      rcases hon.2 with ⟨hv, _⟩ | ⟨g', cap', cur, hv, hb, hg, _⟩
      · cases hv
      · simp only [Value.ownBlock, Option.some.injEq] at e
        simp only [Value.slice.injEq, Option.some.injEq, Addr.mk.injEq, and_true] at hv
        rw [← hv.1, e] at hg
        have := hdn.symm.trans hg
        simp at this
    intro i1 hi1
    simp only [List.mem_cons, List.not_mem_nil, or_false] at hi1
    rcases hi1 with rfl | rfl
    · skip
      refine wpOp_value (o := ⟨some 26, .load 94 (.tmp 25), _, _, _, none⟩) rfl rfl (exec_load 94 (.tmp 25) rfl ⟨A, 1, none⟩ (by rfl) hl1) ?_
      simp only [Act.put, List.setIfInBounds_toArray, List.set_cons_zero, List.set_cons_succ]
      refine wpAny_all (rs := [5]) (by kernel_rfl) (by simp) ?_
      intro i2 hi2
      obtain rfl : i2 = 5 := by simpa using hi2
      refine wpOp_value (o := ⟨some 27, .load 101 (.tmp 7), _, _, _, none⟩) rfl rfl (exec_load 101 (.tmp 7) rfl ⟨g, 0, none⟩ (by rfl) hl2) ?_
      simp only [Act.put, List.setIfInBounds_toArray, List.set_cons_zero, List.set_cons_succ]
      refine wpAny_all (rs := [6]) (by kernel_rfl) (by simp) ?_
      intro i3 hi3
      obtain rfl : i3 = 6 := by simpa using hi3
      refine wpOp_value (o := ⟨some 28, .buildSlice 94 1 #[(0, .tmp 27)], _, _, _, none⟩) rfl rfl (exec_buildSlice 94 1 #[(0, .tmp 27)] rfl #[(0, .agg (Value.int .i64 i :: data).toArray)] (by simp [Act.eval]) hbs) ?_
      simp only [Act.put, List.setIfInBounds_toArray, List.set_cons_zero, List.set_cons_succ]
      refine wpAny_all (rs := [7]) (by kernel_rfl) (by simp) ?_
      intro i4 hi4
      obtain rfl : i4 = 7 := by simpa using hi4
      refine wpOp_of_wp (o := ⟨some 29, .call { callee := .builtin .append, args := #[.tmp 26, .tmp 28], argTypes := #[94, 94] }, _, _, _, none⟩) rfl rfl ?_
      refine wp_append_lies _ (.tmp 26) (.tmp 28) 94 rfl base 101 inf (.agg (wz (.int .i64 0))) 129 136 Tryz.underlying94 hi0 hz0 hz1 hz2 (wz_size _) (by decide) cache k xs (by simp [Act.eval]) hownW ⟨w2.drew.heap.size, 0, none⟩ 1 1 (Value.int .i64 i :: data) (by simp [Act.eval]) (by simp [hl]) hnewsW (fun u hu => by rcases List.mem_cons.1 hu with rfl | hu; rfl; exact hone u hu) (by decide) (by unfold maxLen; omega) (by omega) hzW _ rfl ?_
      intro gn cap wn hon hgrow hat hlt
      simp only [Act.put, List.setIfInBounds_toArray, List.set_cons_zero, List.set_cons_succ]
      refine wpAny_take (i := 8) (oi := ⟨some 30, .nilCheck (.tmp 22), _, _, _, none⟩) (v := .pointer (some ⟨A, 0, none⟩)) rfl (by kernel_rfl) (by kernel_rfl) (by kernel_rfl) (fun _ _ _ h => h) (Or.inl ⟨rfl, fun _ => rfl⟩) ?_
      simp only [Act.put, List.setIfInBounds_toArray, List.set_cons_zero, List.set_cons_succ]
      refine wpAny_take (i := 9) (oi := ⟨some 31, .fieldAddr 96 (.tmp 30) 1, _, _, _, none⟩) (v := .pointer (some ⟨A, 1, none⟩)) rfl (by kernel_rfl) (by kernel_rfl) (by kernel_rfl) (fun _ _ _ h => h) (Or.inl ⟨rfl, fun _ => by kernel_rfl⟩) ?_
      simp only [Act.put, List.setIfInBounds_toArray, List.set_cons_zero, List.set_cons_succ]
      refine wpAny_all (rs := [10]) (by kernel_rfl) (by simp) ?_
      intro i5 hi5
      obtain rfl : i5 = 10 := by simpa using hi5
      have hdn : DiskAt wn A B n cache (calls + 1) writes := by unfold DiskAt; rw [hgrow.block A hdW.lt (fun e => hAc e.symm)]; exact hdW
      refine wpOp_skip (o := ⟨none, .store 94 (.tmp 31) (.tmp 29), _, _, _, none⟩) rfl rfl (exec_store 94 (.tmp 31) (.tmp 29) rfl ⟨A, 1, none⟩ (.slice (some ⟨gn, 0, none⟩) (k + 1) cap) (by rfl) (by rfl) (run_storeAt_one hdn.c1 (hdn.fz 1) (by kernel_rfl) rfl)) ?_
      simp only [Act.put]
      refine wpAny_done (by kernel_rfl) ?_ _
      go_wp2
      go_meet
      case rel => exact fin gn cap wn hdn hon hgrow
    · skip
      refine wpOp_value (o := ⟨some 27, .load 101 (.tmp 7), _, _, _, none⟩) rfl rfl (exec_load 101 (.tmp 7) rfl ⟨g, 0, none⟩ (by rfl) hl2) ?_
      simp only [Act.put, List.setIfInBounds_toArray, List.set_cons_zero, List.set_cons_succ]
      refine wpAny_all (rs := [4, 6]) (by kernel_rfl) (by simp) ?_
      intro i2 hi2
      simp only [List.mem_cons, List.not_mem_nil, or_false] at hi2
      rcases hi2 with rfl | rfl
      · skip
        refine wpOp_value (o := ⟨some 26, .load 94 (.tmp 25), _, _, _, none⟩) rfl rfl (exec_load 94 (.tmp 25) rfl ⟨A, 1, none⟩ (by rfl) hl1) ?_
        simp only [Act.put, List.setIfInBounds_toArray, List.set_cons_zero, List.set_cons_succ]
        refine wpAny_all (rs := [6]) (by kernel_rfl) (by simp) ?_
        intro i3 hi3
        obtain rfl : i3 = 6 := by simpa using hi3
        refine wpOp_value (o := ⟨some 28, .buildSlice 94 1 #[(0, .tmp 27)], _, _, _, none⟩) rfl rfl (exec_buildSlice 94 1 #[(0, .tmp 27)] rfl #[(0, .agg (Value.int .i64 i :: data).toArray)] (by simp [Act.eval]) hbs) ?_
        simp only [Act.put, List.setIfInBounds_toArray, List.set_cons_zero, List.set_cons_succ]
        refine wpAny_all (rs := [7]) (by kernel_rfl) (by simp) ?_
        intro i4 hi4
        obtain rfl : i4 = 7 := by simpa using hi4
        refine wpOp_of_wp (o := ⟨some 29, .call { callee := .builtin .append, args := #[.tmp 26, .tmp 28], argTypes := #[94, 94] }, _, _, _, none⟩) rfl rfl ?_
        refine wp_append_lies _ (.tmp 26) (.tmp 28) 94 rfl base 101 inf (.agg (wz (.int .i64 0))) 129 136 Tryz.underlying94 hi0 hz0 hz1 hz2 (wz_size _) (by decide) cache k xs (by simp [Act.eval]) hownW ⟨w2.drew.heap.size, 0, none⟩ 1 1 (Value.int .i64 i :: data) (by simp [Act.eval]) (by simp [hl]) hnewsW (fun u hu => by rcases List.mem_cons.1 hu with rfl | hu; rfl; exact hone u hu) (by decide) (by unfold maxLen; omega) (by omega) hzW _ rfl ?_
        intro gn cap wn hon hgrow hat hlt
        simp only [Act.put, List.setIfInBounds_toArray, List.set_cons_zero, List.set_cons_succ]
        refine wpAny_take (i := 8) (oi := ⟨some 30, .nilCheck (.tmp 22), _, _, _, none⟩) (v := .pointer (some ⟨A, 0, none⟩)) rfl (by kernel_rfl) (by kernel_rfl) (by kernel_rfl) (fun _ _ _ h => h) (Or.inl ⟨rfl, fun _ => rfl⟩) ?_
        simp only [Act.put, List.setIfInBounds_toArray, List.set_cons_zero, List.set_cons_succ]
        refine wpAny_take (i := 9) (oi := ⟨some 31, .fieldAddr 96 (.tmp 30) 1, _, _, _, none⟩) (v := .pointer (some ⟨A, 1, none⟩)) rfl (by kernel_rfl) (by kernel_rfl) (by kernel_rfl) (fun _ _ _ h => h) (Or.inl ⟨rfl, fun _ => by kernel_rfl⟩) ?_
        simp only [Act.put, List.setIfInBounds_toArray, List.set_cons_zero, List.set_cons_succ]
        refine wpAny_all (rs := [10]) (by kernel_rfl) (by simp) ?_
        intro i5 hi5
        obtain rfl : i5 = 10 := by simpa using hi5
        have hdn : DiskAt wn A B n cache (calls + 1) writes := by unfold DiskAt; rw [hgrow.block A hdW.lt (fun e => hAc e.symm)]; exact hdW
        refine wpOp_skip (o := ⟨none, .store 94 (.tmp 31) (.tmp 29), _, _, _, none⟩) rfl rfl (exec_store 94 (.tmp 31) (.tmp 29) rfl ⟨A, 1, none⟩ (.slice (some ⟨gn, 0, none⟩) (k + 1) cap) (by rfl) (by rfl) (run_storeAt_one hdn.c1 (hdn.fz 1) (by kernel_rfl) rfl)) ?_
        simp only [Act.put]
        refine wpAny_done (by kernel_rfl) ?_ _
        go_wp2
        go_meet
        case rel => exact fin gn cap wn hdn hon hgrow
      · skip
        refine wpOp_value (o := ⟨some 28, .buildSlice 94 1 #[(0, .tmp 27)], _, _, _, none⟩) rfl rfl (exec_buildSlice 94 1 #[(0, .tmp 27)] rfl #[(0, .agg (Value.int .i64 i :: data).toArray)] (by simp [Act.eval]) hbs) ?_
        simp only [Act.put, List.setIfInBounds_toArray, List.set_cons_zero, List.set_cons_succ]
        refine wpAny_all (rs := [4]) (by kernel_rfl) (by simp) ?_
        intro i3 hi3
        obtain rfl : i3 = 4 := by simpa using hi3
        refine wpOp_value (o := ⟨some 26, .load 94 (.tmp 25), _, _, _, none⟩) rfl rfl (exec_load 94 (.tmp 25) rfl ⟨A, 1, none⟩ (by rfl) hl3) ?_
        simp only [Act.put, List.setIfInBounds_toArray, List.set_cons_zero, List.set_cons_succ]
        refine wpAny_all (rs := [7]) (by kernel_rfl) (by simp) ?_
        intro i4 hi4
        obtain rfl : i4 = 7 := by simpa using hi4
        refine wpOp_of_wp (o := ⟨some 29, .call { callee := .builtin .append, args := #[.tmp 26, .tmp 28], argTypes := #[94, 94] }, _, _, _, none⟩) rfl rfl ?_
        refine wp_append_lies _ (.tmp 26) (.tmp 28) 94 rfl base 101 inf (.agg (wz (.int .i64 0))) 129 136 Tryz.underlying94 hi0 hz0 hz1 hz2 (wz_size _) (by decide) cache k xs (by simp [Act.eval]) hownW ⟨w2.drew.heap.size, 0, none⟩ 1 1 (Value.int .i64 i :: data) (by simp [Act.eval]) (by simp [hl]) hnewsW (fun u hu => by rcases List.mem_cons.1 hu with rfl | hu; rfl; exact hone u hu) (by decide) (by unfold maxLen; omega) (by omega) hzW _ rfl ?_
        intro gn cap wn hon hgrow hat hlt
        simp only [Act.put, List.setIfInBounds_toArray, List.set_cons_zero, List.set_cons_succ]
        refine wpAny_take (i := 8) (oi := ⟨some 30, .nilCheck (.tmp 22), _, _, _, none⟩) (v := .pointer (some ⟨A, 0, none⟩)) rfl (by kernel_rfl) (by kernel_rfl) (by kernel_rfl) (fun _ _ _ h => h) (Or.inl ⟨rfl, fun _ => rfl⟩) ?_
        simp only [Act.put, List.setIfInBounds_toArray, List.set_cons_zero, List.set_cons_succ]
        refine wpAny_take (i := 9) (oi := ⟨some 31, .fieldAddr 96 (.tmp 30) 1, _, _, _, none⟩) (v := .pointer (some ⟨A, 1, none⟩)) rfl (by kernel_rfl) (by kernel_rfl) (by kernel_rfl) (fun _ _ _ h => h) (Or.inl ⟨rfl, fun _ => by kernel_rfl⟩) ?_
        simp only [Act.put, List.setIfInBounds_toArray, List.set_cons_zero, List.set_cons_succ]
        refine wpAny_all (rs := [10]) (by kernel_rfl) (by simp) ?_
        intro i5 hi5
        obtain rfl : i5 = 10 := by simpa using hi5
        have hdn : DiskAt wn A B n cache (calls + 1) writes := by unfold DiskAt; rw [hgrow.block A hdW.lt (fun e => hAc e.symm)]; exact hdW
        refine wpOp_skip (o := ⟨none, .store 94 (.tmp 31) (.tmp 29), _, _, _, none⟩) rfl rfl (exec_store 94 (.tmp 31) (.tmp 29) rfl ⟨A, 1, none⟩ (.slice (some ⟨gn, 0, none⟩) (k + 1) cap) (by rfl) (by rfl) (run_storeAt_one hdn.c1 (hdn.fz 1) (by kernel_rfl) rfl)) ?_
        simp only [Act.put]
        refine wpAny_done (by kernel_rfl) ?_ _
        go_wp2
        go_meet
        case rel => exact fin gn cap wn hdn hon hgrow
end Go.Proofs.YteebjgfalllbjaaGreatDoor
