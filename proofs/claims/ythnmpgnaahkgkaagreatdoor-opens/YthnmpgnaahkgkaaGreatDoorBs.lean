import Derived.Test.YthnmpgnaahkgkaaGreatDoorFr
namespace Go.Proofs.YthnmpgnaahkgkaaGreatDoor
open Go.RowKit

theorem fold_set : ∀ (l : List Value) (k : Nat) (d : Array Value), k + l.length ≤ d.size →
    ((l.zipIdx k).foldl (fun cs p => cs.setIfInBounds (0 + p.2) p.1) d).toList = d.toList.take k ++ (l ++ d.toList.drop (k + l.length))
  | [], k, d, _ => by simp
  | v :: r, k, d, h => by
    simp only [List.zipIdx_cons, List.foldl_cons]
    rw [fold_set r (k + 1) _ (by simp at h ⊢; omega)]
    simp only [List.length_cons] at h
    simp only [Nat.zero_add, Array.toList_setIfInBounds, List.length_cons]
    have hk : k < d.toList.length := by rw [Array.length_toList]; omega
    have e1 : (d.toList.set k v).take (k + 1) = d.toList.take k ++ [v] := by
      rw [List.take_set, List.take_succ_eq_append_getElem hk, List.set_append_right _ _ (by simp; omega)]
      have hm : min k d.size = k := Nat.min_eq_left (by rw [← Array.length_toList]; omega)
      simp [hm]
    have e2 : (d.toList.set k v).drop (k + 1 + r.length) = d.toList.drop (k + 1 + r.length) := by
      rw [List.drop_set_of_lt (by omega)]
    rw [e1, e2]
    have e3 : k + 1 + r.length = k + (r.length + 1) := by omega
    rw [e3]
    simp

theorem fill_one (size : Nat) (d : Array Value) (v : Value) (h1 : v.cells.size = size) (h2 : d.size = size) :
    Instr.fill (fun i => some (i * size, size)) d [(0, v)] = some v.cells := by
  simp only [Instr.fill, Nat.zero_mul, h1]
  have hne : (decide (size ≠ size) || decide (0 + size > d.size)) = false := by simp; omega
  rw [if_neg (by simpa using hne)]
  congr 1
  apply Array.toList_inj.1
  rw [← Array.foldl_toList]
  have e : v.cells.zipIdx.toList = v.cells.toList.zipIdx := by simp
  rw [e]
  have := fold_set v.cells.toList 0 d (by simp; omega)
  rw [this]
  rw [List.drop_of_length_le (l := d.toList) (by simp; omega)]
  simp

/-- A slice of one element, whatever its cells. -/
theorem run_buildSlice_one {P : Program} (w : World) (t e : TypeId) (inf : TypeInfo) (z v : Value) (hu : P.underlying t = some (.slice e)) (hi : P.info? e = some inf) (hz : inf.zero = some z)
    (hs : v.cells.size = inf.size) (h0 : 0 < inf.size) (hb : inf.size ≤ 16777216) :
    (Instr.buildSlice t 1 #[(0, v)]).run P w = .ok (.slice (some ⟨w.heap.size, 0, none⟩) 1 1) (w.alloc (.cells v.cells e)) := by
  have hf := fill_one inf.size ((Array.range (1 * inf.size)).map (z.cells[· % z.cells.size]!)) v hs (by simp)
  have hne : ¬ inf.size = 0 := by omega
  have hle : ¬ (1 * inf.size > 2 ^ 24) := by simp; omega
  simp only [Nat.one_mul] at hf hle
  simp [Instr.buildSlice, run_underlying hu, sizeOf, typeInfo, zeroValue, hi, hz, hne, hf, newRow]
  omega

theorem run_loadAt_one {P : Program} {w : World} {a : Addr} {v : Value} {t : TypeId} {d : TypeDesc} (hc : w.cell? a = some v) (hu : P.underlying t = some d) (hd : d.isRow = false) :
    (Instr.loadAt t (.pointer (some a))).run P w = .ok v w := by
  have hagg : (isAgg t).run P w = .ok false w := by
    unfold isAgg
    rw [Sem.run_bind, run_underlying hu w]
    cases d <;> simp_all
  simp [Instr.loadAt, Instr.sureAddr, loadVar, Sem.run_bind, hagg, hc]

theorem run_storeAt_one {P : Program} {w : World} {a : Addr} {v u : Value} {t : TypeId} (hc : w.cell? a = some u) (hf : w.frozen? a = false) (hi : (P.info? t).map (·.size) = some 1) (h1 : v.oneCell' = true) :
    (Instr.storeAt t (.pointer (some a)) v).run P w = .ok () (w.setCell a v) := by
  cases hq : P.info? t with
  | none => simp [hq] at hi
  | some i =>
    have hs : i.size = 1 := by simpa [hq] using hi
    have hcl : v.cells = #[v] := by cases v <;> first | rfl | simp [Value.oneCell'] at h1
    have hst := run_store P w a v .plain h1
    simp only [hc, hf] at hst
    simp [Instr.storeAt, Instr.sureAddr, storeVar, sizeOf, typeInfo, hq, hs, hcl, storeCells, Addr.add, hst]

section
variable {P : Program} {ρ : Operand → Value} {o : Oper} {w w' : World} {v : Value}
theorem exec_load (t : TypeId) (x : Operand) (ho : o.op = .load t x) (a : Addr) (hx : ρ x = .pointer (some a)) (hr : (Instr.loadAt t (.pointer (some a))).run P w = .ok v w') : (execOp ρ o).run P w = .ok (.value v) w' := by
  simp only [execOp, ho, hx, Sem.run_bind, hr, Result.andThen_ok, Sem.run_pure]
theorem exec_buildSlice (t : TypeId) (n : Nat) (ps : Array (Nat × Operand)) (ho : o.op = .buildSlice t n ps) (vs : Array (Nat × Value)) (hvs : (ps.map fun (i, x) => (i, ρ x)) = vs) (hr : (Instr.buildSlice t n vs).run P w = .ok v w') : (execOp ρ o).run P w = .ok (.value v) w' := by
  simp only [execOp, ho, hvs, Sem.run_bind, hr, Result.andThen_ok, Sem.run_pure]
theorem exec_store (t : TypeId) (x y : Operand) (ho : o.op = .store t x y) (a : Addr) (u : Value) (hx : ρ x = .pointer (some a)) (hy : ρ y = u) (hr : (Instr.storeAt t (.pointer (some a)) u).run P w = .ok () w') : (execOp ρ o).run P w = .ok .skip w' := by
  simp only [execOp, ho, hx, hy, Sem.run_bind, hr, Result.andThen_ok, Sem.run_pure]
theorem exec_indexAddr (t : TypeId) (x y : Operand) (ho : o.op = .indexAddr t x y) {u i : Value} (hx : ρ x = u) (hy : ρ y = i) (hr : (Instr.indexAt t u i).run P w = .ok v w') : (execOp ρ o).run P w = .ok (.value v) w' := by
  simp only [execOp, ho, hx, hy, Sem.run_bind, hr, Result.andThen_ok, Sem.run_pure]
end
end Go.Proofs.YthnmpgnaahkgkaaGreatDoor
