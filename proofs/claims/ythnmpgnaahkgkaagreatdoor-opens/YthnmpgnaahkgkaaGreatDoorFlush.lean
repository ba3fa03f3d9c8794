import Derived.Test.YthnmpgnaahkgkaaGreatDoorWrite
namespace Go.Proofs.YthnmpgnaahkgkaaGreatDoor
open Go.RowKit

theorem run_storeAt_row {P : Program} {w : World} {g o : Nat} {ty t : TypeId} {cur vs : List Value} (hg : w.heap[g]? = some (.cells cur.toArray t (0, 0))) (hf : o + vs.length ≤ cur.length) (h1 : ∀ v ∈ vs, v.oneCell' = true) (hi : (P.info? ty).map (·.size) = some vs.length) :
    (Instr.storeAt ty (.pointer (some ⟨g, o, none⟩)) (.agg vs.toArray)).run P w = .ok () (w.setRow g (splice cur o vs).toArray) := by
  have hst := run_storeCells_at P g o t vs 0 cur.toArray w hg (by simpa using hf) h1
  cases hq : P.info? ty with
  | none => simp [hq] at hi
  | some i =>
    have hs : i.size = vs.length := by simpa [hq] using hi
    simp [Instr.storeAt, Instr.sureAddr, storeVar, sizeOf, typeInfo, hq, hs, Value.cells, hst, splice]

/-- Writes that wait: where, and the bytes. -/
def flat (ents : List (Nat × List Value)) : List Value := ents.flatMap fun p => Value.int .i64 p.1 :: p.2
theorem flat_at : ∀ (ents : List (Nat × List Value)) (_ : ∀ p ∈ ents, p.2.length = 128) (i : Nat) (p : Nat × List Value), ents[i]? = some p → ((flat ents).drop (i * 129)).take 129 = Value.int .i64 p.1 :: p.2
  | [], _, i, p, h => by simp at h
  | q :: r, hl, 0, p, h => by
    simp at h; subst h
    have := hl q (by simp)
    simp [flat, this]
  | q :: r, hl, i + 1, p, h => by
    have hq := hl q (by simp)
    have ih := flat_at r (fun p hp => hl p (by simp [hp])) i p (by simpa using h)
    have e : flat (q :: r) = (Value.int .i64 q.1 :: q.2) ++ flat r := by simp [flat]
    rw [e, List.drop_append, List.drop_of_length_le (by simp; omega)]
    have e2 : (i + 1) * 129 - (Value.int .i64 q.1 :: q.2).length = i * 129 := by simp [hq]; omega
    rw [e2]; simpa using ih
theorem flat_len : ∀ (ents : List (Nat × List Value)) (_ : ∀ p ∈ ents, p.2.length = 128), (flat ents).length = ents.length * 129
  | [], _ => rfl
  | q :: r, hl => by
    have hq := hl q (by simp)
    have ih := flat_len r (fun p hp => hl p (by simp [hp]))
    have e : flat (q :: r) = (Value.int .i64 q.1 :: q.2) ++ flat r := by simp [flat]
    rw [e, List.length_append, ih]; simp [hq]; omega
/-- The blocks with the writes laid over them. -/
def lain (bs : List Value) (ents : List (Nat × List Value)) : List Value := ents.foldl (fun b p => splice b (p.1 * 128) p.2) bs
theorem lain_take (bs : List Value) (ents : List (Nat × List Value)) (i : Nat) (p : Nat × List Value) (h : ents[i]? = some p) : lain bs (ents.take (i + 1)) = splice (lain bs (ents.take i)) (p.1 * 128) p.2 := by
  have hi : i < ents.length := (List.getElem?_eq_some_iff.1 h).1
  have hp : ents[i] = p := (List.getElem?_eq_some_iff.1 h).2
  rw [List.take_succ_eq_append_getElem hi]
  simp [lain, hp]
theorem mem_splice {l c : List Value} {o : Nat} {v : Value} (h : v ∈ splice l o c) : v ∈ l ∨ v ∈ c := by
  simp only [splice, List.mem_append] at h
  rcases h with h | h | h
  · exact .inl (List.mem_of_mem_take h)
  · exact .inr h
  · exact .inl (List.mem_of_mem_drop h)
theorem RowsAt.splice {w : World} {B n : Nat} {bs : List Value} (h : RowsAt w B n bs) (a : Nat) (ha : a < n) (d : List Value) (hd : d.length = 128) (h1 : ∀ v ∈ d, v.oneCell' = true) :
    RowsAt (w.setRow B (Go.splice bs (a * 128) d).toArray) B n (Go.splice bs (a * 128) d) := by
  obtain ⟨hb, hl, ho⟩ := h
  refine ⟨setRow_heap _ _ _ _ _ _ hb, ?_, fun v hv => ?_⟩
  · rw [length_splice _ _ _ (by rw [hd, hl]; omega), hl]
  · rcases mem_splice hv with hv | hv
    · exact ho v hv
    · exact h1 v hv
theorem arr_size : (Tryz.prog.info? 63).map (·.size) = some 128 := by kernel_rfl
theorem store_write' (p : List Value) (hp : p.length = 129) (h1 : ∀ v ∈ p, v.oneCell' = true) (w : World) : (Instr.storeAt 65 (.pointer (some ⟨w.heap.size, 0, none⟩)) (.agg p.toArray)).run Tryz.prog (w.alloc (.cells (wz (.int .i64 0)) 65)) = .ok () (w.alloc (.cells p.toArray 65)) :=
  run_storeAt_new w 65 _ _ (by rw [write_size]; simp [hp]) (by rw [wz_size]; simp [hp]) (all_oneCell_toArray h1)
/-- The cells of one write in the row that the disk keeps. -/
theorem range_own {w : World} {base k g cap : Nat} {ents : List (Nat × List Value)} (h : w.ownsRow base 65 129 (.slice (some ⟨g, 0, none⟩) k cap) k (flat ents)) (hl : ∀ p ∈ ents, p.2.length = 128) {i : Nat} {p : Nat × List Value} (hp : ents[i]? = some p) :
    w.rangeAt g (i * 129) (Value.int .i64 p.1 :: p.2) := by
  intro j v hv
  have hc := h.cells (g := g) rfl (i * 129 + j) v
  rw [← flat_at ents hl i p hp, List.getElem?_take] at hv
  split at hv
  · rw [List.getElem?_drop] at hv
    have := hc hv
    rwa [Addr.add_mid, Nat.zero_add] at this
  · cases hv
end Go.Proofs.YthnmpgnaahkgkaaGreatDoor
