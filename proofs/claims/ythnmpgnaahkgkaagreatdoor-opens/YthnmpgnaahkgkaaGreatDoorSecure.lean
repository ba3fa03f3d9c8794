import Derived.Test.YthnmpgnaahkgkaaGreatDoorHead
namespace Go.Proofs.YthnmpgnaahkgkaaGreatDoor
open Go.RowKit
theorem method_Flush (a : Addr) (w : World) : (method 329 39 (.pointer (some a)) "Flush").run Tryz.prog w = .ok (126, .pointer (some a)) w := by kernel_rfl
theorem method_Read (a : Addr) (w : World) : (method 329 39 (.pointer (some a)) "Read").run Tryz.prog w = .ok (127, .pointer (some a)) w := by kernel_rfl
theorem method_Blocks (a : Addr) (w : World) : (method 329 39 (.pointer (some a)) "Blocks").run Tryz.prog w = .ok (125, .pointer (some a)) w := by kernel_rfl
set_option maxRecDepth 100000 in
set_option maxHeartbeats 1000000 in
theorem Secure_ok {w : World} {V A B n : Nat} {cache : Value} {calls writes : Int} {bs : List Value} (hv : VolAt w V A n) (h : DiskAt w A B n cache calls writes) (hr : RowsAt w B n bs) (h0 : 0 ≤ calls) (h1 : calls < 1000000000)
    {base k : Nat} {ents : List (Nat × List Value)} (hown : w.ownsRow base 65 129 cache k (flat ents)) (hk : k < 1000000) (hk0 : 0 < k) (hl : ∀ p ∈ ents, p.2.length = 128) (ho : ∀ p ∈ ents, ∀ v ∈ p.2, v.oneCell' = true) (hn : ∀ p ∈ ents, p.1 < n) :
    Calls Tryz.prog 80 #[.pointer (some ⟨V, 0, none⟩)] w fun e w' => e = .returned (.tuple #[]) ∧
      DiskAt w' A B n (.slice none 0 0) (calls + 1) writes ∧ RowsAt w' B n (lain bs ents) ∧ Fr (fun b => b = A ∨ b = B) w w' := by
  have c0 := hv.c0
  have mf := method_Flush
  go_enter Tryz.func80, Tryz.ntmps80
  go_wp2_with fail
  refine (Flush_ok h hr h0 h1 hown hk hk0 hl ho hn).mono ?_
  rintro e w2 ⟨rfl, hd2, hr2, hf2⟩
  go_wp2
  go_end0
  exact ⟨rfl, hd2, hr2, hf2⟩

set_option maxRecDepth 100000 in
set_option maxHeartbeats 1000000 in
theorem Load_ok {w : World} {V A B n : Nat} {calls writes : Int} {bs : List Value} (hv : VolAt w V A n) (h : DiskAt w A B n (.slice none 0 0) calls writes) (hr : RowsAt w B n bs) (h0 : 0 ≤ calls) (h1 : calls < 1000000000) (i : Nat) (hi : i < n) :
    Calls Tryz.prog 87 #[.pointer (some ⟨V, 0, none⟩), .int .i64 i] w fun e w' => e = .returned (.agg ((bs.drop (i * 128)).take 128).toArray) ∧ DiskAt w' A B n (.slice none 0 0) (calls + 1) writes ∧ Fr (· = A) w w' := by
  have hcl : ((bs.drop (i * 128)).take 128).length = 128 := by have := hr.2.1; simp; omega
  have hone' : ∀ v ∈ (bs.drop (i * 128)).take 128, v.oneCell' = true := fun v hv => hr.2.2 v (List.mem_of_mem_drop (List.mem_of_mem_take hv))
  have hAl := h.lt
  have hVl := lt_of_heap hv
  have mr := method_Read
  have hv1 : VolAt (w.alloc (.cells z128 153)) V A n := by unfold VolAt; rw [heap_alloc_lt _ _ _ hVl]; exact hv
  have hr1 : RowsAt (w.alloc (.cells z128 153)) B n bs := ⟨by rw [heap_alloc_lt _ _ _ (lt_of_heap hr.1)]; exact hr.1, hr.2⟩
  have c0 := hv1.c0
  go_enter Tryz.func87, Tryz.ntmps87
  go_wp2_with (first
    | (refine wpList_alloc 153 (v := .pointer (some ⟨w.heap.size, 0, none⟩)) (w' := w.alloc (.cells z128 153)) rfl rfl ?_ ?_; exact alloc_block w))
  refine (Read_ok (h.alloc _) hr1 h0 h1 i hi).mono ?_
  rintro e w2 ⟨rfl, hb2, hd2, hf2⟩
  obtain ⟨cs, HCS⟩ : ∃ cs, Hid (cs = (bs.drop (i * 128)).take 128) := ⟨_, rfl⟩
  rw [← HCS.out] at hcl hone' hb2
  have hN : w2.heap[w.heap.size]? = some (.cells z128 153 (0, 0)) := hf2.keep (heap_alloc_at w _) (by omega)
  have hF : Fr (· = A) w w2 := ((Fr.refl _ _).alloc _).trans hf2 (fun _ _ h => h)
  simp only [World.size_alloc] at hb2
  have hL1 : w.heap.size + 1 < w2.heap.size := lt_of_heap hb2
  obtain ⟨M, HM⟩ : ∃ M, Hid (M = w2.heap.size) := ⟨_, rfl⟩
  go_wp2_with (first
    | (refine wpList_alloc 153 (v := .pointer (some ⟨w2.heap.size, 0, none⟩)) (w' := w2.alloc (.cells z128 153)) rfl rfl ?_ ?_; exact alloc_block w2)
    | (refine wpList_copy_to rfl (.tmp 23) (.tmp 24) 66 66 rfl 5 Tryz.underlying66 u8size w2.heap.size 0 128 128 ⟨w.heap.size + 1, 0, none⟩ 128 128 rfl rfl z128 153 ?_ cs ?_ ?_ ?_ hone' cs ?_ ?_; exact heap_alloc_at _ _; (rw [hcl]; rfl); (exact World.news_of_block (cs := cs.toArray) (t := 5) (fr := (0, 0)) (by rw [heap_alloc_lt _ _ _ hL1]; exact hb2)); (rw [hcl, z128_size]; decide); (rw [hcl, List.drop_of_length_le (l := z128.toList) (by rw [Array.length_toList, z128_size]; decide)]; simp); intro w3 HW3; have hM1 : w3.rangeAt w2.heap.size 0 cs := by (rw [HW3.out]; intro j v hv; rw [cell_setRow_same _ _ _ _ _ _ _ (heap_alloc_at _ _)]; simpa using hv))
    | (refine wpList_load_mid rfl 153 (.tmp 7) rfl w2.heap.size 0 ?_ cs _ hM1 Tryz.underlying153 rfl ?_ ?_; rfl; (rw [block_size, hcl]))
    | (refine wpList_store 153 (w' := w3.setRow w.heap.size cs.toArray) (.tmp 4) (.tmp 26) rfl rfl ?_ ?_; (have hM0 : w3.heap[w.heap.size]? = some (.cells z128.toList.toArray 153 (0, 0)) := by (rw [HW3.out, setRow_other _ _ _ _ (by omega), heap_alloc_lt _ _ _ (by omega)]; simpa using hN)); (have := run_storeAt_row (P := Tryz.prog) (o := 0) (ty := 153) (vs := cs) hM0 (by simp [hcl, z128_size]) hone' (by rw [block_size, hcl])); (rw [show splice z128.toList 0 cs = cs from by simp [splice, hcl, z128_size]] at this); exact this))
  simp only [Act.put, List.setIfInBounds_toArray, List.set_cons_zero, List.set_cons_succ]
  have hM0 : w3.heap[w.heap.size]? = some (.cells z128 153 (0, 0)) := by rw [HW3.out, setRow_other _ _ _ _ (by omega), heap_alloc_lt _ _ _ (by omega)]; exact hN
  have hE := setRow_heap w3 w.heap.size z128 cs.toArray 153 (0, 0) hM0
  have hF3 : Fr (· = A) w w3 := by rw [HW3.out]; exact (hF.alloc _).setRow _ (fun h => by have := hF.size; omega) _
  have hd3 : DiskAt w3 A B n (.slice none 0 0) (calls + 1) writes := by unfold DiskAt; rw [HW3.out, setRow_other _ _ _ _ (by have := hd2.lt; omega)]; exact hd2.alloc _
  refine bodyPost_ret (v := .agg cs.toArray) (results_cell_row Tryz.results87 _ _ w.heap.size 153 _ (0, 0) _ rfl hE Tryz.underlying153 rfl (by rw [block_size]; simp [hcl])) rfl ⟨by rw [HCS.out], ?_, hF3.setRow _ (fun h => by omega) _⟩
  unfold DiskAt; rw [setRow_other _ _ _ _ (by omega)]; exact hd3
end Go.Proofs.YthnmpgnaahkgkaaGreatDoor
