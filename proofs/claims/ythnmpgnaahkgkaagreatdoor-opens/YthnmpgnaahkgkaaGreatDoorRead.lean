import Derived.Test.YthnmpgnaahkgkaaGreatDoorApi
import Derived.Laws.CopyOwn
import Derived.Deep.DeepMust
namespace Go.Proofs.YthnmpgnaahkgkaaGreatDoor
open Go.RowKit

/-- 128 noughts. -/
def z128 : Array Value := Array.replicate 128 (.int .u8 0)
theorem z128_size : z128.size = 128 := by simp [z128]
theorem makeBytes128 (w : World) : (Instr.makeSlice 66 (.int .i64 128) (.int .i64 128)).run Tryz.prog w = .ok (.slice (some ⟨w.heap.size, 0, none⟩) 128 128) (w.alloc (.cells z128 5)) := by kernel_rfl
theorem u8size : (Tryz.prog.info? 5).map (·.size) = some 1 := by kernel_rfl

/-- n blocks lie at block B. -/
def RowsAt (w : World) (B n : Nat) (bs : List Value) : Prop := w.heap[B]? = some (.cells bs.toArray 63 (0, 0)) ∧ bs.length = n * 128 ∧ ∀ v ∈ bs, v.oneCell' = true

set_option maxRecDepth 100000 in
set_option maxHeartbeats 400000 in
theorem Read_ok {w : World} {A B n : Nat} {calls writes : Int} {bs : List Value} (h : DiskAt w A B n (.slice none 0 0) calls writes) (hr : RowsAt w B n bs) (h0 : 0 ≤ calls) (h1 : calls < 1000000000) (i : Nat) (hi : i < n) :
    Calls Tryz.prog 127 #[.pointer (some ⟨A, 0, none⟩), .int .i64 i] w fun e w' => e = .returned (.tuple #[.slice (some ⟨w.heap.size, 0, none⟩) 128 128, .nilIface]) ∧
      w'.heap[w.heap.size]? = some (.cells ((bs.drop (i * 128)).take 128).toArray 5 (0, 0)) ∧ DiskAt w' A B n (.slice none 0 0) (calls + 1) writes ∧ Fr (· = A) w w' := by
  have hA := h.lt
  obtain ⟨hb, hl, hone⟩ := hr
  have hAB : A ≠ B := by
    intro e; subst e
    have := h.symm.trans hb
    simp at this
  have hBl : B < w.heap.size := lt_of_heap hb
  have hcl : ((bs.drop (i * 128)).take 128).length = 128 := by simp; omega
  have hone' : ∀ v ∈ (bs.drop (i * 128)).take 128, v.oneCell' = true := fun v hv => hone v (List.mem_of_mem_drop (List.mem_of_mem_take hv))
  have hnew : z128.toList.take 0 ++ ((bs.drop (i * 128)).take 128 ++ z128.toList.drop (0 + ((bs.drop (i * 128)).take 128).length)) = (bs.drop (i * 128)).take 128 := by
    rw [hcl, List.drop_of_length_le (l := z128.toList) (by rw [Array.length_toList, z128_size]; decide)]; simp
  have hsrcs : ∀ w1 : World, w1.heap[B]? = some (.cells bs.toArray 63 (0, 0)) → ∀ j v, ((bs.drop (i * 128)).take 128)[j]? = some v → w1.cell? ((⟨B, i * 128, none⟩ : Addr).add j) = some v := fun w1 hw1 => src_of_row hw1 (i * 128) 128
  generalize (bs.drop (i * 128)).take 128 = cs at *
  go_enter Tryz.func127, Tryz.ntmps127
  go_wp2_with fail
  refine (fails_ok h h0 h1).mono ?_
  rintro e w1 ⟨rfl, hd1, hf1, hs1⟩
  have HS1 : Hid (w1.heap.size = w.heap.size) := hs1
  clear hs1
  have hb1 := hf1.keep hb hAB.symm
  go_wp2_with fail
  refine (none_ok hd1 _ (by omega) (by omega)).mono ?_
  rintro e w' ⟨rfl, rfl⟩
  have c0' := (hd1.alloc (.cells z128 5)).c0
  have c1' := (hd1.alloc (.cells z128 5)).c1
  have hsrc := hsrcs (w'.alloc (.cells z128 5)) (by rw [heap_alloc_lt _ _ _ (lt_of_heap hb1)]; exact hb1)
  go_wp2_with (first
    | (refine wpList_makeSlice 66 (.const (.int .i64 128)) (.const (.int .i64 128)) rfl rfl (by exact makeBytes128 _) ?_)
    | (refine wpList_copy_to rfl (.tmp 18) (.tmp 25) 66 66 rfl 5 Tryz.underlying66 u8size w'.heap.size 0 128 128 ⟨B, i * 128, none⟩ 128 128 rfl rfl z128 5 (heap_alloc_at _ _) cs (by rw [hcl]; rfl) hsrc (by rw [hcl, z128_size]; decide) hone' cs hnew ?_; intro w2 HW2; have c12 : w2.cell? ⟨A, 1, none⟩ = some (.slice none 0 0) := by (rw [HW2.out, cell_setRow_other _ _ _ _ (by have := hd1.lt; simp; omega)]; exact c1')))
  refine wp_loop_rounds 1 ?_
  rw [rounds_succ]
  go_wp2
  go_ret2
  have hs2 : w2.heap[w'.heap.size]? = some (.cells cs.toArray 5 (0, 0)) := by rw [HW2.out]; exact setRow_heap _ _ _ _ _ _ (heap_alloc_at _ _)
  have hf2 : Fr (· = A) w w2 := by rw [HW2.out]; exact (hf1.alloc _).setRow _ (fun hh => by rw [HS1.out] at hh; omega) _
  have hd2 : DiskAt w2 A B n (.slice none 0 0) (calls + 1) writes := by
    unfold DiskAt; rw [HW2.out, setRow_other _ _ _ _ (by have := hd1.lt; omega)]; exact hd1.alloc _
  rw [HS1.out] at hs2 ⊢
  exact ⟨rfl, hs2, hd2, hf2⟩
end Go.Proofs.YthnmpgnaahkgkaaGreatDoor
