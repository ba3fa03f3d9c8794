import Derived.Test.YthnmpgnaahkgkaaGreatDoorSecure
namespace Go.Proofs.YthnmpgnaahkgkaaGreatDoor
open Go.RowKit
theorem count1_idle (p : Addr) (w : World) :
    CallsD Tryz.prog 89 #[.pointer (some p)] .returning w fun e u' w' => e = .returned (.tuple #[]) ∧ u' = .returning ∧ w' = w := by
  refine callsD_of_wpS Tryz.func89 rfl fun c₀ cs hu => ?_
  apply wpS_seq
  apply wpS_region
  simp [wpOpsS, go_sem, recoverD, hu, Tryz.ntmps89, Exit.thenS]
  refine wpS_cond (t := false) (by simp [Act.eval, Array.replicate]) ?_
  simp only [Bool.false_eq_true, if_false]
  refine wpS_of_wp (wp_skip ?_)
  cases c₀
  simp_all [bodyPostS, results, Tryz.results89]

theorem count_ok {w : World} {A B n : Nat} {cache : Value} {calls writes : Int} (h : DiskAt w A B n cache calls writes) :
    Calls Tryz.prog 76 #[.iface 39 (.pointer (some ⟨A, 0, none⟩))] w fun e w' => e = .returned (.int .i64 n) ∧ Fr (fun _ => False) w w' := by
  have hmf : ∀ (fn : Fn) (first cap : Array Value) (w : World), (Instr.makeFunc fn first cap).run Tryz.prog w = .ok (.func fn first cap) w := fun _ _ _ _ => rfl
  have mb := method_Blocks
  go_enter_defers Tryz.func76, Tryz.ntmps76
  go_wp2_with fail
  refine (dBlocks_ok (h.alloc _)).mono ?_
  rintro e w2 ⟨rfl, rfl⟩
  go_wp2
  refine leaves_cons (f := 89) (args := #[.pointer (some ⟨w.heap.size, 0, none⟩)]) (by simp) (by simp [go_sem]) ?_
  refine (count1_idle ⟨w.heap.size, 0, none⟩ _).mono ?_
  rintro e u' w'' ⟨rfl, rfl, rfl⟩
  simp [Leaves, settle, results, Tryz.results76, go_sem]
  exact (Fr.refl _ _).alloc _

theorem Try1_idle (p : Addr) (w : World) :
    CallsD Tryz.prog 90 #[.pointer (some p)] .returning w fun e u' w' => e = .returned (.tuple #[]) ∧ u' = .returning ∧ w' = w := by
  refine callsD_of_wpS Tryz.func90 rfl fun c₀ cs hu => ?_
  apply wpS_seq
  apply wpS_region
  simp [wpOpsS, go_sem, recoverD, hu, Tryz.ntmps90, Exit.thenS]
  apply wpS_seq
  apply wpS_region
  simp [wpOpsS, go_sem, Exit.thenS]
  refine wpS_cond (t := false) (by simp [Act.eval, Array.replicate]) ?_
  simp only [Bool.false_eq_true, if_false]
  refine wpS_of_wp (wp_skip ?_)
  cases c₀
  simp_all [bodyPostS, results, Tryz.results90]

/-- 128 noughts, as a list. -/
def zB : List Value := List.replicate 128 (.int .u8 0)
theorem zB_len : zB.length = 128 := by simp [zB]
theorem zB_one : ∀ v ∈ zB, v.oneCell' = true := by intro v hv; simp only [zB, List.mem_replicate] at hv; rw [hv.2]; rfl
theorem build_zB (w : World) : (Instr.build 153 #[]).run Tryz.prog w = .ok (.agg zB.toArray) w := by kernel_rfl
/-- The writes by which the blocks behind the head are wiped. -/
def wipes (m : Nat) : List (Nat × List Value) := (List.range m).map (fun j => (j + 1, zB))
theorem wipes_succ (m : Nat) : wipes (m + 1) = wipes m ++ [(m + 1, zB)] := by simp [wipes, List.range_succ]
theorem flat_append (a b : List (Nat × List Value)) : flat (a ++ b) = flat a ++ flat b := by simp [flat]
theorem flat_one (p : Nat × List Value) : flat [p] = Value.int .i64 p.1 :: p.2 := by simp [flat]
theorem mem_wipes {m : Nat} {p : Nat × List Value} (h : p ∈ wipes m) : 1 ≤ p.1 ∧ p.1 ≤ m ∧ p.2 = zB := by
  simp only [wipes, List.mem_map, List.mem_range] at h
  obtain ⟨j, hj, rfl⟩ := h
  exact ⟨by simp, by simp; omega, rfl⟩
theorem take_splice_lo {l c : List Value} (h : c.length = 128) : (splice l 0 c).take 128 = c := by
  simp [splice, ← h]
end Go.Proofs.YthnmpgnaahkgkaaGreatDoor
