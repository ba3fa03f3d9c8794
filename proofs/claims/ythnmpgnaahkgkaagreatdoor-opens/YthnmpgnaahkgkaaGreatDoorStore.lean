import Derived.Test.YthnmpgnaahkgkaaGreatDoorFlushW
import Derived.Test.YthnmpgnaahkgkaaGreatDoorVol
namespace Go.Proofs.YthnmpgnaahkgkaaGreatDoor
open Go.RowKit
theorem box_block (cs : List Value) (w : World) : (Instr.box 153 (.agg cs.toArray)).run Tryz.prog w = .ok (.pointer (some ⟨w.heap.size, 0, none⟩)) (w.alloc (.cells cs.toArray 153)) := rfl

set_option maxRecDepth 100000 in
set_option maxHeartbeats 1000000 in
theorem Store_ok {w : World} {V A B n : Nat} {cache : Value} {calls writes : Int} (hv : VolAt w V A n) (h : DiskAt w A B n cache calls writes) (h0 : 0 ≤ calls) (h1 : calls < 1000000000) (h2 : 0 ≤ writes) (h3 : writes < 1000000000)
    {base k : Nat} {xs : List Value} (hown : w.ownsRow base 65 129 cache k xs) (hk : k < 1000000) (hbase : base ≤ w.heap.size)
    (i : Nat) (hi : i < n) (data : List Value) (hl : data.length = 128) (hone : ∀ v ∈ data, v.oneCell' = true) :
    Calls Tryz.prog 79 #[.pointer (some ⟨V, 0, none⟩), .int .i64 i, .agg data.toArray] w fun e w' => e = .returned (.tuple #[]) ∧
      ∃ cache', DiskAt w' A B n cache' (calls + 1) (writes + 1) ∧ w'.ownsRow base 65 129 cache' (k + 1) (xs ++ (.int .i64 i :: data)) ∧ Fr (fun b => b = A ∨ cache.ownBlock = some b) w w' := by
  have hVA := hv.ne h
  have hVc : cache.ownBlock ≠ some V := by
    intro e
    rcases hown.2 with ⟨rfl, _⟩ | ⟨g, cap, cur, rfl, hb, hg, _⟩
    · simp [Value.ownBlock] at e
    · simp only [Value.ownBlock, Option.some.injEq] at e
      subst e
      have := hv.symm.trans hg
      simp at this
  have hVl := lt_of_heap hv
  have hAl := h.lt
  go_enter Tryz.func79, Tryz.ntmps79
  go_wp2_with (refine wpList_box 153 (.tmp 2) (v := .pointer (some ⟨w.heap.size, 0, none⟩)) (w' := w.alloc (.cells data.toArray 153)) rfl rfl ?_ ?_; exact box_block data w)
  try go_simp
  have hlift : Tryz.prog.follows .mixedOrders = true := by kernel_rfl
  obtain ⟨W, HW⟩ : ∃ W, Hid (W = (w.alloc (.cells data.toArray 153)).drew) := ⟨_, rfl⟩
  obtain ⟨G, HG⟩ : ∃ G, Hid (G = w.heap.size) := ⟨_, rfl⟩
  have hGA : G ≠ A := by have := HG.out; omega
  have hGW : W.heap[G]? = some (.cells data.toArray 153 (0, 0)) := by rw [HW.out, HG.out]; exact heap_alloc_at _ _
  have hdW : DiskAt W A B n cache calls writes := by rw [HW.out]; exact (h.alloc _).drew
  have hvW : VolAt W V A n := by rw [HW.out]; unfold VolAt; rw [heap_drew', heap_alloc_lt _ _ _ hVl]; exact hv
  have hoW : W.ownsRow base 65 129 cache k xs := by rw [HW.out]; exact hown.alloc _
  have hfW : Fr (fun b => b = A ∨ cache.ownBlock = some b) w W := by rw [HW.out]; exact ((Fr.refl _ _).alloc _).drew
  have hbW : base ≤ W.heap.size := Nat.le_trans hbase hfW.size
  rw [← HG.out]
  let S : World → Prop := fun w' => w'.cell? ⟨V, 0, none⟩ = some (.iface 39 (.pointer (some ⟨A, 0, none⟩)))
  have hS : S W := hvW.c0
  refine wp_region_held (S := S) hlift ?_
  change wpAnyH _ _ _ _ S _ _ _ (World.drew _)
  rw [← HW.out]
  refine wpAnyH_take (S := S) (i := 0) (oi := ⟨some 6, .move (.tmp 0), _, _, _, none⟩) (v := .pointer (some ⟨V, 0, none⟩)) rfl (by kernel_rfl) (by kernel_rfl) (by kernel_rfl) (fun _ _ _ h => h) (Or.inl ⟨rfl, fun _ _ => rfl⟩) hS ?_
  simp only [Act.put, List.setIfInBounds_toArray, List.set_cons_zero, List.set_cons_succ]
  refine wpAnyH_take (S := S) (i := 1) (oi := ⟨some 7, .nilCheck (.tmp 6), _, _, _, none⟩) (v := .pointer (some ⟨V, 0, none⟩)) rfl (by kernel_rfl) (by kernel_rfl) (by kernel_rfl) (fun _ _ _ h => h) (Or.inl ⟨rfl, fun _ _ => rfl⟩) hS ?_
  simp only [Act.put, List.setIfInBounds_toArray, List.set_cons_zero, List.set_cons_succ]
  refine wpAnyH_take (S := S) (i := 2) (oi := ⟨some 8, .fieldAddr 150 (.tmp 7) 0, _, _, _, none⟩) (v := .pointer (some ⟨V, 0, none⟩)) rfl (by kernel_rfl) (by kernel_rfl) (by kernel_rfl) (fun _ _ _ h => h) (Or.inl ⟨rfl, fun _ _ => by kernel_rfl⟩) hS ?_
  simp only [Act.put, List.setIfInBounds_toArray, List.set_cons_zero, List.set_cons_succ]
  refine wpAnyH_take (S := S) (i := 3) (oi := ⟨some 9, .load 123 (.tmp 8), _, _, _, none⟩) (v := .iface 39 (.pointer (some ⟨A, 0, none⟩))) rfl (by kernel_rfl) (by kernel_rfl) (by kernel_rfl) (fun _ _ _ h => h) (Or.inl ⟨rfl, fun w' hs => exec_load 123 (.tmp 8) rfl ⟨V, 0, none⟩ rfl (run_loadAt_one hs Tryz.underlying123 rfl)⟩) hS ?_
  simp only [Act.put, List.setIfInBounds_toArray, List.set_cons_zero, List.set_cons_succ]
  refine wpAnyH_take (S := S) (i := 4) (oi := ⟨some 10, .move (.tmp 1), _, _, _, none⟩) (v := .int .i64 i) rfl (by kernel_rfl) (by kernel_rfl) (by kernel_rfl) (fun _ _ _ h => h) (Or.inl ⟨rfl, fun _ _ => rfl⟩) hS ?_
  simp only [Act.put, List.setIfInBounds_toArray, List.set_cons_zero, List.set_cons_succ]
  refine wpAnyH_take (S := S) (i := 6) (oi := ⟨some 12, .nilCheck (.tmp 9), _, _, _, none⟩) (v := .iface 39 (.pointer (some ⟨A, 0, none⟩))) rfl (by kernel_rfl) (by kernel_rfl) (by kernel_rfl) (fun _ _ _ h => h) (Or.inl ⟨rfl, fun _ _ => rfl⟩) hS ?_
  simp only [Act.put, List.setIfInBounds_toArray, List.set_cons_zero, List.set_cons_succ]
  refine wpAnyH_take (S := S) (i := 7) (oi := ⟨some 13, .move (.tmp 9), _, _, _, none⟩) (v := .iface 39 (.pointer (some ⟨A, 0, none⟩))) rfl (by kernel_rfl) (by kernel_rfl) (by kernel_rfl) (fun _ _ _ h => h) (Or.inl ⟨rfl, fun _ _ => rfl⟩) hS ?_
  simp only [Act.put, List.setIfInBounds_toArray, List.set_cons_zero, List.set_cons_succ]
  refine wpAnyH_all (rs := [5]) (by kernel_rfl) (by simp) ?_
  intro i5 hi5
  obtain rfl : i5 = 5 := by simpa using hi5
  refine wpOp_call (o := ⟨some 11, .call { callee := .value (.func 92), args := #[.tmp 5, .const (.int .i64 0), .const (.int .i64 128)], argTypes := _ }, _, _, _, none⟩) (f := 92) (args := #[.pointer (some ⟨G, 0, none⟩), .int .i64 0, .int .i64 128]) rfl rfl (by kernel_rfl) ?_
  refine (Part0_ok W G).mono ?_
  rintro e w' ⟨rfl, rfl⟩
  refine ⟨_, rfl, hS, ?_⟩
  simp only [Act.put, List.setIfInBounds_toArray, List.set_cons_zero, List.set_cons_succ]
  refine wpAnyH_all (rs := [8]) (by kernel_rfl) (by simp) ?_
  intro i8 hi8
  obtain rfl : i8 = 8 := by simpa using hi8
  refine wpOp_call (o := ⟨some 14, .call { callee := .invoke (.tmp 13) _, args := #[.tmp 10, .tmp 11], argTypes := _ }, _, _, _, none⟩) (f := 128) (args := #[.pointer (some ⟨A, 0, none⟩), .int .i64 i, .slice (some ⟨G, 0, none⟩) 128 128]) rfl rfl (by kernel_rfl) ?_
  refine (Write_ok hdW h0 h1 h2 h3 hoW hk hbW i hi G 153 data hGW hl hone hGA).mono ?_
  rintro e w2 ⟨rfl, cache', hd2, ho2, hf2⟩
  have hS2 : S w2 := hf2.cell (p := ⟨V, 0, none⟩) hvW.c0 (by rintro (e | e); exact hVA e; exact hVc e)
  refine ⟨_, rfl, hS2, ?_⟩
  simp only [Act.put, List.setIfInBounds_toArray, List.set_cons_zero, List.set_cons_succ]
  refine wpAnyH_take (S := S) (i := 9) (oi := ⟨some 15, .binOp .neq 68 (.tmp 14) (.const .nilIface) 68, _, _, _, none⟩) (v := .bool false) rfl (by kernel_rfl) (by kernel_rfl) (by kernel_rfl) (fun _ _ _ h => h) (Or.inl ⟨rfl, fun _ _ => by kernel_rfl⟩) hS2 ?_
  simp only [Act.put, List.setIfInBounds_toArray, List.set_cons_zero, List.set_cons_succ]
  refine wpAnyH_done (by kernel_rfl) ?_ _
  go_wp2
  go_end0
  exact ⟨rfl, cache', hd2, ho2, hfW.trans hf2 (fun _ _ h => h)⟩
end Go.Proofs.YthnmpgnaahkgkaaGreatDoor
