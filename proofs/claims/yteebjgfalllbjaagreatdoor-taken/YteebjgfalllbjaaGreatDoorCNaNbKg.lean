import Derived.Test.YteebjgfalllbjaaGreatDoorCKbKpKq
import Derived.Test.YteebjgfalllbjaaGreatDoorCRg2FeAd
import Derived.Test.YteebjgfalllbjaaGreatDoorCPaAs1Kd
import Derived.Test.YteebjgfalllbjaaGreatDoorCKcKeKr
import Derived.Test.YteebjgfalllbjaaGreatDoorCWhJrFm
import Derived.Laws.MakeOwn
namespace Go.Proofs.YteebjgfalllbjaaGreatDoor
open Go.RowKit
theorem move_size : (Tryz.prog.info? 196).map (·.size) = some 2 := by kernel_rfl
theorem run_store2 {w : World} {g : Nat} {cs r : List Value} {t : TypeId} (hg : w.heap[g]? = some (.cells cs.toArray t (0, 0))) (hc : cs.length = 2) (hl : r.length = 2) (h1 : ∀ v ∈ r, v.oneCell' = true) : (Instr.storeAt 196 (.pointer (some ⟨g, 0, none⟩)) (.agg r.toArray)).run Tryz.prog w = .ok () (w.setRow g r.toArray) := by
  have := run_storeAt_row (P := Tryz.prog) (o := 0) (ty := 196) (vs := r) hg (by omega) h1 (by rw [move_size, hl])
  rwa [show splice cs 0 r = r from by simp [splice, hl, hc]] at this
theorem run_build_move (id r : Int) (w : World) : (Instr.build 196 #[(0, .int .i64 id), (1, .int .i64 r)]).run Tryz.prog w = .ok (.agg #[.int .i64 id, .int .i64 r]) w := by kernel_rfl
theorem exec_buildM {ρ : Operand → Value} {o : Oper} {x y : Operand} {u v z : Value} {w w' : World} (ho : o.op = .build 196 #[(0, x), (1, y)]) (hx : ρ x = u) (hy : ρ y = v) (hr : (Instr.build 196 #[(0, u), (1, v)]).run Tryz.prog w = .ok z w') : (execOp ρ o).run Tryz.prog w = .ok (.value z) w' := by
  simp [execOp, ho, hx, hy, hr]
theorem exec_alloc_move (ρ : Operand → Value) (o : Oper) (ho : o.op = .alloc 196) (w : World) : (execOp ρ o).run Tryz.prog w = .ok (.value (.pointer (some ⟨w.heap.size, 0, none⟩))) (w.alloc (.cells ([.int .i64 0, .int .i64 0] : List Value).toArray 196)) := by
  simp only [execOp, ho]
  kernel_rfl
theorem loadBody {w : World} {g : Nat} {bd : List Value} {t : TypeId} (h : w.heap[g]? = some (.cells bd.toArray t (0, 0))) (hl : bd.length = 124) : (Instr.loadAt 182 (.pointer (some ⟨g, 0, none⟩))).run Tryz.prog w = .ok (.agg bd.toArray) w :=
  run_loadAt_mid w g 0 182 bd _ (fun j v hv => (cell_of_row w g (0 + j) _ _ _ h).trans (by simpa using hv)) Tryz.underlying182 rfl (by rw [body_size, hl])
theorem loadBlk {w : World} {g : Nat} {bd : List Value} {t : TypeId} (h : w.heap[g]? = some (.cells bd.toArray t (0, 0))) (hl : bd.length = 128) : (Instr.loadAt 130 (.pointer (some ⟨g, 0, none⟩))).run Tryz.prog w = .ok (.agg bd.toArray) w :=
  run_loadAt_mid w g 0 130 bd _ (fun j v hv => (cell_of_row w g (0 + j) _ _ _ h).trans (by simpa using hv)) Tryz.underlying130 rfl (by rw [block_size, hl])
theorem exec_cu8i {ρ : Operand → Value} {o : Oper} {x : Operand} {r : Nat} (ho : o.op = .convert 5 3 x) (hx : ρ x = .int .u8 r) (hr : r ≤ 2) (w : World) : (execOp ρ o).run Tryz.prog w = .ok (.value (.int .i64 r)) w := by
  simp only [execOp, ho, hx]
  obtain h | h | h : r = 0 ∨ r = 1 ∨ r = 2 := by omega
  all_goals subst h; kernel_rfl
set_option maxRecDepth 100000 in
set_option maxHeartbeats 4000000 in
theorem readMove_ok (w : World) (id r : Nat) (hid : id ≤ 1000) (hr : r ≤ 2) : Calls Tryz.prog 154 #[.agg (mvB id r).toArray] w fun e w' => e = .returned (.tuple #[.agg #[.int .i64 id, .int .i64 r], .bool true]) ∧ Fr (fun _ => False) w w' := by
  have hlift : Tryz.prog.follows .mixedOrders = true := by kernel_rfl
  have hbl := bodyM_len id r
  have hb1 : ∀ v ∈ bodyS id r [] 0, v.oneCell' = true := bodyS_one _ _ _ _
  have hll : (mvB id r).length = 128 := ldB_len 3 _ hbl 4 (by omega)
  have hl1 : ∀ v ∈ mvB id r, v.oneCell' = true := ldB_one 3 _ hb1 4
  have HMB : ∀ w', Calls Tryz.prog 151 #[.agg #[.int .i64 id, .int .i64 r]] w' fun e w'' => e = .returned (.agg (mvB id r).toArray) ∧ Fr (fun _ => False) w' w'' := fun w' => mBlock_ok w' id r hid hr
  have HG : ∀ w', Calls Tryz.prog 165 #[.agg (bodyS id r [] 0).toArray] w' fun e w'' => e = .returned (.int .i64 id) ∧ Fr (fun _ => False) w' w'' := fun w' => getId_ok w' id hid _
  have hb2 : (bodyS id r [] 0).toArray[2]? = some (.int .u8 r) := by rw [bodyS_nil]; rfl
  obtain ⟨blk, HB⟩ : ∃ blk, Hid (blk = mvB id r) := ⟨_, rfl⟩
  obtain ⟨bd, HD⟩ : ∃ bd, Hid (bd = bodyS id r [] 0) := ⟨_, rfl⟩
  have HRD : Hid (rdB blk 4 = bd) := by unfold Hid; rw [HB.out, HD.out]; exact rdB_ldB 3 _ hbl
  have hneq : ∀ w', (binOp .neq 130 (.agg blk.toArray) (.agg blk.toArray)).run Tryz.prog w' = .ok (.bool false) w' := by
    intro w'
    rw [run_neq_struct, equal_self 9998 blk.toArray w' (by rw [HB.out]; exact ldB_ints 3 _ hbl (bodyS_ints _ _ _ _))]
    rfl
  rw [← HB.out] at hll hl1 HMB ⊢
  rw [← HD.out] at hbl hb1 HG hb2
  obtain ⟨W, HW⟩ : ∃ W, Hid (W = (w.alloc (.cells blk.toArray 130)).alloc (.cells #[.int .i64 0, .int .i64 0] 196)) := ⟨_, rfl⟩
  have hF : Fr (fun _ => False) w W := by rw [HW.out]; exact ((Fr.refl _ _).alloc _).alloc _
  have r0 : W.heap[w.heap.size]? = some (.cells blk.toArray 130 (0, 0)) := by rw [HW.out, heap_alloc_lt _ _ _ (by simp)]; exact heap_alloc_at _ _
  have r1 : W.heap[w.heap.size + 1]? = some (.cells #[.int .i64 0, .int .i64 0] 196 (0, 0)) := by rw [HW.out]; exact heap_alloc2_new w _ _
  have hM : ((w.alloc (.cells blk.toArray 130)).alloc (.cells #[.int .i64 0, .int .i64 0] 196)).rangeAt w.heap.size 0 blk := by rw [← HW.out]; exact fun j v hv => (cell_of_row W _ (0 + j) _ _ _ r0).trans (by simpa using hv)
  go_enter Tryz.func154, Tryz.ntmps154
  go_wp2_with (first | (refine wpList_load_mid rfl 130 _ rfl w.heap.size 0 ?_ _ _ hM Tryz.underlying130 rfl ?_ ?_; rfl; (rw [block_size, hll])))
  rw [← HW.out]
  refine (rcread_ok W blk hll hl1).mono ?_
  rintro e w2 ⟨rfl, hf2⟩
  rw [HRD.out]
  have r02 := hf2.keep r0 (fun h => h)
  have r12 := hf2.keep r1 (fun h => h)
  have hF2 : Fr (fun _ => False) w w2 := hF.trans hf2 (fun _ _ h => h)
  clear HW hM r0 r1 hF hf2
  have hzr := heap_alloc_at w2 (.cells Tryz.zeroCells182 182)
  rw [zeroB_eq] at hzr
  have hst := run_store_body hzr (by simp) hbl hb1
  have hr3 := setRow_heap (w2.alloc (.cells (List.replicate 124 zv).toArray 182)) w2.heap.size _ bd.toArray 182 (0, 0) hzr
  have hf3 : Fr (fun _ => False) w2 ((w2.alloc (.cells (List.replicate 124 zv).toArray 182)).setRow w2.heap.size bd.toArray) := Fr.setRow (S := fun _ => False) ((Fr.refl _ _).alloc _) _ (fun h => by omega) _
  obtain ⟨W3, HW3⟩ : ∃ W3, Hid (W3 = (w2.alloc (.cells (List.replicate 124 zv).toArray 182)).setRow w2.heap.size bd.toArray) := ⟨_, rfl⟩
  rw [← HW3.out] at hst hr3 hf3
  rw [← zeroB_eq] at hst
  have r03 := hf3.keep r02 (fun h => h)
  have r13 := hf3.keep r12 (fun h => h)
  have hF3 : Fr (fun _ => False) w W3 := hF2.trans hf3 (fun _ _ h => h)
  have hlt2 : w.heap.size + 1 < w2.heap.size := lt_of_heap r12
  clear HW3 r02 r12 hF2 hzr hf3
  go_wp2_with (first | (refine wpList_store 182 (w' := W3) _ _ rfl rfl ?_ ?_; exact hst))
  clear hst
  obtain ⟨U, HU⟩ : ∃ U, Hid (U = W3.drew) := ⟨_, rfl⟩
  have hfU : Fr (fun _ => False) W3 U := by rw [HU.out]; exact (Fr.refl _ _).drew
  let S2 : World → Prop := fun w' => w'.heap[w2.heap.size]? = some (.cells bd.toArray 182 (0, 0))
  have hS : S2 U := hfU.keep hr3 (fun h => h)
  refine wp_region_held (S := S2) hlift ?_
  change wpAnyH _ _ _ _ S2 _ _ _ (World.drew _)
  rw [← HU.out]
  clear HU
  refine tkY (S := S2) (i := 0) (oi := ⟨some 8, .load 182 (.tmp 4), _, _, _, none⟩) (v := .agg bd.toArray) rfl (Or.inl ⟨rfl, fun w' hs => exec_load 182 (.tmp 4) rfl ⟨w2.heap.size, 0, none⟩ rfl (loadBody hs hbl)⟩) hS ?_
  simp only [Act.put, lsE, lsZ, lsS]
  refine tkY (S := S2) (i := 2) (oi := ⟨some 10, .indexAddr 182 (.tmp 4) (.const (.int .i64 2)), _, _, _, none⟩) (v := .pointer (some ⟨w2.heap.size, 2, none⟩)) rfl (Or.inl ⟨rfl, fun w' _ => exec_indexAddr 182 _ _ rfl rfl rfl (index_body _ 2 (by omega) w')⟩) hS ?_
  simp only [Act.put, lsE, lsZ, lsS]
  refine tkY (S := S2) (i := 3) (oi := ⟨some 11, .load 5 (.tmp 10), _, _, _, none⟩) (v := .int .u8 r) rfl (Or.inl ⟨rfl, fun w' hs => exec_load 5 (.tmp 10) rfl ⟨w2.heap.size, 2, none⟩ rfl (run_loadAt_one ((cell_of_row w' _ _ _ _ _ hs).trans hb2) Tryz.underlying5 rfl)⟩) hS ?_
  simp only [Act.put, lsE, lsZ, lsS]
  refine tkY (S := S2) (i := 4) (oi := ⟨some 12, .convert 5 3 (.tmp 11), _, _, _, none⟩) (v := .int .i64 r) rfl (Or.inl ⟨rfl, fun w' _ => exec_cu8i rfl rfl hr w'⟩) hS ?_
  simp only [Act.put, lsE, lsZ, lsS]
  refine wpAnyH_all (rs := [1, 6]) (by kernel_rfl) (by simp) ?_
  intro iz hiz
  have hzz : iz = 1 ∨ iz = 6 := by simpa using hiz
  rcases hzz with rfl | rfl
  · refine wpOp_call (o := ⟨some 9, .call { callee := .value (.func 165), args := #[(.tmp 8)], argTypes := _ }, _, _, _, none⟩) (f := 165) (args := #[.agg bd.toArray]) rfl rfl (by kernel_rfl) ?_
    refine (HG U).mono ?_
    rintro e w5 ⟨rfl, hf5⟩
    have hS5 : S2 w5 := hf5.keep hS (fun h => h)
    refine ⟨_, rfl, hS5, ?_⟩
    simp only [Act.put, lsE, lsZ, lsS]
    refine tkY (S := S2) (i := 5) (oi := ⟨some 13, .build 196 #[(0, .tmp 9), (1, .tmp 12)], _, _, _, none⟩) (v := .agg #[.int .i64 id, .int .i64 r]) rfl (Or.inl ⟨rfl, fun w' _ => exec_buildM rfl rfl rfl (run_build_move id r w')⟩) hS5 ?_
    simp only [Act.put, lsE, lsZ, lsS]
    refine wpAnyH_all (rs := [6]) (by kernel_rfl) (by simp) ?_
    intro i6 hi6
    obtain rfl : i6 = 6 := by simpa using hi6
    have hm5 := heap_alloc_at w5 (.cells ([.int .i64 0, .int .i64 0] : List Value).toArray 196)
    have hFm : Fr (fun _ => False) W3 (w5.alloc (.cells ([.int .i64 0, .int .i64 0] : List Value).toArray 196)) := (hfU.trans hf5 (fun _ _ h => h)).alloc _
    have hSm : S2 (w5.alloc (.cells ([.int .i64 0, .int .i64 0] : List Value).toArray 196)) := ((Fr.refl (fun _ => False) w5).alloc _).keep hS5 (fun h => h)
    have hgl := (hfU.trans hf5 (fun _ _ h => h)).size
    have hgne : w2.heap.size ≠ w5.heap.size := by have := lt_of_heap hr3; omega
    refine wpOp_value (o := ⟨some 5, .alloc 196, _, _, _, none⟩) (v := .pointer (some ⟨w5.heap.size, 0, none⟩)) (w' := w5.alloc (.cells ([.int .i64 0, .int .i64 0] : List Value).toArray 196)) rfl rfl (exec_alloc_move _ _ rfl _) ⟨hSm, ?_⟩
    simp only [Act.put, lsE, lsZ, lsS]
    obtain ⟨W5, HW5⟩ : ∃ W5, Hid (W5 = w5.alloc (.cells ([.int .i64 0, .int .i64 0] : List Value).toArray 196)) := ⟨_, rfl⟩
    rw [← HW5.out] at hm5 hFm hSm ⊢
    have hwl3 := hF3.size
    have hr1l := lt_of_heap r13
    clear HW5 hf5 hS5
    generalize w5.heap.size = g5 at *
    refine wpAnyH_all (rs := [7]) (by kernel_rfl) (by simp) ?_
    intro i7 hi7
    obtain rfl : i7 = 7 := by simpa using hi7
    have hst := run_store2 (r := [.int .i64 id, .int .i64 r]) hm5 rfl rfl (by intro v hv; simp at hv; rcases hv with rfl | rfl <;> rfl)
    have hM := setRow_heap W5 g5 _ ([.int .i64 id, .int .i64 r] : List Value).toArray 196 (0, 0) hm5
    have hfM : Fr (fun b => b = g5) W5 (W5.setRow g5 ([.int .i64 id, .int .i64 r] : List Value).toArray) := Fr.setRow (S := fun b => b = g5) (Fr.refl _ _) _ (fun _ => rfl) _
    obtain ⟨WE, HWE⟩ : ∃ WE, Hid (WE = W5.setRow g5 ([.int .i64 id, .int .i64 r] : List Value).toArray) := ⟨_, rfl⟩
    rw [← HWE.out] at hst hM hfM
    have hSE : S2 WE := hfM.keep hSm hgne
    refine wpOp_skip (o := ⟨none, .store 196 (.tmp 5) (.tmp 13), _, _, _, none⟩) (w' := WE) rfl rfl (exec_store 196 _ _ rfl ⟨g5, 0, none⟩ _ rfl rfl hst) ⟨hSE, ?_⟩
    simp only [Act.put]
    refine wpAnyH_done (by kernel_rfl) ?_ _
    have HE : Hid (WE.heap[g5]? = some (.cells #[.int .i64 id, .int .i64 r] 196 (0, 0)) ∧ WE.heap[w.heap.size]? = some (.cells blk.toArray 130 (0, 0)) ∧ WE.heap[w.heap.size + 1]? = some (.cells #[.int .i64 0, .int .i64 0] 196 (0, 0)) ∧ Fr (fun _ => False) w WE ∧ w.heap.size + 1 < g5) := ⟨hM, hfM.keep (hFm.keep r03 (fun h => h)) (by omega), hfM.keep (hFm.keep r13 (fun h => h)) (by omega), (hF3.trans hFm (fun _ _ h => h)).trans hfM (fun b hb h => by omega), by omega⟩
    clear HWE hst hM hfM hSE hSm hm5
    generalize g5 = gm at *
    go_wp2_with fail
    obtain ⟨h1, h2, h3, h4, h5⟩ := HE.out
    obtain ⟨U3, HU3⟩ : ∃ U3, Hid (U3 = WE.drew) := ⟨_, rfl⟩
    have hfU3 : Fr (fun _ => False) WE U3 := by rw [HU3.out]; exact (Fr.refl _ _).drew
    let S3 : World → Prop := fun w' => w'.heap[gm]? = some (.cells #[.int .i64 id, .int .i64 r] 196 (0, 0)) ∧ w'.heap[w.heap.size]? = some (.cells blk.toArray 130 (0, 0))
    have hS3 : S3 U3 := ⟨hfU3.keep h1 (fun h => h), hfU3.keep h2 (fun h => h)⟩
    refine wp_region_held (S := S3) hlift ?_
    change wpAnyH _ _ _ _ S3 _ _ _ (World.drew _)
    rw [← HU3.out]
    clear HU3
    refine tkY (S := S3) (i := 0) (oi := ⟨some 14, .load 196 (.tmp 5), _, _, _, none⟩) (v := .agg #[.int .i64 id, .int .i64 r]) rfl (Or.inl ⟨rfl, fun w' hs => exec_load 196 (.tmp 5) rfl ⟨gm, 0, none⟩ rfl (loadM hs.1)⟩) hS3 ?_
    simp only [Act.put, lsE, lsZ, lsS]
    refine tkY (S := S3) (i := 2) (oi := ⟨some 16, .load 130 (.tmp 1), _, _, _, none⟩) (v := .agg blk.toArray) rfl (Or.inl ⟨rfl, fun w' hs => exec_load 130 (.tmp 1) rfl ⟨w.heap.size, 0, none⟩ rfl (loadBlk hs.2 hll)⟩) hS3 ?_
    simp only [Act.put, lsE, lsZ, lsS]
    refine wpAnyH_all (rs := [1]) (by kernel_rfl) (by simp) ?_
    intro i1 hi1
    obtain rfl : i1 = 1 := by simpa using hi1
    refine wpOp_call (o := ⟨some 15, .call { callee := .value (.func 151), args := #[(.tmp 14)], argTypes := _ }, _, _, _, none⟩) (f := 151) (args := #[.agg #[.int .i64 id, .int .i64 r]]) rfl rfl (by kernel_rfl) ?_
    refine (HMB U3).mono ?_
    rintro e w8 ⟨rfl, hf8⟩
    have hS8 : S3 w8 := ⟨hf8.keep hS3.1 (fun h => h), hf8.keep hS3.2 (fun h => h)⟩
    refine ⟨_, rfl, hS8, ?_⟩
    simp only [Act.put, lsE, lsZ, lsS]
    refine tkY (S := S3) (i := 3) (oi := ⟨some 17, .binOp .neq 130 (.tmp 15) (.tmp 16) 130, _, _, _, none⟩) (v := .bool false) rfl (Or.inl ⟨rfl, fun w' _ => exec_neq_block rfl rfl rfl (hneq w')⟩) hS8 ?_
    simp only [Act.put, lsE, lsZ, lsS]
    refine wpAnyH_done (by kernel_rfl) ?_ _
    have hf38 := hfU3.trans hf8 (fun _ _ h => h)
    have hm8 := hf38.keep h1 (fun h => h)
    have hz8 := hf38.keep h3 (fun h => h)
    have hF8 : Fr (fun _ => False) w w8 := h4.trans hf38 (fun _ _ h => h)
    have hL8 := loadM hm8
    have hst8 := run_store2 (r := [.int .i64 id, .int .i64 r]) hz8 rfl rfl (by intro v hv; simp at hv; rcases hv with rfl | rfl <;> rfl)
    have hR8 := setRow_heap w8 (w.heap.size + 1) _ ([.int .i64 id, .int .i64 r] : List Value).toArray 196 (0, 0) hz8
    have hfE : Fr (fun b => b = w.heap.size + 1) w8 (w8.setRow (w.heap.size + 1) ([.int .i64 id, .int .i64 r] : List Value).toArray) := Fr.setRow (S := fun b => b = w.heap.size + 1) (Fr.refl _ _) _ (fun _ => rfl) _
    obtain ⟨W9, HW9⟩ : ∃ W9, Hid (W9 = w8.setRow (w.heap.size + 1) ([.int .i64 id, .int .i64 r] : List Value).toArray) := ⟨_, rfl⟩
    rw [← HW9.out] at hst8 hR8 hfE
    have hF9 : Fr (fun _ => False) w W9 := hF8.trans hfE (fun b hb h => by omega)
    have hrg8 : w8.rangeAt gm 0 [.int .i64 id, .int .i64 r] := fun j v hv => (cell_of_row _ _ (0 + j) _ _ _ hm8).trans (by simpa using hv)
    clear HW9 hfE hf38 hz8 hF8 h1 h2 h3 h4 hfU3 hf8 HE
    go_wp2_with (first | (refine wpList_load_mid rfl 196 _ rfl gm 0 ?_ _ _ hrg8 Tryz.underlying196 rfl ?_ ?_; rfl; exact move_size) | (refine wpList_store 196 (w' := W9) _ _ rfl rfl ?_ ?_; exact hst8))
    refine bodyPost_ret (results_row_tmp Tryz.results154 _ _ (w.heap.size + 1) 196 _ (0, 0) _ rfl hR8 Tryz.underlying196 rfl (by rw [move_size]; rfl)) rfl ⟨rfl, hF9⟩
  · have hm4 := heap_alloc_at U (.cells ([.int .i64 0, .int .i64 0] : List Value).toArray 196)
    have hf4 : Fr (fun _ => False) U (U.alloc (.cells ([.int .i64 0, .int .i64 0] : List Value).toArray 196)) := (Fr.refl _ _).alloc _
    have hS4 : S2 (U.alloc (.cells ([.int .i64 0, .int .i64 0] : List Value).toArray 196)) := hf4.keep hS (fun h => h)
    refine wpOp_value (o := ⟨some 5, .alloc 196, _, _, _, none⟩) (v := .pointer (some ⟨U.heap.size, 0, none⟩)) (w' := U.alloc (.cells ([.int .i64 0, .int .i64 0] : List Value).toArray 196)) rfl rfl (exec_alloc_move _ _ rfl _) ⟨hS4, ?_⟩
    simp only [Act.put, lsE, lsZ, lsS]
    obtain ⟨U4, HU4⟩ : ∃ U4, Hid (U4 = U.alloc (.cells ([.int .i64 0, .int .i64 0] : List Value).toArray 196)) := ⟨_, rfl⟩
    rw [← HU4.out] at hm4 hf4 hS4 ⊢
    clear HU4
    refine wpAnyH_all (rs := [1]) (by kernel_rfl) (by simp) ?_
    intro i1 hi1
    obtain rfl : i1 = 1 := by simpa using hi1
    refine wpOp_call (o := ⟨some 9, .call { callee := .value (.func 165), args := #[(.tmp 8)], argTypes := _ }, _, _, _, none⟩) (f := 165) (args := #[.agg bd.toArray]) rfl rfl (by kernel_rfl) ?_
    refine (HG U4).mono ?_
    rintro e w5 ⟨rfl, hf5⟩
    have hSm : S2 w5 := hf5.keep hS4 (fun h => h)
    have hS5 := hSm
    refine ⟨_, rfl, hSm, ?_⟩
    simp only [Act.put, lsE, lsZ, lsS]
    refine tkY (S := S2) (i := 5) (oi := ⟨some 13, .build 196 #[(0, .tmp 9), (1, .tmp 12)], _, _, _, none⟩) (v := .agg #[.int .i64 id, .int .i64 r]) rfl (Or.inl ⟨rfl, fun w' _ => exec_buildM rfl rfl rfl (run_build_move id r w')⟩) hS5 ?_
    simp only [Act.put, lsE, lsZ, lsS]
    have hm5 := hf5.keep hm4 (fun h => h)
    have hFm : Fr (fun _ => False) W3 w5 := (hfU.trans hf4 (fun _ _ h => h)).trans hf5 (fun _ _ h => h)
    have hgl := hfU.size
    have hgne : w2.heap.size ≠ U.heap.size := by have := lt_of_heap hr3; omega
    have hwl3 := hF3.size
    have hr1l := lt_of_heap r13
    clear hf5 hm4 hf4 hS4 hS5
    generalize U.heap.size = g5 at *
    refine wpAnyH_all (rs := [7]) (by kernel_rfl) (by simp) ?_
    intro i7 hi7
    obtain rfl : i7 = 7 := by simpa using hi7
    have hst := run_store2 (r := [.int .i64 id, .int .i64 r]) hm5 rfl rfl (by intro v hv; simp at hv; rcases hv with rfl | rfl <;> rfl)
    have hM := setRow_heap w5 g5 _ ([.int .i64 id, .int .i64 r] : List Value).toArray 196 (0, 0) hm5
    have hfM : Fr (fun b => b = g5) w5 (w5.setRow g5 ([.int .i64 id, .int .i64 r] : List Value).toArray) := Fr.setRow (S := fun b => b = g5) (Fr.refl _ _) _ (fun _ => rfl) _
    obtain ⟨WE, HWE⟩ : ∃ WE, Hid (WE = w5.setRow g5 ([.int .i64 id, .int .i64 r] : List Value).toArray) := ⟨_, rfl⟩
    rw [← HWE.out] at hst hM hfM
    have hSE : S2 WE := hfM.keep hSm hgne
    refine wpOp_skip (o := ⟨none, .store 196 (.tmp 5) (.tmp 13), _, _, _, none⟩) (w' := WE) rfl rfl (exec_store 196 _ _ rfl ⟨g5, 0, none⟩ _ rfl rfl hst) ⟨hSE, ?_⟩
    simp only [Act.put]
    refine wpAnyH_done (by kernel_rfl) ?_ _
    have HE : Hid (WE.heap[g5]? = some (.cells #[.int .i64 id, .int .i64 r] 196 (0, 0)) ∧ WE.heap[w.heap.size]? = some (.cells blk.toArray 130 (0, 0)) ∧ WE.heap[w.heap.size + 1]? = some (.cells #[.int .i64 0, .int .i64 0] 196 (0, 0)) ∧ Fr (fun _ => False) w WE ∧ w.heap.size + 1 < g5) := ⟨hM, hfM.keep (hFm.keep r03 (fun h => h)) (by omega), hfM.keep (hFm.keep r13 (fun h => h)) (by omega), (hF3.trans hFm (fun _ _ h => h)).trans hfM (fun b hb h => by omega), by omega⟩
    clear HWE hst hM hfM hSE hSm hm5
    generalize g5 = gm at *
    go_wp2_with fail
    obtain ⟨h1, h2, h3, h4, h5⟩ := HE.out
    obtain ⟨U3, HU3⟩ : ∃ U3, Hid (U3 = WE.drew) := ⟨_, rfl⟩
    have hfU3 : Fr (fun _ => False) WE U3 := by rw [HU3.out]; exact (Fr.refl _ _).drew
    let S3 : World → Prop := fun w' => w'.heap[gm]? = some (.cells #[.int .i64 id, .int .i64 r] 196 (0, 0)) ∧ w'.heap[w.heap.size]? = some (.cells blk.toArray 130 (0, 0))
    have hS3 : S3 U3 := ⟨hfU3.keep h1 (fun h => h), hfU3.keep h2 (fun h => h)⟩
    refine wp_region_held (S := S3) hlift ?_
    change wpAnyH _ _ _ _ S3 _ _ _ (World.drew _)
    rw [← HU3.out]
    clear HU3
    refine tkY (S := S3) (i := 0) (oi := ⟨some 14, .load 196 (.tmp 5), _, _, _, none⟩) (v := .agg #[.int .i64 id, .int .i64 r]) rfl (Or.inl ⟨rfl, fun w' hs => exec_load 196 (.tmp 5) rfl ⟨gm, 0, none⟩ rfl (loadM hs.1)⟩) hS3 ?_
    simp only [Act.put, lsE, lsZ, lsS]
    refine tkY (S := S3) (i := 2) (oi := ⟨some 16, .load 130 (.tmp 1), _, _, _, none⟩) (v := .agg blk.toArray) rfl (Or.inl ⟨rfl, fun w' hs => exec_load 130 (.tmp 1) rfl ⟨w.heap.size, 0, none⟩ rfl (loadBlk hs.2 hll)⟩) hS3 ?_
    simp only [Act.put, lsE, lsZ, lsS]
    refine wpAnyH_all (rs := [1]) (by kernel_rfl) (by simp) ?_
    intro i1 hi1
    obtain rfl : i1 = 1 := by simpa using hi1
    refine wpOp_call (o := ⟨some 15, .call { callee := .value (.func 151), args := #[(.tmp 14)], argTypes := _ }, _, _, _, none⟩) (f := 151) (args := #[.agg #[.int .i64 id, .int .i64 r]]) rfl rfl (by kernel_rfl) ?_
    refine (HMB U3).mono ?_
    rintro e w8 ⟨rfl, hf8⟩
    have hS8 : S3 w8 := ⟨hf8.keep hS3.1 (fun h => h), hf8.keep hS3.2 (fun h => h)⟩
    refine ⟨_, rfl, hS8, ?_⟩
    simp only [Act.put, lsE, lsZ, lsS]
    refine tkY (S := S3) (i := 3) (oi := ⟨some 17, .binOp .neq 130 (.tmp 15) (.tmp 16) 130, _, _, _, none⟩) (v := .bool false) rfl (Or.inl ⟨rfl, fun w' _ => exec_neq_block rfl rfl rfl (hneq w')⟩) hS8 ?_
    simp only [Act.put, lsE, lsZ, lsS]
    refine wpAnyH_done (by kernel_rfl) ?_ _
    have hf38 := hfU3.trans hf8 (fun _ _ h => h)
    have hm8 := hf38.keep h1 (fun h => h)
    have hz8 := hf38.keep h3 (fun h => h)
    have hF8 : Fr (fun _ => False) w w8 := h4.trans hf38 (fun _ _ h => h)
    have hL8 := loadM hm8
    have hst8 := run_store2 (r := [.int .i64 id, .int .i64 r]) hz8 rfl rfl (by intro v hv; simp at hv; rcases hv with rfl | rfl <;> rfl)
    have hR8 := setRow_heap w8 (w.heap.size + 1) _ ([.int .i64 id, .int .i64 r] : List Value).toArray 196 (0, 0) hz8
    have hfE : Fr (fun b => b = w.heap.size + 1) w8 (w8.setRow (w.heap.size + 1) ([.int .i64 id, .int .i64 r] : List Value).toArray) := Fr.setRow (S := fun b => b = w.heap.size + 1) (Fr.refl _ _) _ (fun _ => rfl) _
    obtain ⟨W9, HW9⟩ : ∃ W9, Hid (W9 = w8.setRow (w.heap.size + 1) ([.int .i64 id, .int .i64 r] : List Value).toArray) := ⟨_, rfl⟩
    rw [← HW9.out] at hst8 hR8 hfE
    have hF9 : Fr (fun _ => False) w W9 := hF8.trans hfE (fun b hb h => by omega)
    have hrg8 : w8.rangeAt gm 0 [.int .i64 id, .int .i64 r] := fun j v hv => (cell_of_row _ _ (0 + j) _ _ _ hm8).trans (by simpa using hv)
    clear HW9 hfE hf38 hz8 hF8 h1 h2 h3 h4 hfU3 hf8 HE
    go_wp2_with (first | (refine wpList_load_mid rfl 196 _ rfl gm 0 ?_ _ _ hrg8 Tryz.underlying196 rfl ?_ ?_; rfl; exact move_size) | (refine wpList_store 196 (w' := W9) _ _ rfl rfl ?_ ?_; exact hst8))
    refine bodyPost_ret (results_row_tmp Tryz.results154 _ _ (w.heap.size + 1) 196 _ (0, 0) _ rfl hR8 Tryz.underlying196 rfl (by rw [move_size]; rfl)) rfl ⟨rfl, hF9⟩
end Go.Proofs.YteebjgfalllbjaaGreatDoor
namespace Go.Proofs.YteebjgfalllbjaaGreatDoor
open Go.RowKit
theorem move_box (w : World) (id r : Int) : ∃ WS, (Instr.storeAt 196 (.pointer (some ⟨w.heap.size, 0, none⟩)) (.agg #[.int .i64 id, .int .i64 r])).run Tryz.prog (w.alloc (.cells #[.int .i64 0, .int .i64 0] 196)) = .ok () WS ∧ WS.heap[w.heap.size]? = some (.cells #[.int .i64 id, .int .i64 r] 196 (0, 0)) ∧ Fr (fun _ => False) w WS := by
  have zr := heap_alloc_at w (.cells ([.int .i64 0, .int .i64 0] : List Value).toArray 196)
  exact ⟨_, run_store2 (r := [.int .i64 id, .int .i64 r]) zr rfl rfl (by intro v hv; simp at hv; rcases hv with rfl | rfl <;> rfl), setRow_heap _ _ _ _ _ _ zr, Fr.setRow (S := fun _ => False) ((Fr.refl _ _).alloc _) _ (fun h => by omega) _⟩
set_option maxRecDepth 100000 in
set_option maxHeartbeats 1000000 in
theorem rcReadM_ok {w : World} {R : Nat} {Q : World → Prop} {fv : Fn} {fa fc : Array Value} (id r : Nat) (hid : id ≤ 1000) (hr : r ≤ 2) (HT : ∀ w', Fr (fun _ => False) w w' → Calls Tryz.prog 76 #[.pointer (some ⟨R, 0, none⟩), .agg #[.int .i64 id, .int .i64 r]] w' fun e w'' => e = .returned (.bool true) ∧ Q w'') :
    Calls Tryz.prog 116 #[.agg (mvB id r).toArray, .func fv fa fc, .func (.func 76) #[.pointer (some ⟨R, 0, none⟩)] #[]] w fun e w' => e = .returned (.bool true) ∧ Q w' := by
  have hbl := bodyM_len id r
  have hll : (mvB id r).length = 128 := ldB_len 3 _ hbl 4 (by omega)
  have hk : (mvB id r)[0]? = some (.int .u8 3) := ldB_kind 3 _ hbl 0 (by omega)
  have HS := fun w' => readMove_ok w' id r hid hr
  obtain ⟨blk, HB⟩ : ∃ blk, Hid (blk = mvB id r) := ⟨_, rfl⟩
  rw [← HB.out] at hll hk HS ⊢
  have hrow := heap_alloc_at w (.cells blk.toArray 130)
  have hfa : Fr (fun _ => False) w (w.alloc (.cells blk.toArray 130)) := (Fr.refl _ _).alloc _
  have c0 : (w.alloc (.cells blk.toArray 130)).cell? ⟨w.heap.size, 0, none⟩ = some (.int .u8 3) := (cell_of_row _ _ 0 _ _ _ hrow).trans (by rw [List.getElem?_toArray]; exact hk)
  have hM : (w.alloc (.cells blk.toArray 130)).rangeAt w.heap.size 0 blk := fun j v hv => (cell_of_row _ _ (0 + j) _ _ _ hrow).trans (by simpa using hv)
  go_enter Tryz.func116, Tryz.ntmps116
  go_wp2_with (first | (refine wpList_load_mid rfl 130 _ rfl w.heap.size 0 ?_ _ _ hM Tryz.underlying130 rfl ?_ ?_; rfl; (rw [block_size, hll])))
  refine (HS _).mono ?_
  rintro e w2 ⟨rfl, hf2⟩
  have hF2 : Fr (fun _ => False) w w2 := hfa.trans hf2 (fun _ _ h => h)
  clear hrow hfa c0 hM hf2 HS
  obtain ⟨WS, hst, hrS, hfS⟩ := move_box w2 id r
  have hFS : Fr (fun _ => False) w WS := hF2.trans hfS (fun _ _ h => h)
  have hL := loadM hrS
  have HT' := HT WS hFS
  clear hF2 hfS HT
  go_wp2_with (first | (refine wpList_store 196 (w' := WS) _ _ rfl rfl ?_ ?_; exact hst) | (refine wpList_wanted ?_ (exec_load 196 (.tmp 7) rfl ⟨w2.heap.size, 0, none⟩ rfl hL) ?_; (first | rfl | kernel_rfl | simp [Region.wanted, yielded])))
  refine HT'.mono ?_
  rintro e w5 ⟨rfl, hQ⟩
  have HQ : Hid (Q w5) := hQ
  clear hQ HT' hL hst hrS hFS
  go_wp2
  go_ret
  exact ⟨rfl, HQ.out⟩
set_option maxRecDepth 100000 in
theorem Find11M_ok {w : World} {R X3 X4 : Nat} {Q : World → Prop} {fv : Fn} {fa fc : Array Value} (id r : Nat) (hid : id ≤ 1000) (hr : r ≤ 2)
    (h3 : w.heap[X3]? = some (.cells #[.func fv fa fc] 127 (0, 0))) (h4 : w.heap[X4]? = some (.cells #[.func (.func 76) #[.pointer (some ⟨R, 0, none⟩)] #[]] 162 (0, 0)))
    (HT : ∀ w', Fr (fun _ => False) w w' → Calls Tryz.prog 76 #[.pointer (some ⟨R, 0, none⟩), .agg #[.int .i64 id, .int .i64 r]] w' fun e w'' => e = .returned (.bool true) ∧ Q w'') :
    Calls Tryz.prog 115 #[.agg (mvB id r).toArray, .pointer (some ⟨X3, 0, none⟩), .pointer (some ⟨X4, 0, none⟩)] w fun e w' => e = .returned (.bool true) ∧ Q w' := by
  have hbl := bodyM_len id r
  have hll : (mvB id r).length = 128 := ldB_len 3 _ hbl 4 (by omega)
  have HR : ∀ W, Fr (fun _ => False) w W → Calls Tryz.prog 116 #[.agg (mvB id r).toArray, .func fv fa fc, .func (.func 76) #[.pointer (some ⟨R, 0, none⟩)] #[]] W fun e w' => e = .returned (.bool true) ∧ Q w' := fun W hf => rcReadM_ok id r hid hr (fun w' hf' => HT w' (hf.trans hf' (fun _ _ h => h)))
  obtain ⟨blk, HB⟩ : ∃ blk, Hid (blk = mvB id r) := ⟨_, rfl⟩
  rw [← HB.out] at hll HR ⊢
  have hrow := heap_alloc_at w (.cells blk.toArray 130)
  have hfa : Fr (fun _ => False) w (w.alloc (.cells blk.toArray 130)) := (Fr.refl _ _).alloc _
  have hM : (w.alloc (.cells blk.toArray 130)).rangeAt w.heap.size 0 blk := fun j v hv => (cell_of_row _ _ (0 + j) _ _ _ hrow).trans (by simpa using hv)
  have c3 : (w.alloc (.cells blk.toArray 130)).cell? ⟨X3, 0, none⟩ = some (.func fv fa fc) := (cell_of_row _ _ 0 _ _ _ (hfa.keep h3 (fun h => h))).trans rfl
  have c4 : (w.alloc (.cells blk.toArray 130)).cell? ⟨X4, 0, none⟩ = some (.func (.func 76) #[.pointer (some ⟨R, 0, none⟩)] #[]) := (cell_of_row _ _ 0 _ _ _ (hfa.keep h4 (fun h => h))).trans rfl
  have HR' := HR _ hfa
  clear HR HT
  go_enter Tryz.func115, Tryz.ntmps115
  go_wp2_with (first | (refine wpList_load_mid rfl 130 _ rfl w.heap.size 0 ?_ _ _ hM Tryz.underlying130 rfl ?_ ?_; rfl; (rw [block_size, hll])))
  refine HR'.mono ?_
  rintro e w5 ⟨rfl, hQ⟩
  have HQ : Hid (Q w5) := hQ
  clear hQ HR' hrow hfa hM c3 c4
  go_wp2
  go_ret
  exact ⟨rfl, HQ.out⟩
end Go.Proofs.YteebjgfalllbjaaGreatDoor
namespace Go.Proofs.YteebjgfalllbjaaGreatDoor
open Go.RowKit
section
variable {w : World} {A B n Pp : Nat} {calls writes : Int}
/-- Open of an empty journal. -/
theorem open0 (p : Int) (hp1 : 1 ≤ p) (hp2 : p ≤ 64) (hd : DiskAt w A B n (.slice none 0 0) calls writes) (hr : RowsAt w B n (emptyB n)) (h0 : 0 ≤ calls) (h1 : calls ≤ 500) (h2 : 0 ≤ writes) (h3 : writes ≤ 1000) (n8 : 8 ≤ n) (n4 : n ≤ 400) :
    Calls Tryz.prog 33 #[.pointer (some ⟨A, 0, none⟩), .int .i64 p, .pointer (some ⟨Pp, 0, none⟩)] w fun e w' => ∃ X F, e = .returned (.tuple #[.pointer (some ⟨X, 0, none⟩), .nilIface]) ∧ EN w' 1 X A B n 0 p (askV Pp) [] [] F ∧ FU w' F ∧ (∀ b, F b → w.heap.size ≤ b) ∧ Fr (fun b => b = A) w w' := by
  have hAl := lt_of_heap hd
  refine pOpen_any ?_
  refine (sOpen_ok (recs := []) p (by omega) (by omega) hd hr h0 (by omega) n8 n4 (layB_nil n).symm (by simp; omega) (fun r hr => absurd hr (by simp))
    (fun R _ W => RollAt W R w.heap.size ((n : Int) - 1) (.slice none 0 0) []) (fun R W hRw hroll hsz => ⟨hroll, World.ownsRow_nil _ _ _ _, by simp⟩)
    (fun R i W W' hRw hRP hf => hRP.fr hf (fun b hb h => ?_)) (fun R i r W hRw hr => by simp at hr)).mono ?_
  · rcases hb with rfl | hb | ⟨q, hq, _⟩
    · omega
    · cases hb
    · cases hq
  · rintro e w' ⟨X, rfl, V, R, J, cl, g1, g2, g3, g4, g5, g6, g7, g8, g9, g10⟩
    refine ⟨_, _, rfl, X, EngF X J R V (.slice none 0 0) [], rfl, ?_, ?_, ?_, g10⟩
    · refine ⟨⟨n8, n4, Int.le_refl _, recsOk_nil, by simp [needC], rfl, by simp⟩, J, R, V, w.heap.size, (n : Int) - 1, .slice none 0 0, [], false, cl, writes, ⟨by omega, by omega, h2, by omega⟩, ⟨g1, g5, ⟨g4.v, g4.d, g4.r, g4.j⟩⟩, rfl, by simp [needC], g10.size, fun b hb => hb⟩
    · exact es_fu (A := A) (B := B) (n := n) (calls := cl) (writes := writes) ⟨g1, g5, ⟨g4.v, g4.d, g4.r, g4.j⟩⟩
    · rintro b (rfl | rfl | rfl | rfl | hb | ⟨q, hq, _⟩)
      · omega
      · omega
      · omega
      · omega
      · cases hb
      · cases hq
end
end Go.Proofs.YteebjgfalllbjaaGreatDoor
