import Derived.Test.YteebjgfalllbjaaGreatDoorCVhVlVm
namespace Go.Proofs.YteebjgfalllbjaaGreatDoor
open Go.RowKit
theorem load6 {w : World} {g : Nat} {s : ST} {t : TypeId} (h : w.heap[g]? = some (.cells s.cs.toArray t (0, 0))) : (Instr.loadAt 138 (.pointer (some ⟨g, 0, none⟩))).run Tryz.prog w = .ok (.agg s.cs.toArray) w :=
 run_loadAt_mid w g 0 138 s.cs _ (fun j v hv => (cell_of_row w g (0 + j) _ _ _ h).trans (by simpa using hv)) Tryz.underlying138 rfl stand_size
set_option maxRecDepth 100000 in
set_option maxHeartbeats 4000000 in
theorem stMoved1 (w : World) (id step steps tries due reply : Int) (h1 : 1 ≤ step) (h2 : step ≤ 6) : Calls Tryz.prog 118 #[.agg (ST.cs ⟨id, 1, step, steps, tries, due⟩).toArray, .int .i64 reply] w fun e w' => MvQ (ST.running ⟨id, 1, step, steps, tries, due⟩ reply) w e w' := by
 have hlift : Tryz.prog.follows .mixedOrders = true := by kernel_rfl
 have hrow : (((w.alloc (.cells (ST.cs ⟨id, 1, step, steps, tries, due⟩).toArray 138)).alloc (.cells ([.int .i64 0, .int .i64 0, .int .i64 0, .int .i64 0, .int .i64 0, .int .i64 0] : List Value).toArray 138))).heap[w.heap.size]? = some (.cells (ST.cs ⟨id, 1, step, steps, tries, due⟩).toArray 138 (0, 0)) := by
  rw [heap_alloc_lt _ _ _ (by simp)]; exact heap_alloc_at _ _
 have hrow1 : (((w.alloc (.cells (ST.cs ⟨id, 1, step, steps, tries, due⟩).toArray 138)).alloc (.cells ([.int .i64 0, .int .i64 0, .int .i64 0, .int .i64 0, .int .i64 0, .int .i64 0] : List Value).toArray 138))).heap[w.heap.size + 1]? = some (.cells ([.int .i64 0, .int .i64 0, .int .i64 0, .int .i64 0, .int .i64 0, .int .i64 0] : List Value).toArray 138 (0, 0)) := heap_alloc2_new w _ _
 have hfa : Fr (fun _ => False) w (((w.alloc (.cells (ST.cs ⟨id, 1, step, steps, tries, due⟩).toArray 138)).alloc (.cells ([.int .i64 0, .int .i64 0, .int .i64 0, .int .i64 0, .int .i64 0, .int .i64 0] : List Value).toArray 138))) := ((Fr.refl _ _).alloc _).alloc _
 go_enter Tryz.func118, Tryz.ntmps118
 go_wp2_with fail
 obtain ⟨W, HW⟩ : ∃ W, Hid (W = ((w.alloc (.cells (ST.cs ⟨id, 1, step, steps, tries, due⟩).toArray 138)).alloc (.cells ([.int .i64 0, .int .i64 0, .int .i64 0, .int .i64 0, .int .i64 0, .int .i64 0] : List Value).toArray 138)).drew) := ⟨_, rfl⟩
 have hfW : Fr (fun _ => False) ((w.alloc (.cells (ST.cs ⟨id, 1, step, steps, tries, due⟩).toArray 138)).alloc (.cells ([.int .i64 0, .int .i64 0, .int .i64 0, .int .i64 0, .int .i64 0, .int .i64 0] : List Value).toArray 138)) W := by rw [HW.out]; exact (Fr.refl _ _).drew
 let S : World → Prop := fun w' => w'.heap[w.heap.size]? = some (.cells (ST.cs ⟨id, 1, step, steps, tries, due⟩).toArray 138 (0, 0))
 have hS : S W := hfW.keep hrow (fun h => h)
 refine wp_region_held (S := S) hlift ?_
 change wpAnyH _ _ _ _ S _ _ _ (World.drew _)
 rw [← HW.out]
 clear HW
 have hz := hfW.keep hrow1 (fun h => h)
 refine tkE (S := S) (i := 1) (oi := ⟨some 7, .fieldAddr 138 (.tmp 2) 1, _, _, _, none⟩) (v := .pointer (some ⟨w.heap.size, 1, none⟩)) rfl hS ?_
 simp only [Act.put, lsE, lsZ, lsS]
 refine tkY (S := S) (i := 2) (oi := ⟨some 8, .load 3 (.tmp 7), _, _, _, none⟩) (v := .int .i64 1) rfl (Or.inl ⟨rfl, fun w' hs => exec_load 3 (.tmp 7) rfl ⟨w.heap.size, 1, none⟩ rfl (run_loadAt_one ((cell_of_row _ _ 1 _ _ _ hs).trans rfl) Tryz.underlying3 rfl)⟩) hS ?_
 simp only [Act.put, lsE, lsZ, lsS]
 refine tkY (S := S) (i := 4) (oi := ⟨some 10, .load 138 (.tmp 2), _, _, _, none⟩) (v := .agg (ST.cs ⟨id, 1, step, steps, tries, due⟩).toArray) rfl (Or.inl ⟨rfl, fun w' hs => exec_load 138 (.tmp 2) rfl ⟨w.heap.size, 0, none⟩ rfl (load6 hs)⟩) hS ?_
 simp only [Act.put, lsE, lsZ, lsS]
 refine tkE (S := S) (i := 5) (oi := ⟨some 11, .move (.tmp 1), _, _, _, none⟩) (v := .int .i64 reply) rfl hS ?_
 simp only [Act.put, lsE, lsZ, lsS]
 refine wpAnyH_all (rs := [0]) (by kernel_rfl) (by simp) ?_
 intro i0 hi0
 obtain rfl : i0 = 0 := by simpa using hi0
 refine wpOp_call (o := ⟨some 6, .call { callee := .value (.func 156), args := #[], argTypes := _ }, _, _, _, none⟩) (f := 156) (args := #[]) rfl rfl (by kernel_rfl) ?_
 refine (rlMoves_ok W).mono ?_
 rintro e w2 ⟨rfl, hf2⟩
 have hS2 : S w2 := hf2.keep hS (fun h => h)
 have hz2 := hf2.keep hz (fun h => h)
 refine ⟨_, rfl, hS2, ?_⟩
 simp only [Act.put, lsE, lsZ, lsS]
 refine tkE (S := S) (i := 3) (oi := ⟨some 9, .index 253 (.tmp 6) (.tmp 8), _, _, _, none⟩) (v := .func (.func 167) #[] #[]) rfl hS2 ?_
 simp only [Act.put, lsE, lsZ, lsS]
 refine wpAnyH_all (rs := [6]) (by kernel_rfl) (by simp) ?_
 intro i6 hi6
 obtain rfl : i6 = 6 := by simpa using hi6
 refine wpOp_call (o := ⟨some 12, .call { callee := .value (.tmp 9), args := #[.tmp 10, .tmp 11], argTypes := _ }, _, _, _, none⟩) (f := 167) (args := #[.agg (ST.cs ⟨id, 1, step, steps, tries, due⟩).toArray, .int .i64 reply]) rfl rfl (by kernel_rfl) ?_
 refine (stRun_ok w2 ⟨id, 1, step, steps, tries, due⟩ reply h1 h2).mono ?_
 rintro e w3 ⟨rfl, hf3⟩
 have hS3 : S w3 := hf3.keep hS2 (fun h => h)
 have hz3 := hf3.keep hz2 (fun h => h)
 refine ⟨_, rfl, hS3, ?_⟩
 simp only [Act.put, lsE, lsZ, lsS]
 refine tkE (S := S) (i := 7) (oi := ⟨some 13, .extract (.tmp 12) 0, _, _, _, none⟩) (v := .agg (ST.running ⟨id, 1, step, steps, tries, due⟩ reply).1.cs.toArray) rfl hS3 ?_
 simp only [Act.put, lsE, lsZ, lsS]
 refine tkE (S := S) (i := 8) (oi := ⟨some 14, .extract (.tmp 12) 1, _, _, _, none⟩) (v := .bool (ST.running ⟨id, 1, step, steps, tries, due⟩ reply).2) rfl hS3 ?_
 simp only [Act.put, lsE, lsZ, lsS]
 refine wpAnyH_all (rs := [9]) (by kernel_rfl) (by simp) ?_
 intro i9 hi9
 obtain rfl : i9 = 9 := by simpa using hi9
 have hst := run_store6 (ty := 138) hz3 rfl (ST.len (ST.running ⟨id, 1, step, steps, tries, due⟩ reply).1) (ST.one _) stand_size
 have hRE := setRow_heap w3 (w.heap.size + 1) _ (ST.running ⟨id, 1, step, steps, tries, due⟩ reply).1.cs.toArray 138 (0, 0) hz3
 have hFE : Fr (fun _ => False) w (w3.setRow (w.heap.size + 1) (ST.running ⟨id, 1, step, steps, tries, due⟩ reply).1.cs.toArray) := ((((hfa.trans hfW (fun _ _ h => h)).trans hf2 (fun _ _ h => h)).trans hf3 (fun _ _ h => h))).setRow _ (fun h => by omega) _
 have hR0 : (w3.setRow (w.heap.size + 1) (ST.running ⟨id, 1, step, steps, tries, due⟩ reply).1.cs.toArray).heap[w.heap.size]? = some (.cells (ST.cs ⟨id, 1, step, steps, tries, due⟩).toArray 138 (0, 0)) := (Fr.setRow (S := fun b => b = w.heap.size + 1) (Fr.refl _ w3) (w.heap.size + 1) (fun _ => rfl) _).keep hS3 (by omega)
 obtain ⟨WE, HWE⟩ : ∃ WE, Hid (WE = w3.setRow (w.heap.size + 1) (ST.running ⟨id, 1, step, steps, tries, due⟩ reply).1.cs.toArray) := ⟨_, rfl⟩
 rw [← HWE.out] at hst hRE hFE hR0
 refine wpOp_skip (o := ⟨none, .store 138 (.tmp 4) (.tmp 13), _, _, _, none⟩) (w' := WE) rfl rfl (exec_store 138 _ _ rfl ⟨w.heap.size + 1, 0, none⟩ _ rfl rfl hst) ?_
 refine ⟨hR0, ?_⟩
 simp only [Act.put]
 refine tkE (S := S) (i := 10) (oi := ⟨some 5, .assign (.tmp 14), _, _, _, none⟩) (v := .bool (ST.running ⟨id, 1, step, steps, tries, due⟩ reply).2) rfl hR0 ?_
 simp only [Act.put, lsE, lsZ, lsS]
 refine wpAnyH_done (by kernel_rfl) ?_ _
 go_wp2
 exact bodyPost_ret (results_row_tmp Tryz.results118 _ _ (w.heap.size + 1) 138 _ (0, 0) _ rfl hRE Tryz.underlying138 rfl stand_size) rfl ⟨rfl, hFE⟩
set_option maxRecDepth 100000 in
set_option maxHeartbeats 4000000 in
theorem stMoved2 (w : World) (id step steps tries due reply : Int) (h1 : 1 ≤ step) (h2 : step ≤ 6) : Calls Tryz.prog 118 #[.agg (ST.cs ⟨id, 2, step, steps, tries, due⟩).toArray, .int .i64 reply] w fun e w' => MvQ (ST.undoing ⟨id, 2, step, steps, tries, due⟩ reply) w e w' := by
 have hlift : Tryz.prog.follows .mixedOrders = true := by kernel_rfl
 have hrow : (((w.alloc (.cells (ST.cs ⟨id, 2, step, steps, tries, due⟩).toArray 138)).alloc (.cells ([.int .i64 0, .int .i64 0, .int .i64 0, .int .i64 0, .int .i64 0, .int .i64 0] : List Value).toArray 138))).heap[w.heap.size]? = some (.cells (ST.cs ⟨id, 2, step, steps, tries, due⟩).toArray 138 (0, 0)) := by
  rw [heap_alloc_lt _ _ _ (by simp)]; exact heap_alloc_at _ _
 have hrow1 : (((w.alloc (.cells (ST.cs ⟨id, 2, step, steps, tries, due⟩).toArray 138)).alloc (.cells ([.int .i64 0, .int .i64 0, .int .i64 0, .int .i64 0, .int .i64 0, .int .i64 0] : List Value).toArray 138))).heap[w.heap.size + 1]? = some (.cells ([.int .i64 0, .int .i64 0, .int .i64 0, .int .i64 0, .int .i64 0, .int .i64 0] : List Value).toArray 138 (0, 0)) := heap_alloc2_new w _ _
 have hfa : Fr (fun _ => False) w (((w.alloc (.cells (ST.cs ⟨id, 2, step, steps, tries, due⟩).toArray 138)).alloc (.cells ([.int .i64 0, .int .i64 0, .int .i64 0, .int .i64 0, .int .i64 0, .int .i64 0] : List Value).toArray 138))) := ((Fr.refl _ _).alloc _).alloc _
 go_enter Tryz.func118, Tryz.ntmps118
 go_wp2_with fail
 obtain ⟨W, HW⟩ : ∃ W, Hid (W = ((w.alloc (.cells (ST.cs ⟨id, 2, step, steps, tries, due⟩).toArray 138)).alloc (.cells ([.int .i64 0, .int .i64 0, .int .i64 0, .int .i64 0, .int .i64 0, .int .i64 0] : List Value).toArray 138)).drew) := ⟨_, rfl⟩
 have hfW : Fr (fun _ => False) ((w.alloc (.cells (ST.cs ⟨id, 2, step, steps, tries, due⟩).toArray 138)).alloc (.cells ([.int .i64 0, .int .i64 0, .int .i64 0, .int .i64 0, .int .i64 0, .int .i64 0] : List Value).toArray 138)) W := by rw [HW.out]; exact (Fr.refl _ _).drew
 let S : World → Prop := fun w' => w'.heap[w.heap.size]? = some (.cells (ST.cs ⟨id, 2, step, steps, tries, due⟩).toArray 138 (0, 0))
 have hS : S W := hfW.keep hrow (fun h => h)
 refine wp_region_held (S := S) hlift ?_
 change wpAnyH _ _ _ _ S _ _ _ (World.drew _)
 rw [← HW.out]
 clear HW
 have hz := hfW.keep hrow1 (fun h => h)
 refine tkE (S := S) (i := 1) (oi := ⟨some 7, .fieldAddr 138 (.tmp 2) 1, _, _, _, none⟩) (v := .pointer (some ⟨w.heap.size, 1, none⟩)) rfl hS ?_
 simp only [Act.put, lsE, lsZ, lsS]
 refine tkY (S := S) (i := 2) (oi := ⟨some 8, .load 3 (.tmp 7), _, _, _, none⟩) (v := .int .i64 2) rfl (Or.inl ⟨rfl, fun w' hs => exec_load 3 (.tmp 7) rfl ⟨w.heap.size, 1, none⟩ rfl (run_loadAt_one ((cell_of_row _ _ 1 _ _ _ hs).trans rfl) Tryz.underlying3 rfl)⟩) hS ?_
 simp only [Act.put, lsE, lsZ, lsS]
 refine tkY (S := S) (i := 4) (oi := ⟨some 10, .load 138 (.tmp 2), _, _, _, none⟩) (v := .agg (ST.cs ⟨id, 2, step, steps, tries, due⟩).toArray) rfl (Or.inl ⟨rfl, fun w' hs => exec_load 138 (.tmp 2) rfl ⟨w.heap.size, 0, none⟩ rfl (load6 hs)⟩) hS ?_
 simp only [Act.put, lsE, lsZ, lsS]
 refine tkE (S := S) (i := 5) (oi := ⟨some 11, .move (.tmp 1), _, _, _, none⟩) (v := .int .i64 reply) rfl hS ?_
 simp only [Act.put, lsE, lsZ, lsS]
 refine wpAnyH_all (rs := [0]) (by kernel_rfl) (by simp) ?_
 intro i0 hi0
 obtain rfl : i0 = 0 := by simpa using hi0
 refine wpOp_call (o := ⟨some 6, .call { callee := .value (.func 156), args := #[], argTypes := _ }, _, _, _, none⟩) (f := 156) (args := #[]) rfl rfl (by kernel_rfl) ?_
 refine (rlMoves_ok W).mono ?_
 rintro e w2 ⟨rfl, hf2⟩
 have hS2 : S w2 := hf2.keep hS (fun h => h)
 have hz2 := hf2.keep hz (fun h => h)
 refine ⟨_, rfl, hS2, ?_⟩
 simp only [Act.put, lsE, lsZ, lsS]
 refine tkE (S := S) (i := 3) (oi := ⟨some 9, .index 253 (.tmp 6) (.tmp 8), _, _, _, none⟩) (v := .func (.func 168) #[] #[]) rfl hS2 ?_
 simp only [Act.put, lsE, lsZ, lsS]
 refine wpAnyH_all (rs := [6]) (by kernel_rfl) (by simp) ?_
 intro i6 hi6
 obtain rfl : i6 = 6 := by simpa using hi6
 refine wpOp_call (o := ⟨some 12, .call { callee := .value (.tmp 9), args := #[.tmp 10, .tmp 11], argTypes := _ }, _, _, _, none⟩) (f := 168) (args := #[.agg (ST.cs ⟨id, 2, step, steps, tries, due⟩).toArray, .int .i64 reply]) rfl rfl (by kernel_rfl) ?_
 refine (stUndo_ok w2 ⟨id, 2, step, steps, tries, due⟩ reply h1 h2).mono ?_
 rintro e w3 ⟨rfl, hf3⟩
 have hS3 : S w3 := hf3.keep hS2 (fun h => h)
 have hz3 := hf3.keep hz2 (fun h => h)
 refine ⟨_, rfl, hS3, ?_⟩
 simp only [Act.put, lsE, lsZ, lsS]
 refine tkE (S := S) (i := 7) (oi := ⟨some 13, .extract (.tmp 12) 0, _, _, _, none⟩) (v := .agg (ST.undoing ⟨id, 2, step, steps, tries, due⟩ reply).1.cs.toArray) rfl hS3 ?_
 simp only [Act.put, lsE, lsZ, lsS]
 refine tkE (S := S) (i := 8) (oi := ⟨some 14, .extract (.tmp 12) 1, _, _, _, none⟩) (v := .bool (ST.undoing ⟨id, 2, step, steps, tries, due⟩ reply).2) rfl hS3 ?_
 simp only [Act.put, lsE, lsZ, lsS]
 refine wpAnyH_all (rs := [9]) (by kernel_rfl) (by simp) ?_
 intro i9 hi9
 obtain rfl : i9 = 9 := by simpa using hi9
 have hst := run_store6 (ty := 138) hz3 rfl (ST.len (ST.undoing ⟨id, 2, step, steps, tries, due⟩ reply).1) (ST.one _) stand_size
 have hRE := setRow_heap w3 (w.heap.size + 1) _ (ST.undoing ⟨id, 2, step, steps, tries, due⟩ reply).1.cs.toArray 138 (0, 0) hz3
 have hFE : Fr (fun _ => False) w (w3.setRow (w.heap.size + 1) (ST.undoing ⟨id, 2, step, steps, tries, due⟩ reply).1.cs.toArray) := ((((hfa.trans hfW (fun _ _ h => h)).trans hf2 (fun _ _ h => h)).trans hf3 (fun _ _ h => h))).setRow _ (fun h => by omega) _
 have hR0 : (w3.setRow (w.heap.size + 1) (ST.undoing ⟨id, 2, step, steps, tries, due⟩ reply).1.cs.toArray).heap[w.heap.size]? = some (.cells (ST.cs ⟨id, 2, step, steps, tries, due⟩).toArray 138 (0, 0)) := (Fr.setRow (S := fun b => b = w.heap.size + 1) (Fr.refl _ w3) (w.heap.size + 1) (fun _ => rfl) _).keep hS3 (by omega)
 obtain ⟨WE, HWE⟩ : ∃ WE, Hid (WE = w3.setRow (w.heap.size + 1) (ST.undoing ⟨id, 2, step, steps, tries, due⟩ reply).1.cs.toArray) := ⟨_, rfl⟩
 rw [← HWE.out] at hst hRE hFE hR0
 refine wpOp_skip (o := ⟨none, .store 138 (.tmp 4) (.tmp 13), _, _, _, none⟩) (w' := WE) rfl rfl (exec_store 138 _ _ rfl ⟨w.heap.size + 1, 0, none⟩ _ rfl rfl hst) ?_
 refine ⟨hR0, ?_⟩
 simp only [Act.put]
 refine tkE (S := S) (i := 10) (oi := ⟨some 5, .assign (.tmp 14), _, _, _, none⟩) (v := .bool (ST.undoing ⟨id, 2, step, steps, tries, due⟩ reply).2) rfl hR0 ?_
 simp only [Act.put, lsE, lsZ, lsS]
 refine wpAnyH_done (by kernel_rfl) ?_ _
 go_wp2
 exact bodyPost_ret (results_row_tmp Tryz.results118 _ _ (w.heap.size + 1) 138 _ (0, 0) _ rfl hRE Tryz.underlying138 rfl stand_size) rfl ⟨rfl, hFE⟩
set_option maxRecDepth 100000 in
set_option maxHeartbeats 4000000 in
theorem stMoved3 (w : World) (id step steps tries due reply : Int) : Calls Tryz.prog 118 #[.agg (ST.cs ⟨id, 3, step, steps, tries, due⟩).toArray, .int .i64 reply] w fun e w' => MvQ (((⟨id, 3, step, steps, tries, due⟩, false) : ST × Bool)) w e w' := by
 have hlift : Tryz.prog.follows .mixedOrders = true := by kernel_rfl
 have hrow : (((w.alloc (.cells (ST.cs ⟨id, 3, step, steps, tries, due⟩).toArray 138)).alloc (.cells ([.int .i64 0, .int .i64 0, .int .i64 0, .int .i64 0, .int .i64 0, .int .i64 0] : List Value).toArray 138))).heap[w.heap.size]? = some (.cells (ST.cs ⟨id, 3, step, steps, tries, due⟩).toArray 138 (0, 0)) := by
  rw [heap_alloc_lt _ _ _ (by simp)]; exact heap_alloc_at _ _
 have hrow1 : (((w.alloc (.cells (ST.cs ⟨id, 3, step, steps, tries, due⟩).toArray 138)).alloc (.cells ([.int .i64 0, .int .i64 0, .int .i64 0, .int .i64 0, .int .i64 0, .int .i64 0] : List Value).toArray 138))).heap[w.heap.size + 1]? = some (.cells ([.int .i64 0, .int .i64 0, .int .i64 0, .int .i64 0, .int .i64 0, .int .i64 0] : List Value).toArray 138 (0, 0)) := heap_alloc2_new w _ _
 have hfa : Fr (fun _ => False) w (((w.alloc (.cells (ST.cs ⟨id, 3, step, steps, tries, due⟩).toArray 138)).alloc (.cells ([.int .i64 0, .int .i64 0, .int .i64 0, .int .i64 0, .int .i64 0, .int .i64 0] : List Value).toArray 138))) := ((Fr.refl _ _).alloc _).alloc _
 go_enter Tryz.func118, Tryz.ntmps118
 go_wp2_with fail
 obtain ⟨W, HW⟩ : ∃ W, Hid (W = ((w.alloc (.cells (ST.cs ⟨id, 3, step, steps, tries, due⟩).toArray 138)).alloc (.cells ([.int .i64 0, .int .i64 0, .int .i64 0, .int .i64 0, .int .i64 0, .int .i64 0] : List Value).toArray 138)).drew) := ⟨_, rfl⟩
 have hfW : Fr (fun _ => False) ((w.alloc (.cells (ST.cs ⟨id, 3, step, steps, tries, due⟩).toArray 138)).alloc (.cells ([.int .i64 0, .int .i64 0, .int .i64 0, .int .i64 0, .int .i64 0, .int .i64 0] : List Value).toArray 138)) W := by rw [HW.out]; exact (Fr.refl _ _).drew
 let S : World → Prop := fun w' => w'.heap[w.heap.size]? = some (.cells (ST.cs ⟨id, 3, step, steps, tries, due⟩).toArray 138 (0, 0))
 have hS : S W := hfW.keep hrow (fun h => h)
 refine wp_region_held (S := S) hlift ?_
 change wpAnyH _ _ _ _ S _ _ _ (World.drew _)
 rw [← HW.out]
 clear HW
 have hz := hfW.keep hrow1 (fun h => h)
 refine tkE (S := S) (i := 1) (oi := ⟨some 7, .fieldAddr 138 (.tmp 2) 1, _, _, _, none⟩) (v := .pointer (some ⟨w.heap.size, 1, none⟩)) rfl hS ?_
 simp only [Act.put, lsE, lsZ, lsS]
 refine tkY (S := S) (i := 2) (oi := ⟨some 8, .load 3 (.tmp 7), _, _, _, none⟩) (v := .int .i64 3) rfl (Or.inl ⟨rfl, fun w' hs => exec_load 3 (.tmp 7) rfl ⟨w.heap.size, 1, none⟩ rfl (run_loadAt_one ((cell_of_row _ _ 1 _ _ _ hs).trans rfl) Tryz.underlying3 rfl)⟩) hS ?_
 simp only [Act.put, lsE, lsZ, lsS]
 refine tkY (S := S) (i := 4) (oi := ⟨some 10, .load 138 (.tmp 2), _, _, _, none⟩) (v := .agg (ST.cs ⟨id, 3, step, steps, tries, due⟩).toArray) rfl (Or.inl ⟨rfl, fun w' hs => exec_load 138 (.tmp 2) rfl ⟨w.heap.size, 0, none⟩ rfl (load6 hs)⟩) hS ?_
 simp only [Act.put, lsE, lsZ, lsS]
 refine tkE (S := S) (i := 5) (oi := ⟨some 11, .move (.tmp 1), _, _, _, none⟩) (v := .int .i64 reply) rfl hS ?_
 simp only [Act.put, lsE, lsZ, lsS]
 refine wpAnyH_all (rs := [0]) (by kernel_rfl) (by simp) ?_
 intro i0 hi0
 obtain rfl : i0 = 0 := by simpa using hi0
 refine wpOp_call (o := ⟨some 6, .call { callee := .value (.func 156), args := #[], argTypes := _ }, _, _, _, none⟩) (f := 156) (args := #[]) rfl rfl (by kernel_rfl) ?_
 refine (rlMoves_ok W).mono ?_
 rintro e w2 ⟨rfl, hf2⟩
 have hS2 : S w2 := hf2.keep hS (fun h => h)
 have hz2 := hf2.keep hz (fun h => h)
 refine ⟨_, rfl, hS2, ?_⟩
 simp only [Act.put, lsE, lsZ, lsS]
 refine tkE (S := S) (i := 3) (oi := ⟨some 9, .index 253 (.tmp 6) (.tmp 8), _, _, _, none⟩) (v := .func (.func 169) #[] #[]) rfl hS2 ?_
 simp only [Act.put, lsE, lsZ, lsS]
 refine wpAnyH_all (rs := [6]) (by kernel_rfl) (by simp) ?_
 intro i6 hi6
 obtain rfl : i6 = 6 := by simpa using hi6
 refine wpOp_call (o := ⟨some 12, .call { callee := .value (.tmp 9), args := #[.tmp 10, .tmp 11], argTypes := _ }, _, _, _, none⟩) (f := 169) (args := #[.agg (ST.cs ⟨id, 3, step, steps, tries, due⟩).toArray, .int .i64 reply]) rfl rfl (by kernel_rfl) ?_
 refine (stOver_ok w2 ⟨id, 3, step, steps, tries, due⟩ reply).mono ?_
 rintro e w3 ⟨rfl, hf3⟩
 have hS3 : S w3 := hf3.keep hS2 (fun h => h)
 have hz3 := hf3.keep hz2 (fun h => h)
 refine ⟨_, rfl, hS3, ?_⟩
 simp only [Act.put, lsE, lsZ, lsS]
 refine tkE (S := S) (i := 7) (oi := ⟨some 13, .extract (.tmp 12) 0, _, _, _, none⟩) (v := .agg (((⟨id, 3, step, steps, tries, due⟩, false) : ST × Bool)).1.cs.toArray) rfl hS3 ?_
 simp only [Act.put, lsE, lsZ, lsS]
 refine tkE (S := S) (i := 8) (oi := ⟨some 14, .extract (.tmp 12) 1, _, _, _, none⟩) (v := .bool (((⟨id, 3, step, steps, tries, due⟩, false) : ST × Bool)).2) rfl hS3 ?_
 simp only [Act.put, lsE, lsZ, lsS]
 refine wpAnyH_all (rs := [9]) (by kernel_rfl) (by simp) ?_
 intro i9 hi9
 obtain rfl : i9 = 9 := by simpa using hi9
 have hst := run_store6 (ty := 138) hz3 rfl (ST.len (((⟨id, 3, step, steps, tries, due⟩, false) : ST × Bool)).1) (ST.one _) stand_size
 have hRE := setRow_heap w3 (w.heap.size + 1) _ (((⟨id, 3, step, steps, tries, due⟩, false) : ST × Bool)).1.cs.toArray 138 (0, 0) hz3
 have hFE : Fr (fun _ => False) w (w3.setRow (w.heap.size + 1) (((⟨id, 3, step, steps, tries, due⟩, false) : ST × Bool)).1.cs.toArray) := ((((hfa.trans hfW (fun _ _ h => h)).trans hf2 (fun _ _ h => h)).trans hf3 (fun _ _ h => h))).setRow _ (fun h => by omega) _
 have hR0 : (w3.setRow (w.heap.size + 1) (((⟨id, 3, step, steps, tries, due⟩, false) : ST × Bool)).1.cs.toArray).heap[w.heap.size]? = some (.cells (ST.cs ⟨id, 3, step, steps, tries, due⟩).toArray 138 (0, 0)) := (Fr.setRow (S := fun b => b = w.heap.size + 1) (Fr.refl _ w3) (w.heap.size + 1) (fun _ => rfl) _).keep hS3 (by omega)
 obtain ⟨WE, HWE⟩ : ∃ WE, Hid (WE = w3.setRow (w.heap.size + 1) (((⟨id, 3, step, steps, tries, due⟩, false) : ST × Bool)).1.cs.toArray) := ⟨_, rfl⟩
 rw [← HWE.out] at hst hRE hFE hR0
 refine wpOp_skip (o := ⟨none, .store 138 (.tmp 4) (.tmp 13), _, _, _, none⟩) (w' := WE) rfl rfl (exec_store 138 _ _ rfl ⟨w.heap.size + 1, 0, none⟩ _ rfl rfl hst) ?_
 refine ⟨hR0, ?_⟩
 simp only [Act.put]
 refine tkE (S := S) (i := 10) (oi := ⟨some 5, .assign (.tmp 14), _, _, _, none⟩) (v := .bool (((⟨id, 3, step, steps, tries, due⟩, false) : ST × Bool)).2) rfl hR0 ?_
 simp only [Act.put, lsE, lsZ, lsS]
 refine wpAnyH_done (by kernel_rfl) ?_ _
 go_wp2
 exact bodyPost_ret (results_row_tmp Tryz.results118 _ _ (w.heap.size + 1) 138 _ (0, 0) _ rfl hRE Tryz.underlying138 rfl stand_size) rfl ⟨rfl, hFE⟩
set_option maxRecDepth 100000 in
set_option maxHeartbeats 4000000 in
theorem stMoved4 (w : World) (id step steps tries due reply : Int) : Calls Tryz.prog 118 #[.agg (ST.cs ⟨id, 4, step, steps, tries, due⟩).toArray, .int .i64 reply] w fun e w' => MvQ (((⟨id, 4, step, steps, tries, due⟩, false) : ST × Bool)) w e w' := by
 have hlift : Tryz.prog.follows .mixedOrders = true := by kernel_rfl
 have hrow : (((w.alloc (.cells (ST.cs ⟨id, 4, step, steps, tries, due⟩).toArray 138)).alloc (.cells ([.int .i64 0, .int .i64 0, .int .i64 0, .int .i64 0, .int .i64 0, .int .i64 0] : List Value).toArray 138))).heap[w.heap.size]? = some (.cells (ST.cs ⟨id, 4, step, steps, tries, due⟩).toArray 138 (0, 0)) := by
  rw [heap_alloc_lt _ _ _ (by simp)]; exact heap_alloc_at _ _
 have hrow1 : (((w.alloc (.cells (ST.cs ⟨id, 4, step, steps, tries, due⟩).toArray 138)).alloc (.cells ([.int .i64 0, .int .i64 0, .int .i64 0, .int .i64 0, .int .i64 0, .int .i64 0] : List Value).toArray 138))).heap[w.heap.size + 1]? = some (.cells ([.int .i64 0, .int .i64 0, .int .i64 0, .int .i64 0, .int .i64 0, .int .i64 0] : List Value).toArray 138 (0, 0)) := heap_alloc2_new w _ _
 have hfa : Fr (fun _ => False) w (((w.alloc (.cells (ST.cs ⟨id, 4, step, steps, tries, due⟩).toArray 138)).alloc (.cells ([.int .i64 0, .int .i64 0, .int .i64 0, .int .i64 0, .int .i64 0, .int .i64 0] : List Value).toArray 138))) := ((Fr.refl _ _).alloc _).alloc _
 go_enter Tryz.func118, Tryz.ntmps118
 go_wp2_with fail
 obtain ⟨W, HW⟩ : ∃ W, Hid (W = ((w.alloc (.cells (ST.cs ⟨id, 4, step, steps, tries, due⟩).toArray 138)).alloc (.cells ([.int .i64 0, .int .i64 0, .int .i64 0, .int .i64 0, .int .i64 0, .int .i64 0] : List Value).toArray 138)).drew) := ⟨_, rfl⟩
 have hfW : Fr (fun _ => False) ((w.alloc (.cells (ST.cs ⟨id, 4, step, steps, tries, due⟩).toArray 138)).alloc (.cells ([.int .i64 0, .int .i64 0, .int .i64 0, .int .i64 0, .int .i64 0, .int .i64 0] : List Value).toArray 138)) W := by rw [HW.out]; exact (Fr.refl _ _).drew
 let S : World → Prop := fun w' => w'.heap[w.heap.size]? = some (.cells (ST.cs ⟨id, 4, step, steps, tries, due⟩).toArray 138 (0, 0))
 have hS : S W := hfW.keep hrow (fun h => h)
 refine wp_region_held (S := S) hlift ?_
 change wpAnyH _ _ _ _ S _ _ _ (World.drew _)
 rw [← HW.out]
 clear HW
 have hz := hfW.keep hrow1 (fun h => h)
 refine tkE (S := S) (i := 1) (oi := ⟨some 7, .fieldAddr 138 (.tmp 2) 1, _, _, _, none⟩) (v := .pointer (some ⟨w.heap.size, 1, none⟩)) rfl hS ?_
 simp only [Act.put, lsE, lsZ, lsS]
 refine tkY (S := S) (i := 2) (oi := ⟨some 8, .load 3 (.tmp 7), _, _, _, none⟩) (v := .int .i64 4) rfl (Or.inl ⟨rfl, fun w' hs => exec_load 3 (.tmp 7) rfl ⟨w.heap.size, 1, none⟩ rfl (run_loadAt_one ((cell_of_row _ _ 1 _ _ _ hs).trans rfl) Tryz.underlying3 rfl)⟩) hS ?_
 simp only [Act.put, lsE, lsZ, lsS]
 refine tkY (S := S) (i := 4) (oi := ⟨some 10, .load 138 (.tmp 2), _, _, _, none⟩) (v := .agg (ST.cs ⟨id, 4, step, steps, tries, due⟩).toArray) rfl (Or.inl ⟨rfl, fun w' hs => exec_load 138 (.tmp 2) rfl ⟨w.heap.size, 0, none⟩ rfl (load6 hs)⟩) hS ?_
 simp only [Act.put, lsE, lsZ, lsS]
 refine tkE (S := S) (i := 5) (oi := ⟨some 11, .move (.tmp 1), _, _, _, none⟩) (v := .int .i64 reply) rfl hS ?_
 simp only [Act.put, lsE, lsZ, lsS]
 refine wpAnyH_all (rs := [0]) (by kernel_rfl) (by simp) ?_
 intro i0 hi0
 obtain rfl : i0 = 0 := by simpa using hi0
 refine wpOp_call (o := ⟨some 6, .call { callee := .value (.func 156), args := #[], argTypes := _ }, _, _, _, none⟩) (f := 156) (args := #[]) rfl rfl (by kernel_rfl) ?_
 refine (rlMoves_ok W).mono ?_
 rintro e w2 ⟨rfl, hf2⟩
 have hS2 : S w2 := hf2.keep hS (fun h => h)
 have hz2 := hf2.keep hz (fun h => h)
 refine ⟨_, rfl, hS2, ?_⟩
 simp only [Act.put, lsE, lsZ, lsS]
 refine tkE (S := S) (i := 3) (oi := ⟨some 9, .index 253 (.tmp 6) (.tmp 8), _, _, _, none⟩) (v := .func (.func 169) #[] #[]) rfl hS2 ?_
 simp only [Act.put, lsE, lsZ, lsS]
 refine wpAnyH_all (rs := [6]) (by kernel_rfl) (by simp) ?_
 intro i6 hi6
 obtain rfl : i6 = 6 := by simpa using hi6
 refine wpOp_call (o := ⟨some 12, .call { callee := .value (.tmp 9), args := #[.tmp 10, .tmp 11], argTypes := _ }, _, _, _, none⟩) (f := 169) (args := #[.agg (ST.cs ⟨id, 4, step, steps, tries, due⟩).toArray, .int .i64 reply]) rfl rfl (by kernel_rfl) ?_
 refine (stOver_ok w2 ⟨id, 4, step, steps, tries, due⟩ reply).mono ?_
 rintro e w3 ⟨rfl, hf3⟩
 have hS3 : S w3 := hf3.keep hS2 (fun h => h)
 have hz3 := hf3.keep hz2 (fun h => h)
 refine ⟨_, rfl, hS3, ?_⟩
 simp only [Act.put, lsE, lsZ, lsS]
 refine tkE (S := S) (i := 7) (oi := ⟨some 13, .extract (.tmp 12) 0, _, _, _, none⟩) (v := .agg (((⟨id, 4, step, steps, tries, due⟩, false) : ST × Bool)).1.cs.toArray) rfl hS3 ?_
 simp only [Act.put, lsE, lsZ, lsS]
 refine tkE (S := S) (i := 8) (oi := ⟨some 14, .extract (.tmp 12) 1, _, _, _, none⟩) (v := .bool (((⟨id, 4, step, steps, tries, due⟩, false) : ST × Bool)).2) rfl hS3 ?_
 simp only [Act.put, lsE, lsZ, lsS]
 refine wpAnyH_all (rs := [9]) (by kernel_rfl) (by simp) ?_
 intro i9 hi9
 obtain rfl : i9 = 9 := by simpa using hi9
 have hst := run_store6 (ty := 138) hz3 rfl (ST.len (((⟨id, 4, step, steps, tries, due⟩, false) : ST × Bool)).1) (ST.one _) stand_size
 have hRE := setRow_heap w3 (w.heap.size + 1) _ (((⟨id, 4, step, steps, tries, due⟩, false) : ST × Bool)).1.cs.toArray 138 (0, 0) hz3
 have hFE : Fr (fun _ => False) w (w3.setRow (w.heap.size + 1) (((⟨id, 4, step, steps, tries, due⟩, false) : ST × Bool)).1.cs.toArray) := ((((hfa.trans hfW (fun _ _ h => h)).trans hf2 (fun _ _ h => h)).trans hf3 (fun _ _ h => h))).setRow _ (fun h => by omega) _
 have hR0 : (w3.setRow (w.heap.size + 1) (((⟨id, 4, step, steps, tries, due⟩, false) : ST × Bool)).1.cs.toArray).heap[w.heap.size]? = some (.cells (ST.cs ⟨id, 4, step, steps, tries, due⟩).toArray 138 (0, 0)) := (Fr.setRow (S := fun b => b = w.heap.size + 1) (Fr.refl _ w3) (w.heap.size + 1) (fun _ => rfl) _).keep hS3 (by omega)
 obtain ⟨WE, HWE⟩ : ∃ WE, Hid (WE = w3.setRow (w.heap.size + 1) (((⟨id, 4, step, steps, tries, due⟩, false) : ST × Bool)).1.cs.toArray) := ⟨_, rfl⟩
 rw [← HWE.out] at hst hRE hFE hR0
 refine wpOp_skip (o := ⟨none, .store 138 (.tmp 4) (.tmp 13), _, _, _, none⟩) (w' := WE) rfl rfl (exec_store 138 _ _ rfl ⟨w.heap.size + 1, 0, none⟩ _ rfl rfl hst) ?_
 refine ⟨hR0, ?_⟩
 simp only [Act.put]
 refine tkE (S := S) (i := 10) (oi := ⟨some 5, .assign (.tmp 14), _, _, _, none⟩) (v := .bool (((⟨id, 4, step, steps, tries, due⟩, false) : ST × Bool)).2) rfl hR0 ?_
 simp only [Act.put, lsE, lsZ, lsS]
 refine wpAnyH_done (by kernel_rfl) ?_ _
 go_wp2
 exact bodyPost_ret (results_row_tmp Tryz.results118 _ _ (w.heap.size + 1) 138 _ (0, 0) _ rfl hRE Tryz.underlying138 rfl stand_size) rfl ⟨rfl, hFE⟩
theorem stMoved_ok (w : World) (s : ST) (reply : Int) (hs : s.state = 1 ∨ s.state = 2 ∨ s.state = 3 ∨ s.state = 4) (hp : s.state = 1 ∨ s.state = 2 → 1 ≤ s.step ∧ s.step ≤ 6) : Calls Tryz.prog 118 #[.agg s.cs.toArray, .int .i64 reply] w fun e w' => MvQ (s.moved reply) w e w' := by
 obtain ⟨id, state, step, steps, tries, due⟩ := s
 simp only at hs hp
 rcases hs with rfl | rfl | rfl | rfl
 ·have h := hp (.inl rfl)
  exact stMoved1 w id step steps tries due reply h.1 h.2
 ·have h := hp (.inr rfl)
  exact stMoved2 w id step steps tries due reply h.1 h.2
 ·exact stMoved3 w id step steps tries due reply
 ·exact stMoved4 w id step steps tries due reply
end Go.Proofs.YteebjgfalllbjaaGreatDoor
namespace Go.Proofs.YteebjgfalllbjaaGreatDoor
open Go.RowKit
def AS.asks (a : AS) : CL := ⟨a.id, a.S.2, decide (a.S.1 = 2), if a.S.1 = 2 then (a.st.getD (a.S.2 - 1).toNat none2).2 else (a.st.getD (a.S.2 - 1).toNat none2).1⟩
theorem scells_get (l : List SS) (k : Nat) (p : SS) (h : l[k]? = some p) : (scells l)[k * 2]? = some (.string p.1) ∧ (scells l)[k * 2 + 1]? = some (.string p.2) := by
 induction l generalizing k with
 | nil => simp at h
 | cons a l ih =>
  have e : scells (a :: l) = .string a.1 :: .string a.2 :: scells l := by simp [scells, stv]
  cases k with
  | zero =>
   have : a = p := by simpa using h
   subst this
   simp [e]
  | succ k =>
   have h' : l[k]? = some p := by simpa using h
   have := ih k h'
   rw [e, show (k + 1) * 2 = k * 2 + 1 + 1 by omega]
   simpa using this
theorem ent_step {a : AS} {k : Nat} {p : SS} (h6 : a.st.length ≤ 6) (h : a.st[k]? = some p) : (entC a)[2 + k * 2]? = some (.string p.1) ∧ (entC a)[2 + k * 2 + 1]? = some (.string p.2) := by
 have hk := (List.getElem?_eq_some_iff.1 h).1
 have h' : (six a.st)[k]? = some p := by rw [six, List.getElem?_append_left hk]; exact h
 have hl := sagaC_len a.id a.st.length _ (six_len _ h6)
 obtain ⟨e1, e2⟩ := scells_get _ k p h'
 have es : ∀ j, (sagaC a.id a.st.length (six a.st))[2 + j]? = (scells (six a.st))[j]? := fun j => by rw [sagaC, show 2 + j = j + 1 + 1 by omega]; simp
 refine ⟨?_, ?_⟩
 ·rw [entC, List.getElem?_append_left (by omega), es, e1]
 ·rw [entC, List.getElem?_append_left (by omega), show 2 + k * 2 + 1 = 2 + (k * 2 + 1) by omega, es, e2]
theorem call_size : (Tryz.prog.info? 50).map (·.size) = some 4 := by kernel_rfl
theorem exec_alloc_call (ρ : Operand → Value) (o : Oper) (ho : o.op = .alloc 50) (w : World) : (execOp ρ o).run Tryz.prog w = .ok (.value (.pointer (some ⟨w.heap.size, 0, none⟩))) (w.alloc (.cells ([.int .i64 0, .int .i64 0, .bool false, .string ⟨#[]⟩] : List Value).toArray 50)) := by
 simp only [execOp, ho]
 kernel_rfl
theorem exec_sub1 {ρ : Operand → Value} {o : Oper} {x y : Operand} {k : Nat} (ho : o.op = .binOp .sub 3 x y 3) (hx : ρ x = .int .i64 ((k : Int) + 1)) (hy : ρ y = .int .i64 1) (hk : (k : Int) < 1000) (w : World) : (execOp ρ o).run Tryz.prog w = .ok (.value (.int .i64 k)) w := by
 have h := exec_sub ho hx hy (by omega) (by omega) w
 rwa [show (k : Int) + 1 - 1 = k by omega] at h
theorem exec_idx6 {ρ : Operand → Value} {o : Oper} {x y : Operand} {g k : Nat} (ho : o.op = .indexAddr 120 x y) (hx : ρ x = .pointer (some ⟨g, 2, none⟩)) (hy : ρ y = .int .i64 k) (hk : (k : Int) < 6) (w : World) : (execOp ρ o).run Tryz.prog w = .ok (.value (.pointer (some ⟨g, 2 + k * 2, none⟩))) w := by
 refine exec_indexAddr 120 x y ho hx hy ?_
 obtain h | h | h | h | h | h : k = 0 ∨ k = 1 ∨ k = 2 ∨ k = 3 ∨ k = 4 ∨ k = 5 := by omega
 all_goals subst h; kernel_rfl
theorem exec_alloc_step (ρ : Operand → Value) (o : Oper) (ho : o.op = .alloc 58) (w : World) : (execOp ρ o).run Tryz.prog w = .ok (.value (.pointer (some ⟨w.heap.size, 0, none⟩))) (w.alloc (.cells #[.string ⟨#[]⟩, .string ⟨#[]⟩] 58)) := by
 simp only [execOp, ho]
 kernel_rfl
theorem load2 {w : World} {g j : Nat} {a b : ByteArray} (h0 : w.cell? ⟨g, j, none⟩ = some (.string a)) (h1 : w.cell? ⟨g, j + 1, none⟩ = some (.string b)) : (Instr.loadAt 58 (.pointer (some ⟨g, j, none⟩))).run Tryz.prog w = .ok (.agg #[.string a, .string b]) w :=
 run_loadAt_mid w g j 58 [.string a, .string b] _ (fun i v hv => by
  match i, hv with
  | 0, hv => cases hv; exact h0
  | 1, hv => cases hv; exact h1
  | i + 2, hv => simp at hv) Tryz.underlying58 rfl (by kernel_rfl)
set_option maxRecDepth 100000 in
set_option maxHeartbeats 4000000 in
theorem eCall_ok {w : World} {g : Nat} {a : AS} {clock : Int} (hg : w.heap[g]? = some (.cells (entC a).toArray 140 (0, 0))) (ha : a.Ok clock) (ho : a.open) : Calls Tryz.prog 103 #[.pointer (some ⟨g, 0, none⟩)] w fun e w' => e = .returned (.agg a.asks.cs.toArray) ∧ Fr (fun _ => False) w w' := by
 obtain ⟨k, hk⟩ : ∃ k : Nat, a.S.2 = (k : Int) + 1 := ⟨(a.S.2 - 1).toNat, by have := ha.p ho; omega⟩
 have hp1 := ha.p ho
 have h6 := ha.l6
 obtain ⟨p, hp⟩ : ∃ p, a.st[k]? = some p := ⟨_, List.getElem?_eq_getElem (by omega)⟩
 have hd : a.st.getD (a.S.2 - 1).toNat none2 = p := by rw [show (a.S.2 - 1).toNat = k by omega, List.getD_eq_getElem?_getD, hp]; rfl
 obtain ⟨c0, c1⟩ := ent_step h6 hp
 have hl := sagaC_len a.id a.st.length _ (six_len _ h6)
 have cl : ∀ j v, (entC a)[j]? = some v → w.cell? ⟨g, j, none⟩ = some v := fun j v hv => (cell_of_row w g j _ _ _ hg).trans (by rw [List.getElem?_toArray]; exact hv)
 have ct : ∀ j, j < 6 → (entC a)[14 + j]? = a.told.cs[j]? := fun j _ => by rw [entC, List.getElem?_append_right (by omega), hl, Nat.add_sub_cancel_left]
 have k0 : w.cell? ⟨g, 2 + k * 2, none⟩ = some (.string p.1) := cl _ _ c0
 have k1 : w.cell? ⟨g, 2 + k * 2 + 1, none⟩ = some (.string p.2) := cl _ _ c1
 have k2 : w.cell? ⟨g, 0, none⟩ = some (.int .i64 a.id) := cl _ _ (by simp [entC, sagaC])
 have k3 : w.cell? ⟨g, 16, none⟩ = some (.int .i64 a.S.2) := cl 16 _ (ct 2 (by omega))
 have k4 : w.cell? ⟨g, 15, none⟩ = some (.int .i64 a.S.1) := cl 15 _ (ct 1 (by omega))
 have ea : a.asks = ⟨a.id, a.S.2, decide (a.S.1 = 2), if a.S.1 = 2 then p.2 else p.1⟩ := by unfold AS.asks; rw [hd]
 rw [ea]
 have hgl := lt_of_heap hg
 have hk6 : (k : Int) < 6 := by omega
 generalize a.S.1 = s1 at *
 generalize a.id = id at *
 obtain ⟨p1, p2⟩ := p
 rw [hk] at k3 ⊢
 have ek : wrap64 ((k : Int) + 1 - 1) = k := by rw [wrap64_id (by omega)]; omega
 have HS : ∀ w', Fr (fun _ => False) w w' → w'.cell? ⟨g, 2 + k * 2, none⟩ = some (.string p1) ∧ w'.cell? ⟨g, 2 + k * 2 + 1, none⟩ = some (.string p2) ∧ w'.cell? ⟨g, 0, none⟩ = some (.int .i64 id) ∧ w'.cell? ⟨g, 16, none⟩ = some (.int .i64 ((k : Int) + 1)) ∧ w'.cell? ⟨g, 15, none⟩ = some (.int .i64 s1) := fun w' hf => ⟨hf.cell k0 (fun h => h), hf.cell k1 (fun h => h), hf.cell k2 (fun h => h), hf.cell k3 (fun h => h), hf.cell k4 (fun h => h)⟩
 have hlift : Tryz.prog.follows .mixedOrders = true := by kernel_rfl
 have hfa : Fr (fun _ => False) w (w.alloc (.cells #[.int .i64 0, .int .i64 0, .bool false, .string ⟨#[]⟩] 50)) := (Fr.refl _ _).alloc _
 clear ea hd c0 c1 cl ct hl hg ha ho hp1 hp h6 hk
 go_enter Tryz.func103, Tryz.ntmps103
 go_wp2_with fail
 obtain ⟨W, HW⟩ : ∃ W, Hid (W = (w.alloc (.cells #[.int .i64 0, .int .i64 0, .bool false, .string ⟨#[]⟩] 50)).drew) := ⟨_, rfl⟩
 have hfW : Fr (fun _ => False) (w.alloc (.cells #[.int .i64 0, .int .i64 0, .bool false, .string ⟨#[]⟩] 50)) W := by rw [HW.out]; exact (Fr.refl _ _).drew
 have hZ := hfW.keep (heap_alloc_at w _) (fun h => h)
 let S : World → Prop := fun w' => w'.cell? ⟨g, 2 + k * 2, none⟩ = some (.string p1) ∧ w'.cell? ⟨g, 2 + k * 2 + 1, none⟩ = some (.string p2) ∧ w'.cell? ⟨g, 0, none⟩ = some (.int .i64 id) ∧ w'.cell? ⟨g, 16, none⟩ = some (.int .i64 ((k : Int) + 1)) ∧ w'.cell? ⟨g, 15, none⟩ = some (.int .i64 s1)
 have hS : S W := HS W (hfa.trans hfW (fun _ _ h => h))
 refine wp_region_held (S := S) hlift ?_
 change wpAnyH _ _ _ _ S _ _ _ (World.drew _)
 rw [← HW.out]
 clear HW
 refine tkE (S := S) (i := 0) (oi := ⟨some 5, .move (.tmp 0), _, _, _, none⟩) (v := .pointer (some ⟨g, 0, none⟩)) rfl hS ?_
 simp only [Act.put, lsE, lsZ, lsS]
 refine tkE (S := S) (i := 1) (oi := ⟨some 6, .move (.tmp 0), _, _, _, none⟩) (v := .pointer (some ⟨g, 0, none⟩)) rfl hS ?_
 simp only [Act.put, lsE, lsZ, lsS]
 refine tkE (S := S) (i := 2) (oi := ⟨some 7, .nilCheck (.tmp 6), _, _, _, none⟩) (v := .pointer (some ⟨g, 0, none⟩)) rfl hS ?_
 simp only [Act.put, lsE, lsZ, lsS]
 refine tkE (S := S) (i := 3) (oi := ⟨some 8, .fieldAddr 140 (.tmp 7) 1, _, _, _, none⟩) (v := .pointer (some ⟨g, 14, none⟩)) rfl hS ?_
 simp only [Act.put, lsE, lsZ, lsS]
 refine tkE (S := S) (i := 4) (oi := ⟨some 9, .fieldAddr 138 (.tmp 8) 2, _, _, _, none⟩) (v := .pointer (some ⟨g, 16, none⟩)) rfl hS ?_
 simp only [Act.put, lsE, lsZ, lsS]
 refine tkY (S := S) (i := 5) (oi := ⟨some 10, .load 3 (.tmp 9), _, _, _, none⟩) (v := .int .i64 ((k : Int) + 1)) rfl (Or.inl ⟨rfl, fun w' hs => exec_load 3 (.tmp 9) rfl ⟨g, 16, none⟩ rfl (run_loadAt_one hs.2.2.2.1 Tryz.underlying3 rfl)⟩) hS ?_
 simp only [Act.put, lsE, lsZ, lsS]
 refine tkY (S := S) (i := 6) (oi := ⟨some 11, .binOp .sub 3 (.tmp 10) (.const (.int .i64 1)) 3, _, _, _, none⟩) (v := .int .i64 k) rfl (Or.inl ⟨rfl, fun w' _ => exec_sub1 rfl rfl rfl (by omega) w'⟩) hS ?_
 simp only [Act.put, lsE, lsZ, lsS]
 refine tkE (S := S) (i := 7) (oi := ⟨some 12, .nilCheck (.tmp 5), _, _, _, none⟩) (v := .pointer (some ⟨g, 0, none⟩)) rfl hS ?_
 simp only [Act.put, lsE, lsZ, lsS]
 refine tkE (S := S) (i := 8) (oi := ⟨some 13, .fieldAddr 140 (.tmp 12) 0, _, _, _, none⟩) (v := .pointer (some ⟨g, 0, none⟩)) rfl hS ?_
 simp only [Act.put, lsE, lsZ, lsS]
 refine tkE (S := S) (i := 9) (oi := ⟨some 14, .fieldAddr 122 (.tmp 13) 2, _, _, _, none⟩) (v := .pointer (some ⟨g, 2, none⟩)) rfl hS ?_
 simp only [Act.put, lsE, lsZ, lsS]
 refine tkY (S := S) (i := 10) (oi := ⟨some 15, .indexAddr 120 (.tmp 14) (.tmp 11), _, _, _, none⟩) (v := .pointer (some ⟨g, 2 + k * 2, none⟩)) rfl (Or.inl ⟨rfl, fun w' _ => exec_idx6 rfl rfl rfl hk6 w'⟩) hS ?_
 simp only [Act.put, lsE, lsZ, lsS]
 refine tkY (S := S) (i := 11) (oi := ⟨some 16, .load 58 (.tmp 15), _, _, _, none⟩) (v := .agg #[.string p1, .string p2]) rfl (Or.inl ⟨rfl, fun w' hs => exec_load 58 (.tmp 15) rfl ⟨g, 2 + k * 2, none⟩ rfl (load2 hs.1 hs.2.1)⟩) hS ?_
 simp only [Act.put, lsE, lsZ, lsS]
 refine wpAnyH_all (rs := [12]) (by kernel_rfl) (by simp) ?_
 intro i12 hi12
 obtain rfl : i12 = 12 := by simpa using hi12
 have hSA : S (W.alloc (.cells #[.string ⟨#[]⟩, .string ⟨#[]⟩] 58)) := HS _ ((hfa.trans hfW (fun _ _ h => h)).alloc _)
 refine wpOp_value (o := ⟨some 3, .alloc 58, _, _, _, none⟩) (v := .pointer (some ⟨W.heap.size, 0, none⟩)) (w' := W.alloc (.cells #[.string ⟨#[]⟩, .string ⟨#[]⟩] 58)) rfl rfl (exec_alloc_step _ _ rfl _) ⟨hSA, ?_⟩
 simp only [Act.put, lsE, lsZ, lsS]
 refine wpAnyH_all (rs := [13]) (by kernel_rfl) (by simp) ?_
 intro i13 hi13
 obtain rfl : i13 = 13 := by simpa using hi13
 have hst := run_storeAt_row (P := Tryz.prog) (o := 0) (ty := 58) (vs := [.string p1, .string p2]) (cur := [.string ⟨#[]⟩, .string ⟨#[]⟩]) (heap_alloc_at W (.cells #[.string ⟨#[]⟩, .string ⟨#[]⟩] 58)) (by simp) (by intro v hv; simp at hv; rcases hv with rfl | rfl <;> rfl) (by kernel_rfl)
 rw [show splice ([.string ⟨#[]⟩, .string ⟨#[]⟩] : List Value) 0 [.string p1, .string p2] = [.string p1, .string p2] from rfl] at hst
 have hrB := setRow_heap _ W.heap.size _ [.string p1, .string p2].toArray 58 (0, 0) (heap_alloc_at W (.cells #[.string ⟨#[]⟩, .string ⟨#[]⟩] 58))
 have hFB : Fr (fun _ => False) W ((W.alloc (.cells #[.string ⟨#[]⟩, .string ⟨#[]⟩] 58)).setRow W.heap.size [.string p1, .string p2].toArray) := Fr.setRow (S := fun _ => False) ((Fr.refl _ _).alloc _) _ (fun h => by omega) _
 obtain ⟨WB, HWB⟩ : ∃ WB, Hid (WB = (W.alloc (.cells #[.string ⟨#[]⟩, .string ⟨#[]⟩] 58)).setRow W.heap.size [.string p1, .string p2].toArray) := ⟨_, rfl⟩
 rw [← HWB.out] at hst hrB hFB
 have hF0 : Fr (fun _ => False) w WB := (hfa.trans hfW (fun _ _ h => h)).trans hFB (fun _ _ h => h)
 have hSB : S WB := HS _ hF0
 refine wpOp_skip (o := ⟨none, .store 58 (.tmp 3) (.tmp 16), _, _, _, none⟩) (w' := WB) rfl rfl (exec_store 58 _ _ rfl ⟨W.heap.size, 0, none⟩ _ rfl rfl hst) ⟨hSB, ?_⟩
 simp only [Act.put]
 refine wpAnyH_done (by kernel_rfl) ?_ _
 obtain ⟨q0, q1, q2, q3, q4⟩ : WB.cell? ⟨g, 2 + k * 2, none⟩ = some (.string p1) ∧ WB.cell? ⟨g, 2 + k * 2 + 1, none⟩ = some (.string p2) ∧ WB.cell? ⟨g, 0, none⟩ = some (.int .i64 id) ∧ WB.cell? ⟨g, 16, none⟩ = some (.int .i64 ((k : Int) + 1)) ∧ WB.cell? ⟨g, 15, none⟩ = some (.int .i64 s1) := hSB
 have b0 : WB.cell? ⟨W.heap.size, 0, none⟩ = some (.string p1) := (cell_of_row _ _ 0 _ _ _ hrB).trans rfl
 have b1 : WB.cell? ⟨W.heap.size, 1, none⟩ = some (.string p2) := (cell_of_row _ _ 1 _ _ _ hrB).trans rfl
 have hZB := hFB.keep hZ (fun h => h)
 have HS2 : ∀ w', Fr (fun _ => False) WB w' → w'.cell? ⟨g, 2 + k * 2, none⟩ = some (.string p1) ∧ w'.cell? ⟨g, 2 + k * 2 + 1, none⟩ = some (.string p2) ∧ w'.cell? ⟨g, 0, none⟩ = some (.int .i64 id) ∧ w'.cell? ⟨g, 16, none⟩ = some (.int .i64 ((k : Int) + 1)) ∧ w'.cell? ⟨g, 15, none⟩ = some (.int .i64 s1) ∧ w'.cell? ⟨W.heap.size, 0, none⟩ = some (.string p1) := fun w' hf => ⟨hf.cell q0 (fun h => h), hf.cell q1 (fun h => h), hf.cell q2 (fun h => h), hf.cell q3 (fun h => h), hf.cell q4 (fun h => h), hf.cell b0 (fun h => h)⟩
 go_wp2_with fail
 clear HWB hst hrB hFB hSA hS hfW hfa hZ HS
 obtain ⟨W2, HW2⟩ : ∃ W2, Hid (W2 = WB.drew) := ⟨_, rfl⟩
 have hfW2 : Fr (fun _ => False) WB W2 := by rw [HW2.out]; exact (Fr.refl _ _).drew
 let S2 : World → Prop := fun w' => w'.cell? ⟨g, 2 + k * 2, none⟩ = some (.string p1) ∧ w'.cell? ⟨g, 2 + k * 2 + 1, none⟩ = some (.string p2) ∧ w'.cell? ⟨g, 0, none⟩ = some (.int .i64 id) ∧ w'.cell? ⟨g, 16, none⟩ = some (.int .i64 ((k : Int) + 1)) ∧ w'.cell? ⟨g, 15, none⟩ = some (.int .i64 s1) ∧ w'.cell? ⟨W.heap.size, 0, none⟩ = some (.string p1)
 have hS2 : S2 W2 := HS2 W2 hfW2
 refine wp_region_held (S := S2) hlift ?_
 change wpAnyH _ _ _ _ S2 _ _ _ (World.drew _)
 rw [← HW2.out]
 clear HW2
 refine tkE (S := S2) (i := 0) (oi := ⟨some 17, .move (.tmp 0), _, _, _, none⟩) (v := .pointer (some ⟨g, 0, none⟩)) rfl hS2 ?_
 simp only [Act.put, lsE, lsZ, lsS]
 refine tkE (S := S2) (i := 1) (oi := ⟨some 18, .nilCheck (.tmp 17), _, _, _, none⟩) (v := .pointer (some ⟨g, 0, none⟩)) rfl hS2 ?_
 simp only [Act.put, lsE, lsZ, lsS]
 refine tkE (S := S2) (i := 2) (oi := ⟨some 19, .fieldAddr 140 (.tmp 18) 0, _, _, _, none⟩) (v := .pointer (some ⟨g, 0, none⟩)) rfl hS2 ?_
 simp only [Act.put, lsE, lsZ, lsS]
 refine tkE (S := S2) (i := 3) (oi := ⟨some 20, .fieldAddr 122 (.tmp 19) 0, _, _, _, none⟩) (v := .pointer (some ⟨g, 0, none⟩)) rfl hS2 ?_
 simp only [Act.put, lsE, lsZ, lsS]
 refine tkY (S := S2) (i := 4) (oi := ⟨some 21, .load 3 (.tmp 20), _, _, _, none⟩) (v := .int .i64 id) rfl (Or.inl ⟨rfl, fun w' hs => exec_load 3 (.tmp 20) rfl ⟨g, 0, none⟩ rfl (run_loadAt_one hs.2.2.1 Tryz.underlying3 rfl)⟩) hS2 ?_
 simp only [Act.put, lsE, lsZ, lsS]
 refine tkE (S := S2) (i := 5) (oi := ⟨some 22, .move (.tmp 0), _, _, _, none⟩) (v := .pointer (some ⟨g, 0, none⟩)) rfl hS2 ?_
 simp only [Act.put, lsE, lsZ, lsS]
 refine tkE (S := S2) (i := 6) (oi := ⟨some 23, .nilCheck (.tmp 22), _, _, _, none⟩) (v := .pointer (some ⟨g, 0, none⟩)) rfl hS2 ?_
 simp only [Act.put, lsE, lsZ, lsS]
 refine tkE (S := S2) (i := 7) (oi := ⟨some 24, .fieldAddr 140 (.tmp 23) 1, _, _, _, none⟩) (v := .pointer (some ⟨g, 14, none⟩)) rfl hS2 ?_
 simp only [Act.put, lsE, lsZ, lsS]
 refine tkE (S := S2) (i := 8) (oi := ⟨some 25, .fieldAddr 138 (.tmp 24) 2, _, _, _, none⟩) (v := .pointer (some ⟨g, 16, none⟩)) rfl hS2 ?_
 simp only [Act.put, lsE, lsZ, lsS]
 refine tkY (S := S2) (i := 9) (oi := ⟨some 26, .load 3 (.tmp 25), _, _, _, none⟩) (v := .int .i64 ((k : Int) + 1)) rfl (Or.inl ⟨rfl, fun w' hs => exec_load 3 (.tmp 25) rfl ⟨g, 16, none⟩ rfl (run_loadAt_one hs.2.2.2.1 Tryz.underlying3 rfl)⟩) hS2 ?_
 simp only [Act.put, lsE, lsZ, lsS]
 refine tkE (S := S2) (i := 10) (oi := ⟨some 27, .fieldAddr 58 (.tmp 3) 0, _, _, _, none⟩) (v := .pointer (some ⟨W.heap.size, 0, none⟩)) rfl hS2 ?_
 simp only [Act.put, lsE, lsZ, lsS]
 refine tkY (S := S2) (i := 11) (oi := ⟨some 28, .load 9 (.tmp 27), _, _, _, none⟩) (v := .string p1) rfl (Or.inl ⟨rfl, fun w' hs => exec_load 9 (.tmp 27) rfl ⟨W.heap.size, 0, none⟩ rfl (run_loadAt_one hs.2.2.2.2.2 Tryz.underlying9 rfl)⟩) hS2 ?_
 simp only [Act.put, lsE, lsZ, lsS]
 refine tkE (S := S2) (i := 12) (oi := ⟨some 29, .build 50 #[(0, (.tmp 21)), (1, (.tmp 26)), (3, (.tmp 28))], _, _, _, none⟩) (v := .agg ([.int .i64 id, .int .i64 ((k : Int) + 1), .bool false, .string p1] : List Value).toArray) rfl hS2 ?_
 simp only [Act.put, lsE, lsZ, lsS]
 refine wpAnyH_all (rs := [13]) (by kernel_rfl) (by simp) ?_
 intro i13 hi13
 obtain rfl : i13 = 13 := by simpa using hi13
 have hF2 : Fr (fun _ => False) w W2 := hF0.trans hfW2 (fun _ _ h => h)
 have hSA2 : S2 (W2.alloc (.cells ([.int .i64 0, .int .i64 0, .bool false, .string ⟨#[]⟩] : List Value).toArray 50)) := HS2 _ (hfW2.alloc _)
 refine wpOp_value (o := ⟨some 4, .alloc 50, _, _, _, none⟩) (v := .pointer (some ⟨W2.heap.size, 0, none⟩)) (w' := W2.alloc (.cells ([.int .i64 0, .int .i64 0, .bool false, .string ⟨#[]⟩] : List Value).toArray 50)) rfl rfl (exec_alloc_call _ _ rfl _) ⟨hSA2, ?_⟩
 simp only [Act.put, lsE, lsZ, lsS]
 refine wpAnyH_all (rs := [14]) (by kernel_rfl) (by simp) ?_
 intro i14 hi14
 obtain rfl : i14 = 14 := by simpa using hi14
 have hst2 := run_storeAt_row (P := Tryz.prog) (o := 0) (ty := 50) (vs := [.int .i64 id, .int .i64 ((k : Int) + 1), .bool false, .string p1]) (cur := [.int .i64 0, .int .i64 0, .bool false, .string ⟨#[]⟩]) (heap_alloc_at W2 (.cells ([.int .i64 0, .int .i64 0, .bool false, .string ⟨#[]⟩] : List Value).toArray 50)) (by simp) (by intro v hv; simp at hv; rcases hv with rfl | rfl | rfl | rfl <;> rfl) (by kernel_rfl)
 rw [show splice ([.int .i64 0, .int .i64 0, .bool false, .string ⟨#[]⟩] : List Value) 0 [.int .i64 id, .int .i64 ((k : Int) + 1), .bool false, .string p1] = [.int .i64 id, .int .i64 ((k : Int) + 1), .bool false, .string p1] from rfl] at hst2
 have hrC := setRow_heap _ W2.heap.size _ ([.int .i64 id, .int .i64 ((k : Int) + 1), .bool false, .string p1] : List Value).toArray 50 (0, 0) (heap_alloc_at W2 (.cells ([.int .i64 0, .int .i64 0, .bool false, .string ⟨#[]⟩] : List Value).toArray 50))
 have hFC : Fr (fun _ => False) WB ((W2.alloc (.cells ([.int .i64 0, .int .i64 0, .bool false, .string ⟨#[]⟩] : List Value).toArray 50)).setRow W2.heap.size ([.int .i64 id, .int .i64 ((k : Int) + 1), .bool false, .string p1] : List Value).toArray) := Fr.setRow (S := fun _ => False) (hfW2.alloc _) _ (fun h => by have := hfW2.size; omega) _
 obtain ⟨WC, HWC⟩ : ∃ WC, Hid (WC = (W2.alloc (.cells ([.int .i64 0, .int .i64 0, .bool false, .string ⟨#[]⟩] : List Value).toArray 50)).setRow W2.heap.size ([.int .i64 id, .int .i64 ((k : Int) + 1), .bool false, .string p1] : List Value).toArray) := ⟨_, rfl⟩
 rw [← HWC.out] at hst2 hrC hFC
 have hFw : Fr (fun _ => False) w WC := hF0.trans hFC (fun _ _ h => h)
 have hSC : S2 WC := HS2 _ hFC
 refine wpOp_skip (o := ⟨none, .store 50 (.tmp 4) (.tmp 29), _, _, _, none⟩) (w' := WC) rfl rfl (exec_store 50 _ _ rfl ⟨W2.heap.size, 0, none⟩ _ rfl rfl hst2) ⟨hSC, ?_⟩
 simp only [Act.put]
 refine wpAnyH_done (by kernel_rfl) ?_ _
 have r4 : WC.cell? ⟨g, 15, none⟩ = some (.int .i64 s1) := hFC.cell q4 (fun h => h)
 have r1 : WC.cell? ⟨W.heap.size, 1, none⟩ = some (.string p2) := hFC.cell b1 (fun h => h)
 have hZC := hFC.keep hZB (fun h => h)
 have hWW : W.heap.size < W2.heap.size := by have := World.block_lt_of_cell? W2 ⟨W.heap.size, 1, none⟩ (hfW2.cell b1 (fun h => h)); exact this
 have hWs : w.heap.size < W2.heap.size := by have := lt_of_heap (hfW2.keep hZB (fun h => h)); omega
 clear HWC hst2 hSC hSA2 hS2 HS2 hfW2 q0 q1 q2 q3 q4 b0 b1 hZB hF0 hF2 hFC
 have z2 : WC.cell? ⟨W2.heap.size, 2, none⟩ = some (.bool false) := (cell_of_row _ _ 2 _ _ _ hrC).trans rfl
 have fz : ∀ j, WC.frozen? ⟨W2.heap.size, j, none⟩ = false := fun j => frozen_of_row _ _ j _ _ hrC
 have FIN : ∀ (WD : World) (c : CL), WD.heap[W2.heap.size]? = some (.cells c.cs.toArray 50 (0, 0)) → WD.heap[w.heap.size]? = WC.heap[w.heap.size]? → Fr (fun _ => False) w WD → ∃ WE, (Instr.storeAt 50 (.pointer (some ⟨w.heap.size, 0, none⟩)) (.agg c.cs.toArray)).run Tryz.prog WD = .ok () WE ∧ WE.heap[w.heap.size]? = some (.cells c.cs.toArray 50 (0, 0)) ∧ Fr (fun _ => False) w WE ∧ WD.rangeAt W2.heap.size 0 c.cs := by
  intro WD c h1 h2 h3
  rw [hZC] at h2
  have hs := run_storeAt_row (P := Tryz.prog) (o := 0) (ty := 50) (vs := c.cs) (cur := [.int .i64 0, .int .i64 0, .bool false, .string ⟨#[]⟩]) h2 (by simp [CL.cs]) (by intro v hv; simp [CL.cs] at hv; rcases hv with rfl | rfl | rfl | rfl <;> rfl) (by rw [call_size]; rfl)
  rw [show splice ([.int .i64 0, .int .i64 0, .bool false, .string ⟨#[]⟩] : List Value) 0 c.cs = c.cs from rfl] at hs
  exact ⟨_, hs, setRow_heap _ _ _ _ _ _ h2, h3.setRow _ (fun h => by omega) _, fun j v hv => (cell_of_row WD _ (0 + j) _ _ _ h1).trans (by simpa using hv)⟩
 by_cases h2 : s1 = 2
 ·subst h2
  go_wp2_with fail
  obtain ⟨W4, HW4⟩ : ∃ W4, Hid (W4 = WC.drew) := ⟨_, rfl⟩
  have hfW4 : Fr (fun _ => False) WC W4 := by rw [HW4.out]; exact (Fr.refl _ _).drew
  have hr4 := hfW4.keep hrC (fun h => h)
  have hz4 := hfW4.keep hZC (fun h => h)
  have hF4 := hFw.trans hfW4 (fun _ _ h => h)
  let S4 : World → Prop := fun w' => w'.cell? ⟨W.heap.size, 1, none⟩ = some (.string p2)
  have hS4 : S4 W4 := hfW4.cell r1 (fun h => h)
  refine wp_region_held (S := S4) hlift ?_
  change wpAnyH _ _ _ _ S4 _ _ _ (World.drew _)
  rw [← HW4.out]
  clear HW4
  refine tkE (S := S4) (i := 0) (oi := ⟨some 36, .fieldAddr 58 (.tmp 3) 1, _, _, _, none⟩) (v := .pointer (some ⟨W.heap.size, 1, none⟩)) rfl hS4 ?_
  simp only [Act.put, lsE, lsZ, lsS]
  refine tkY (S := S4) (i := 1) (oi := ⟨some 37, .load 9 (.tmp 36), _, _, _, none⟩) (v := .string p2) rfl (Or.inl ⟨rfl, fun w' hs => exec_load 9 (.tmp 36) rfl ⟨W.heap.size, 1, none⟩ rfl (run_loadAt_one hs Tryz.underlying9 rfl)⟩) hS4 ?_
  simp only [Act.put, lsE, lsZ, lsS]
  refine tkE (S := S4) (i := 2) (oi := ⟨some 38, .fieldAddr 50 (.tmp 4) 2, _, _, _, none⟩) (v := .pointer (some ⟨W2.heap.size, 2, none⟩)) rfl hS4 ?_
  simp only [Act.put, lsE, lsZ, lsS]
  refine wpAnyH_all (rs := [3]) (by kernel_rfl) (by simp) ?_
  intro i3 hi3
  obtain rfl : i3 = 3 := by simpa using hi3
  have hrD := heap_setCell_at W4 W2.heap.size 2 _ _ (.bool true) hr4
  have hzD : (W4.setCell ⟨W2.heap.size, 2, none⟩ (.bool true)).heap[w.heap.size]? = _ := (heap_setCell_ne W4 ⟨W2.heap.size, 2, none⟩ w.heap.size (.bool true) (by simp; omega)).trans hz4
  have hFD : Fr (fun _ => False) w (W4.setCell ⟨W2.heap.size, 2, none⟩ (.bool true)) := hF4.setCell _ (fun h => by simp at h; omega) _
  have hSD : S4 (W4.setCell ⟨W2.heap.size, 2, none⟩ (.bool true)) := (World.cell?_of_block (heap_setCell_ne W4 ⟨W2.heap.size, 2, none⟩ W.heap.size (.bool true) (by simp; omega))).trans hS4
  refine wpOp_skip (o := ⟨none, .store 4 (.tmp 38) (.const (.bool true)), _, _, _, none⟩) (w' := W4.setCell ⟨W2.heap.size, 2, none⟩ (.bool true)) rfl rfl (exec_store 4 _ _ rfl ⟨W2.heap.size, 2, none⟩ _ rfl rfl (run_storeAt_one ((cell_of_row _ _ 2 _ _ _ hr4).trans rfl) (frozen_of_row _ _ 2 _ _ hr4) (by kernel_rfl) rfl)) ⟨hSD, ?_⟩
  simp only [Act.put]
  refine tkE (S := S4) (i := 4) (oi := ⟨some 39, .fieldAddr 50 (.tmp 4) 3, _, _, _, none⟩) (v := .pointer (some ⟨W2.heap.size, 3, none⟩)) rfl hSD ?_
  simp only [Act.put, lsE, lsZ, lsS]
  refine wpAnyH_all (rs := [5]) (by kernel_rfl) (by simp) ?_
  intro i5 hi5
  obtain rfl : i5 = 5 := by simpa using hi5
  have hrE := heap_setCell_at _ W2.heap.size 3 _ _ (.string p2) hrD
  have hzE := (heap_setCell_ne (W4.setCell ⟨W2.heap.size, 2, none⟩ (.bool true)) ⟨W2.heap.size, 3, none⟩ w.heap.size (.string p2) (by simp; omega)).trans hzD
  have hFE' : Fr (fun _ => False) w ((W4.setCell ⟨W2.heap.size, 2, none⟩ (.bool true)).setCell ⟨W2.heap.size, 3, none⟩ (.string p2)) := hFD.setCell _ (fun h => by simp at h; omega) _
  have hSE : S4 ((W4.setCell ⟨W2.heap.size, 2, none⟩ (.bool true)).setCell ⟨W2.heap.size, 3, none⟩ (.string p2)) := (World.cell?_of_block (heap_setCell_ne (W4.setCell ⟨W2.heap.size, 2, none⟩ (.bool true)) ⟨W2.heap.size, 3, none⟩ W.heap.size (.string p2) (by simp; omega))).trans hSD
  refine wpOp_skip (o := ⟨none, .store 9 (.tmp 39) (.tmp 37), _, _, _, none⟩) (w' := (W4.setCell ⟨W2.heap.size, 2, none⟩ (.bool true)).setCell ⟨W2.heap.size, 3, none⟩ (.string p2)) rfl rfl (exec_store 9 _ _ rfl ⟨W2.heap.size, 3, none⟩ _ rfl rfl (run_storeAt_one ((cell_of_row _ _ 3 _ _ _ hrD).trans rfl) (frozen_of_row _ _ 3 _ _ hrD) (by kernel_rfl) rfl)) ⟨hSE, ?_⟩
  simp only [Act.put]
  refine wpAnyH_done (by kernel_rfl) ?_ _
  obtain ⟨WE, hst, hRE, hFE, hrg⟩ := FIN _ ⟨id, (k : Int) + 1, true, p2⟩ hrE (hzE.trans hZC.symm) hFE'
  clear FIN fz
  simp only [CL.cs] at hst hrg
  go_wp2_with (first | (refine wpList_load_mid rfl 50 _ rfl W2.heap.size 0 ?_ _ _ hrg Tryz.underlying50 rfl ?_ ?_; rfl; exact call_size) | (refine wpList_store 50 (w' := WE) _ _ rfl rfl ?_ ?_; exact hst))
  exact bodyPost_ret (results_cell_row Tryz.results103 _ _ w.heap.size 50 _ (0, 0) _ rfl hRE Tryz.underlying50 rfl call_size) rfl ⟨rfl, hFE⟩
 ·obtain ⟨WE, hst, hRE, hFE, hrg⟩ := FIN WC ⟨id, (k : Int) + 1, false, p1⟩ hrC rfl hFw
  clear FIN fz
  simp only [CL.cs] at hst hrg
  go_wp2_with (first | (refine wpList_load_mid rfl 50 _ rfl W2.heap.size 0 ?_ _ _ hrg Tryz.underlying50 rfl ?_ ?_; rfl; exact call_size) | (refine wpList_store 50 (w' := WE) _ _ rfl rfl ?_ ?_; exact hst))
  exact bodyPost_ret (results_cell_row Tryz.results103 _ _ w.heap.size 50 _ (0, 0) _ rfl hRE Tryz.underlying50 rfl call_size) rfl ⟨by simp [CL.cs], hFE⟩
end Go.Proofs.YteebjgfalllbjaaGreatDoor
namespace Go.Proofs.YteebjgfalllbjaaGreatDoor
open Go.RowKit
def zC : CL := ⟨0, 0, false, ⟨#[]⟩⟩
theorem run_storeC {w : World} {g : Nat} {cs : List Value} {t : TypeId} (c : CL) (hg : w.heap[g]? = some (.cells cs.toArray t (0, 0))) (hc : cs.length = 4) : (Instr.storeAt 50 (.pointer (some ⟨g, 0, none⟩)) (.agg c.cs.toArray)).run Tryz.prog w = .ok () (w.setRow g c.cs.toArray) := by
 have := run_storeAt_row (P := Tryz.prog) (o := 0) (ty := 50) (vs := c.cs) hg (by rw [hc]; exact Nat.le_refl 4) (by intro v hv; simp [CL.cs] at hv; rcases hv with rfl | rfl | rfl | rfl <;> rfl) (by rw [call_size]; rfl)
 rwa [show splice cs 0 c.cs = c.cs from by simp [splice, hc, CL.cs]] at this
section
variable {w : World} {R base : Nat} {room : Int} {ev : Value} {es : List (Nat × AS)}
def NextQ (es : List (Nat × AS)) (id clock : Int) (w : World) (e : Ending) (w' : World) : Prop :=
 ((∃ p ∈ es, p.2.id = id ∧ p.2.open ∧ e = .returned (.tuple #[.agg p.2.asks.cs.toArray, .bool (decide (p.2.due ≤ clock))])) ∨ ((∀ p ∈ es, p.2.id = id → ¬ p.2.open) ∧ e = .returned (.tuple #[.agg zC.cs.toArray, .bool false]))) ∧ Fr (fun _ => False) w w'
theorem sorted_uniq (hs : Sorted es) {p q : Nat × AS} (hp : p ∈ es) (hq : q ∈ es) (h : p.2.id = q.2.id) : p = q := by
 obtain ⟨i, hi1, rfl⟩ := List.mem_iff_getElem.1 hp
 obtain ⟨j, hj1, rfl⟩ := List.mem_iff_getElem.1 hq
 rcases Nat.lt_trichotomy i j with hlt | rfl | hlt
 ·have := List.pairwise_iff_getElem.1 hs i j hi1 hj1 hlt; omega
 ·rfl
 ·have := List.pairwise_iff_getElem.1 hs j i hj1 hi1 hlt; omega
set_option maxRecDepth 100000 in
set_option maxHeartbeats 4000000 in
theorem rNext_ok (h : RollAt w R base room ev es) (hs : Sorted es) (hn : es.length ≤ 100000) {ck : Int} (hok : ∀ p ∈ es, p.2.Ok ck) (id clock : Int) : Calls Tryz.prog 65 #[.pointer (some ⟨R, 0, none⟩), .int .i64 id, .int .i64 clock] w fun e w' => NextQ es id clock w e w' := by
 have hlift : Tryz.prog.follows .mixedOrders = true := by kernel_rfl
 have hfa : Fr (fun _ => False) w (w.alloc (.cells #[.int .i64 0, .int .i64 0, .bool false, .string ⟨#[]⟩] 50)) := (Fr.refl _ _).alloc _
 have HC := rfind_ok (h.frz hfa) hs hn id
 go_enter Tryz.func65, Tryz.ntmps65
 go_wp2_with fail
 refine HC.mono ?_
 rintro e w2 ⟨v, rfl, hv, hf⟩
 have h2 := (h.frz hfa).frz hf
 have hF := hfa.trans hf (fun _ _ h => h)
 have hR : w2.heap[w.heap.size]? = some (.cells zC.cs.toArray 50 (0, 0)) := hf.keep (heap_alloc_at _ _) (fun h => h)
 clear hfa hf HC h
 have HNO : ∀ (W : World), W.heap[w.heap.size]? = some (.cells zC.cs.toArray 50 (0, 0)) → Fr (fun _ => False) w W → ∃ WE, (Instr.storeAt 50 (.pointer (some ⟨w.heap.size, 0, none⟩)) (.agg zC.cs.toArray)).run Tryz.prog W = .ok () WE ∧ WE.heap[w.heap.size]? = some (.cells zC.cs.toArray 50 (0, 0)) ∧ Fr (fun _ => False) w WE := fun W h1 h2 => ⟨_, run_storeC zC h1 rfl, setRow_heap _ _ _ _ _ _ h1, h2.setRow _ (fun h => by omega) _⟩
 rcases hv with ⟨p, hp, hid, rfl⟩ | ⟨hno, rfl⟩
 ·have hpo := hok p hp
  have hr := h2.stand hp hpo.l6
  have k0 : w2.cell? ⟨p.1, 14, none⟩ = some (.int .i64 p.2.told.id) := hr 0 _ rfl
  have k1 : w2.cell? ⟨p.1, 15, none⟩ = some (.int .i64 p.2.told.state) := hr 1 _ rfl
  have k2 : w2.cell? ⟨p.1, 16, none⟩ = some (.int .i64 p.2.told.step) := hr 2 _ rfl
  have k3 : w2.cell? ⟨p.1, 17, none⟩ = some (.int .i64 p.2.told.steps) := hr 3 _ rfl
  have k4 : w2.cell? ⟨p.1, 18, none⟩ = some (.int .i64 p.2.told.tries) := hr 4 _ rfl
  have k5 : w2.cell? ⟨p.1, 19, none⟩ = some (.int .i64 p.2.told.due) := hr 5 _ rfl
  have HO := fun W => stOpen_ok W p.2.told
  have hE := (h2.e p hp).2
  unfold ST.cs at HO
  unfold epv
  clear hr
  go_wp2_with fail
  refine (HO _).mono ?_
  rintro e w3 ⟨rfl, hf3⟩
  by_cases ho : p.2.told.state = 1 ∨ p.2.told.state = 2
  ·rw [decide_eq_true ho]
   go_wp2_with fail
   obtain ⟨W, HW⟩ : ∃ W, Hid (W = w3.drew) := ⟨_, rfl⟩
   have hfW : Fr (fun _ => False) w3 W := by rw [HW.out]; exact (Fr.refl _ _).drew
   let S : World → Prop := fun w' => w'.cell? ⟨p.1, 19, none⟩ = some (.int .i64 p.2.told.due)
   have hS : S W := hfW.cell (hf3.cell k5 (fun h => h)) (fun h => h)
   refine wp_region_held (S := S) hlift ?_
   change wpAnyH _ _ _ _ S _ _ _ (World.drew _)
   rw [← HW.out]
   clear HW
   refine tkE (S := S) (i := 0) (oi := ⟨some 23, .move (.tmp 8), _, _, _, none⟩) (v := .pointer (some ⟨p.1, 0, none⟩)) rfl hS ?_
   simp only [Act.put, lsE, lsZ, lsS]
   refine tkE (S := S) (i := 2) (oi := ⟨some 25, .move (.tmp 8), _, _, _, none⟩) (v := .pointer (some ⟨p.1, 0, none⟩)) rfl hS ?_
   simp only [Act.put, lsE, lsZ, lsS]
   refine tkE (S := S) (i := 3) (oi := ⟨some 26, .nilCheck (.tmp 25), _, _, _, none⟩) (v := .pointer (some ⟨p.1, 0, none⟩)) rfl hS ?_
   simp only [Act.put, lsE, lsZ, lsS]
   refine tkE (S := S) (i := 4) (oi := ⟨some 27, .fieldAddr 140 (.tmp 26) 1, _, _, _, none⟩) (v := .pointer (some ⟨p.1, 14, none⟩)) rfl hS ?_
   simp only [Act.put, lsE, lsZ, lsS]
   refine tkE (S := S) (i := 5) (oi := ⟨some 28, .fieldAddr 138 (.tmp 27) 5, _, _, _, none⟩) (v := .pointer (some ⟨p.1, 19, none⟩)) rfl hS ?_
   simp only [Act.put, lsE, lsZ, lsS]
   refine tkY (S := S) (i := 6) (oi := ⟨some 29, .load 3 (.tmp 28), _, _, _, none⟩) (v := .int .i64 p.2.told.due) rfl (Or.inl ⟨rfl, fun w' hs => exec_load 3 (.tmp 28) rfl ⟨p.1, 19, none⟩ rfl (run_loadAt_one hs Tryz.underlying3 rfl)⟩) hS ?_
   simp only [Act.put, lsE, lsZ, lsS]
   refine tkE (S := S) (i := 7) (oi := ⟨some 30, .move (.tmp 2), _, _, _, none⟩) (v := .int .i64 clock) rfl hS ?_
   simp only [Act.put, lsE, lsZ, lsS]
   refine tkY (S := S) (i := 8) (oi := ⟨some 31, .binOp .leq 3 (.tmp 29) (.tmp 30) 3, _, _, _, none⟩) (v := .bool (decide (p.2.told.due ≤ clock))) rfl (Or.inl ⟨rfl, fun w' _ => exec_leq rfl rfl rfl w'⟩) hS ?_
   simp only [Act.put, lsE, lsZ, lsS]
   refine wpAnyH_all (rs := [1]) (by kernel_rfl) (by simp) ?_
   intro i1 hi1
   obtain rfl : i1 = 1 := by simpa using hi1
   refine wpOp_call (o := ⟨some 24, .call { callee := .value (.func 103), args := #[(.tmp 23)], argTypes := _ }, _, _, _, none⟩) (f := 103) (args := #[.pointer (some ⟨p.1, 0, none⟩)]) rfl rfl (by kernel_rfl) ?_
   refine (eCall_ok (hfW.keep (hf3.keep hE (fun h => h)) (fun h => h)) hpo ho).mono ?_
   rintro e w4 ⟨rfl, hf4⟩
   have hS4 : S w4 := hf4.cell hS (fun h => h)
   refine ⟨_, rfl, hS4, ?_⟩
   simp only [Act.put, lsE, lsZ, lsS]
   refine wpAnyH_all (rs := [9]) (by kernel_rfl) (by simp) ?_
   intro i9 hi9
   obtain rfl : i9 = 9 := by simpa using hi9
   have hR4 := hf4.keep (hfW.keep (hf3.keep hR (fun h => h)) (fun h => h)) (fun h => h)
   have hF4 : Fr (fun _ => False) w w4 := ((hF.trans hf3 (fun _ _ h => h)).trans hfW (fun _ _ h => h)).trans hf4 (fun _ _ h => h)
   have hst := run_storeC p.2.asks hR4 rfl
   have hRE := setRow_heap w4 w.heap.size _ p.2.asks.cs.toArray 50 (0, 0) hR4
   have hFE : Fr (fun _ => False) w (w4.setRow w.heap.size p.2.asks.cs.toArray) := hF4.setRow _ (fun h => by omega) _
   have hpl : p.1 < w2.heap.size := lt_of_heap hE
   have hSE : S (w4.setRow w.heap.size p.2.asks.cs.toArray) := (Fr.setRow (S := fun b => b = w.heap.size) (Fr.refl _ w4) w.heap.size (fun _ => rfl) _).cell hS4 (fun e => by have h9 := hE; have e' : p.1 = w.heap.size := e; rw [e', hR] at h9; simp at h9)
   refine wpOp_skip (o := ⟨none, .store 50 (.tmp 6) (.tmp 24), _, _, _, none⟩) (w' := w4.setRow w.heap.size p.2.asks.cs.toArray) rfl rfl (exec_store 50 _ _ rfl ⟨w.heap.size, 0, none⟩ _ rfl rfl hst) ⟨hSE, ?_⟩
   simp only [Act.put]
   refine tkE (S := S) (i := 10) (oi := ⟨some 7, .assign (.tmp 31), _, _, _, none⟩) (v := .bool (decide (p.2.told.due ≤ clock))) rfl hSE ?_
   simp only [Act.put, lsE, lsZ, lsS]
   refine wpAnyH_done (by kernel_rfl) ?_ _
   go_wp2
   exact bodyPost_ret (results_row_tmp Tryz.results65 _ _ w.heap.size 50 _ (0, 0) _ rfl hRE Tryz.underlying50 rfl call_size) rfl ⟨.inl ⟨p, hp, hid, ho, rfl⟩, hFE⟩
  ·rw [decide_eq_false ho]
   obtain ⟨WE, hst, hRE, hFE⟩ := HNO w3 (hf3.keep hR (fun h => h)) (hF.trans hf3 (fun _ _ h => h))
   have HN : Hid (∀ q ∈ es, q.2.id = id → ¬ q.2.open) := fun q hq e he => ho (by rw [sorted_uniq hs hp hq (hid.trans e.symm)]; exact he)
   clear HNO HO hok
   unfold CL.cs zC at hst
   go_wp2_with (first | (refine wpList_store 50 (w' := WE) _ _ rfl rfl ?_ ?_; exact hst))
   exact bodyPost_ret (results_row_tmp Tryz.results65 _ _ w.heap.size 50 _ (0, 0) _ rfl hRE Tryz.underlying50 rfl call_size) rfl ⟨.inr ⟨HN.out, rfl⟩, hFE⟩
 ·obtain ⟨WE, hst, hRE, hFE⟩ := HNO w2 hR hF
  have HN : Hid (∀ q ∈ es, q.2.id = id → ¬ q.2.open) := fun q hq e => absurd e (hno q hq)
  clear HNO hok hno
  unfold CL.cs zC at hst
  go_wp2_with (first | (refine wpList_store 50 (w' := WE) _ _ rfl rfl ?_ ?_; exact hst))
  exact bodyPost_ret (results_row_tmp Tryz.results65 _ _ w.heap.size 50 _ (0, 0) _ rfl hRE Tryz.underlying50 rfl call_size) rfl ⟨.inr ⟨HN.out, rfl⟩, hFE⟩
end
end Go.Proofs.YteebjgfalllbjaaGreatDoor
