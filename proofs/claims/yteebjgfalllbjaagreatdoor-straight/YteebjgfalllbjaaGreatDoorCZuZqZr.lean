import Derived.Test.YteebjgfalllbjaaGreatDoorCZwZoZt
import Derived.Test.YteebjgfalllbjaaGreatDoorCFoReAk
import Derived.Test.YteebjgfalllbjaaGreatDoorCAqTiDz
import Derived.Test.YteebjgfalllbjaaGreatDoorCZmZpZn
import Derived.Test.YteebjgfalllbjaaGreatDoorCTaFdOp
namespace Go.Proofs.YteebjgfalllbjaaGreatDoor
open Go.RowKit
section
variable {w : World} {X J R V A B n base e : Nat} {room clock pause calls writes : Int} {ev cv : Value} {es : List (Nat × AS)} {s : Bool} {bs : List Value}
set_option maxRecDepth 100000 in
set_option maxHeartbeats 4000000 in
theorem ask_F (c : CL) {P : World → Prop} {PF : Nat → World → Prop} {Q1 : World → Prop} {Q2 : Nat → World → Prop} {F1 F2 : Nat → Prop} (he : EngAt w X J R clock pause cv) (n1 : ∀ b, F1 b → b ≠ X ∧ b < w.heap.size) (n2 : ∀ b, F2 b → b ≠ X ∧ b < w.heap.size)
  (HSE : ∀ W, Fr (fun _ => False) w W → Calls Tryz.prog 91 #[.pointer (some ⟨J, 0, none⟩)] W fun e' w' => ∃ v, e' = .returned v ∧ Fr F1 W w' ∧ ((v = .nilIface ∧ Q1 w') ∨ (∃ g, v = trV g ∧ ∀ W2, EngB W2 X J R true clock pause cv → Fr (· = X) w' W2 → PF g W2)))
  (HRE : ∀ W, Q1 W → EngAt W X J R clock pause cv → w.heap.size ≤ W.heap.size → Calls Tryz.prog 104 #[.pointer (some ⟨X, 0, none⟩), .agg c.cs.toArray] W fun e' w' => ∃ r : Nat, e' = .returned (.int .i64 r) ∧ Fr F2 W w' ∧ Q2 r w')
  (HR3 : ∀ (r : Nat) W, Q2 r W → RollAt W R base room ev es)
  (HNX : ∀ W, RollAt W R base room ev es → Calls Tryz.prog 65 #[.pointer (some ⟨R, 0, none⟩), .int .i64 c.saga, .int .i64 clock] W fun e' w' => ∃ t, e' = .returned (.tuple #[.agg c.cs.toArray, .bool t]) ∧ Fr (fun _ => False) W w')
  (HFO : ∀ (r : Nat) W W', Q2 r W → EngAt W' X J R clock pause cv → Fr (fun _ => False) W W' → Calls Tryz.prog 105 #[.pointer (some ⟨X, 0, none⟩), .agg #[.int .i64 c.saga, .int .i64 r]] W' fun e' w' => (e' = .returned .nilIface ∧ P w') ∨ (∃ g, e' = .returned (trV g) ∧ PF g w')) :
  Calls Tryz.prog 66 #[.pointer (some ⟨X, 0, none⟩), .agg c.cs.toArray] w fun e' w' => (e' = .returned .nilIface ∧ P w') ∨ (∃ g, e' = .returned (trV g) ∧ PF g w') := by
 have hlift : Tryz.prog.follows .mixedOrders = true := by kernel_rfl
 have hneq := neq_call c
 have hfa : Fr (fun _ => False) w (w.alloc (.cells c.cs.toArray 50)) := (Fr.refl _ _).alloc _
 have hC0 := heap_alloc_at w (.cells c.cs.toArray 50)
 have hE0 : EngAt (w.alloc (.cells c.cs.toArray 50)) X J R clock pause cv := hfa.keep he (fun h => h)
 have x0 : (w.alloc (.cells c.cs.toArray 50)).cell? ⟨X, 0, none⟩ = some (.pointer (some ⟨J, 0, none⟩)) := (cell_of_row _ X 0 _ _ _ hE0).trans rfl
 go_enter Tryz.func66, Tryz.ntmps66
 go_wp2_with fail
 refine (HSE _ hfa).mono ?_
 rintro e1 w1 ⟨v1, rfl, hf1, hv1⟩
 have hE1 : EngAt w1 X J R clock pause cv := hf1.keep hE0 (fun h => (n1 _ h).1 rfl)
 have hC1 := hf1.keep hC0 (fun h => by have := (n1 _ h).2; omega)
 have hsz1 : w.heap.size ≤ w1.heap.size := by have := lt_of_heap hC1; omega
 rcases hv1 with ⟨rfl, hq1⟩ | ⟨g1, rfl, hq1⟩
 case inr =>
  have HQ1 : Hid (∀ W2, EngB W2 X J R true clock pause cv → Fr (· = X) w1 W2 → PF g1 W2) := hq1
  clear hq1
  go_wp2_with fail
  refine (checked_tr g1 hE1).mono ?_
  rintro e1 w2 ⟨rfl, eB, hf2⟩
  have HQ2 : Hid (PF g1 w2) := HQ1.out w2 eB hf2
  clear HQ1 hf2 HSE HRE HR3 HNX HFO hE1 hC1 hf1
  unfold trV
  go_wp2
  go_ret
  exact .inr ⟨g1, rfl, HQ2.out⟩
 go_wp2_with fail
 refine (checked_nil ⟨X, 0, none⟩ w1).mono ?_
 rintro e1 w1' ⟨rfl, e7⟩
 rw [e7]
 clear e7 w1' hf1 hE0 x0 HSE
 have hrg : w1.rangeAt w.heap.size 0 c.cs := fun j v hv => (cell_of_row w1 _ (0 + j) _ _ _ hC1).trans (by simpa using hv)
 go_wp2_with (first | (refine wpList_load_mid rfl 50 (.tmp 3) rfl w.heap.size 0 ?_ _ _ hrg Tryz.underlying50 rfl ?_ ?_; rfl; exact call_size))
 refine (HRE w1 hq1 hE1 hsz1).mono ?_
 rintro e1 w3 ⟨r, rfl, hf3, hq3⟩
 have hE3 : EngAt w3 X J R clock pause cv := hf3.keep hE1 (fun h => (n2 _ h).1 rfl)
 have hC3 := hf3.keep hC1 (fun h => by have := (n2 _ h).2; omega)
 have x2 : w3.cell? ⟨X, 2, none⟩ = some (.bool false) := (cell_of_row _ X 2 _ _ _ hE3).trans rfl
 have h3 := HR3 r w3 hq3
 have HFO := fun W' hf => HFO r w3 W' hq3 (hf.keep hE3 (fun h => h)) hf
 clear hrg HRE HR3 hq1 hE1 hC1 hf3 hq3
 go_wp2_with fail
 obtain ⟨W, HW⟩ : ∃ W, Hid (W = w3.drew) := ⟨_, rfl⟩
 have hfW : Fr (fun _ => False) w3 W := by rw [HW.out]; exact (Fr.refl _ _).drew
 let S : World → Prop := fun w' => EngAt w' X J R clock pause cv ∧ w'.heap[w.heap.size]? = some (.cells c.cs.toArray 50 (0, 0))
 have hS : S W := ⟨hfW.keep hE3 (fun h => h), hfW.keep hC3 (fun h => h)⟩
 refine wp_region_held (S := S) hlift ?_
 change wpAnyH _ _ _ _ S _ _ _ (World.drew _)
 rw [← HW.out]
 clear HW
 refine tkE (S := S) (i := 0) (oi := ⟨some 28, .move (.tmp 0), _, _, _, none⟩) (v := .pointer (some ⟨X, 0, none⟩)) rfl hS ?_
 simp only [Act.put, lsE, lsZ, lsS]
 refine tkE (S := S) (i := 1) (oi := ⟨some 29, .nilCheck (.tmp 28), _, _, _, none⟩) (v := .pointer (some ⟨X, 0, none⟩)) rfl hS ?_
 simp only [Act.put, lsE, lsZ, lsS]
 refine tkE (S := S) (i := 2) (oi := ⟨some 30, .fieldAddr 91 (.tmp 29) 1, _, _, _, none⟩) (v := .pointer (some ⟨X, 1, none⟩)) rfl hS ?_
 simp only [Act.put, lsE, lsZ, lsS]
 refine tkY (S := S) (i := 3) (oi := ⟨some 31, .load 88 (.tmp 30), _, _, _, none⟩) (v := .pointer (some ⟨R, 0, none⟩)) rfl (Or.inl ⟨rfl, fun w' hs => exec_load 88 (.tmp 30) rfl ⟨X, 1, none⟩ rfl (run_loadAt_one ((cell_of_row _ X 1 _ _ _ hs.1).trans rfl) Tryz.underlying88 rfl)⟩) hS ?_
 simp only [Act.put, lsE, lsZ, lsS]
 refine tkE (S := S) (i := 4) (oi := ⟨some 32, .fieldAddr 50 (.tmp 3) 0, _, _, _, none⟩) (v := .pointer (some ⟨w.heap.size, 0, none⟩)) rfl hS ?_
 simp only [Act.put, lsE, lsZ, lsS]
 refine tkY (S := S) (i := 5) (oi := ⟨some 33, .load 3 (.tmp 32), _, _, _, none⟩) (v := .int .i64 c.saga) rfl (Or.inl ⟨rfl, fun w' hs => exec_load 3 (.tmp 32) rfl ⟨w.heap.size, 0, none⟩ rfl (run_loadAt_one ((cell_of_row _ w.heap.size 0 _ _ _ hs.2).trans rfl) Tryz.underlying3 rfl)⟩) hS ?_
 simp only [Act.put, lsE, lsZ, lsS]
 refine tkE (S := S) (i := 6) (oi := ⟨some 34, .move (.tmp 0), _, _, _, none⟩) (v := .pointer (some ⟨X, 0, none⟩)) rfl hS ?_
 simp only [Act.put, lsE, lsZ, lsS]
 refine tkE (S := S) (i := 7) (oi := ⟨some 35, .nilCheck (.tmp 34), _, _, _, none⟩) (v := .pointer (some ⟨X, 0, none⟩)) rfl hS ?_
 simp only [Act.put, lsE, lsZ, lsS]
 refine tkE (S := S) (i := 8) (oi := ⟨some 36, .fieldAddr 91 (.tmp 35) 3, _, _, _, none⟩) (v := .pointer (some ⟨X, 3, none⟩)) rfl hS ?_
 simp only [Act.put, lsE, lsZ, lsS]
 refine tkY (S := S) (i := 9) (oi := ⟨some 37, .load 3 (.tmp 36), _, _, _, none⟩) (v := .int .i64 clock) rfl (Or.inl ⟨rfl, fun w' hs => exec_load 3 (.tmp 36) rfl ⟨X, 3, none⟩ rfl (run_loadAt_one ((cell_of_row _ X 3 _ _ _ hs.1).trans rfl) Tryz.underlying3 rfl)⟩) hS ?_
 simp only [Act.put, lsE, lsZ, lsS]
 refine wpAnyH_all (rs := [10, 14]) (by kernel_rfl) (by simp) ?_
 intro iq hiq
 have hqq : iq = 10 ∨ iq = 14 := by simpa using hiq
 rcases hqq with rfl | rfl
 ·refine wpOp_call (o := ⟨some 38, .call { callee := .value (.func 65), args := #[(.tmp 31), (.tmp 33), (.tmp 37)], argTypes := _ }, _, _, _, none⟩) (f := 65) (args := #[.pointer (some ⟨R, 0, none⟩), .int .i64 c.saga, .int .i64 clock]) rfl rfl (by kernel_rfl) ?_
  refine (HNX W (h3.frz hfW)).mono ?_
  rintro e1 w4 ⟨t, rfl, hfw4⟩
  have hw4 : Fr (fun _ => False) w3 w4 := hfW.trans hfw4 (fun _ _ h => h)
  have hSw4 : S w4 := ⟨hw4.keep hE3 (fun h => h), hw4.keep hC3 (fun h => h)⟩
  refine ⟨_, rfl, hSw4, ?_⟩
  simp only [Act.put, lsE, lsZ, lsS]
  refine tkE (S := S) (i := 11) (oi := ⟨some 27, .move (.tmp 38), _, _, _, none⟩) (v := .tuple #[.agg c.cs.toArray, .bool t]) rfl hSw4 ?_
  simp only [Act.put, lsE, lsZ, lsS]
  refine tkE (S := S) (i := 12) (oi := ⟨some 39, .extract (.tmp 27) 0, _, _, _, none⟩) (v := .agg c.cs.toArray) rfl hSw4 ?_
  simp only [Act.put, lsE, lsZ, lsS]
  refine tkE (S := S) (i := 13) (oi := ⟨some 40, .extract (.tmp 27) 1, _, _, _, none⟩) (v := .bool t) rfl hSw4 ?_
  simp only [Act.put, lsE, lsZ, lsS]
  refine wpAnyH_all (rs := [14]) (by kernel_rfl) (by simp) ?_
  intro i14 hi14
  obtain rfl : i14 = 14 := by simpa using hi14
  obtain ⟨w5, HWw5⟩ : ∃ w5, Hid (w5 = w4.alloc (.cells ([.int .i64 0, .int .i64 0, .bool false, .string ⟨#[]⟩] : List Value).toArray 50)) := ⟨_, rfl⟩
  have hrw5 : w5.heap[w4.heap.size]? = some (.cells ([.int .i64 0, .int .i64 0, .bool false, .string ⟨#[]⟩] : List Value).toArray 50 (0, 0)) := by rw [HWw5.out]; exact heap_alloc_at _ _
  have hfw5 : Fr (fun _ => False) w4 w5 := by rw [HWw5.out]; exact (Fr.refl _ _).alloc _
  have hw5 : Fr (fun _ => False) w3 w5 := hw4.trans hfw5 (fun _ _ h => h)
  have hSw5 : S w5 := ⟨hw5.keep hE3 (fun h => h), hw5.keep hC3 (fun h => h)⟩
  refine wpOp_value (o := ⟨some 7, .alloc 50, _, _, _, none⟩) (v := .pointer (some ⟨w4.heap.size, 0, none⟩)) (w' := w5) rfl rfl (by rw [HWw5.out]; exact exec_alloc_call _ _ rfl _) ⟨hSw5, ?_⟩
  simp only [Act.put, lsE, lsZ, lsS]
  refine wpAnyH_all (rs := [15]) (by kernel_rfl) (by simp) ?_
  intro i15 hi15
  obtain rfl : i15 = 15 := by simpa using hi15
  have hst := run_storeC c (hrw5) rfl
  have hRE := setRow_heap w5 w4.heap.size _ c.cs.toArray 50 (0, 0) (hrw5)
  have hge : w3.heap.size ≤ w4.heap.size := hw4.size
  have hFE : Fr (fun _ => False) w3 (w5.setRow w4.heap.size c.cs.toArray) := hw5.setRow _ (fun h => by omega) _
  have hSE : S (w5.setRow w4.heap.size c.cs.toArray) := ⟨hFE.keep hE3 (fun h => h), hFE.keep hC3 (fun h => h)⟩
  refine wpOp_skip (o := ⟨none, .store 50 (.tmp 7) (.tmp 39), _, _, _, none⟩) (w' := w5.setRow w4.heap.size c.cs.toArray) rfl rfl (exec_store 50 _ _ rfl ⟨w4.heap.size, 0, none⟩ _ rfl rfl hst) ⟨hSE, ?_⟩
  simp only [Act.put]
  refine tkE (S := S) (i := 16) (oi := ⟨some 8, .assign (.tmp 40), _, _, _, none⟩) (v := .bool t) rfl hSE ?_
  simp only [Act.put, lsE, lsZ, lsS]
  refine wpAnyH_done (by kernel_rfl) ?_ _
  obtain ⟨WE, HWE⟩ : ∃ WE, Hid (WE = w5.setRow w4.heap.size c.cs.toArray) := ⟨_, rfl⟩
  have HH := HFO WE (by rw [HWE.out]; exact hFE)
  have hE9 : EngAt WE X J R clock pause cv := by rw [HWE.out]; exact hSE.1
  have hC9 : WE.heap[w.heap.size]? = some (.cells c.cs.toArray 50 (0, 0)) := by rw [HWE.out]; exact hSE.2
  have hrg1 : WE.rangeAt w.heap.size 0 c.cs := fun j v hv => (cell_of_row WE _ (0 + j) _ _ _ hC9).trans (by simpa using hv)
  have hrg2 : WE.rangeAt w4.heap.size 0 c.cs := fun j v hv => (cell_of_row WE _ (0 + j) _ _ _ (by rw [HWE.out]; exact hRE)).trans (by simpa using hv)
  have d0 : WE.cell? ⟨w.heap.size, 0, none⟩ = some (.int .i64 c.saga) := (cell_of_row _ _ 0 _ _ _ hC9).trans rfl
  rw [← HWE.out]
  clear HWE hRE hst hFE hSE hE9 HFO HNX
  go_wp2_with (first | (refine wpList_load_mid rfl 50 (.tmp 3) rfl w.heap.size 0 ?_ _ _ hrg1 Tryz.underlying50 rfl ?_ ?_; rfl; exact call_size) | (refine wpList_load_mid rfl 50 (.tmp 7) rfl w4.heap.size 0 ?_ _ _ hrg2 Tryz.underlying50 rfl ?_ ?_; rfl; exact call_size))
  refine HH.mono ?_
  rintro e1 w9 (⟨rfl, hq9⟩ | ⟨g9, rfl, hq9⟩)
  ·have HQ9 : Hid (P w9) := hq9
   clear hq9 HH
   go_wp2
   go_ret
   exact .inl ⟨rfl, HQ9.out⟩
  ·have HQ9 : Hid (PF g9 w9) := hq9
   clear hq9 HH
   unfold trV
   go_wp2
   go_ret
   exact .inr ⟨g9, rfl, HQ9.out⟩
 ·obtain ⟨w4, HWw4⟩ : ∃ w4, Hid (w4 = W.alloc (.cells ([.int .i64 0, .int .i64 0, .bool false, .string ⟨#[]⟩] : List Value).toArray 50)) := ⟨_, rfl⟩
  have hrw4 : w4.heap[W.heap.size]? = some (.cells ([.int .i64 0, .int .i64 0, .bool false, .string ⟨#[]⟩] : List Value).toArray 50 (0, 0)) := by rw [HWw4.out]; exact heap_alloc_at _ _
  have hfw4 : Fr (fun _ => False) W w4 := by rw [HWw4.out]; exact (Fr.refl _ _).alloc _
  have hw4 : Fr (fun _ => False) w3 w4 := hfW.trans hfw4 (fun _ _ h => h)
  have hSw4 : S w4 := ⟨hw4.keep hE3 (fun h => h), hw4.keep hC3 (fun h => h)⟩
  refine wpOp_value (o := ⟨some 7, .alloc 50, _, _, _, none⟩) (v := .pointer (some ⟨W.heap.size, 0, none⟩)) (w' := w4) rfl rfl (by rw [HWw4.out]; exact exec_alloc_call _ _ rfl _) ⟨hSw4, ?_⟩
  simp only [Act.put, lsE, lsZ, lsS]
  refine wpAnyH_all (rs := [10]) (by kernel_rfl) (by simp) ?_
  intro i11 hi11
  obtain rfl : i11 = 10 := by simpa using hi11
  refine wpOp_call (o := ⟨some 38, .call { callee := .value (.func 65), args := #[(.tmp 31), (.tmp 33), (.tmp 37)], argTypes := _ }, _, _, _, none⟩) (f := 65) (args := #[.pointer (some ⟨R, 0, none⟩), .int .i64 c.saga, .int .i64 clock]) rfl rfl (by kernel_rfl) ?_
  refine (HNX w4 (h3.frz hw4)).mono ?_
  rintro e1 w5 ⟨t, rfl, hfw5⟩
  have hw5 : Fr (fun _ => False) w3 w5 := hw4.trans hfw5 (fun _ _ h => h)
  have hSw5 : S w5 := ⟨hw5.keep hE3 (fun h => h), hw5.keep hC3 (fun h => h)⟩
  refine ⟨_, rfl, hSw5, ?_⟩
  simp only [Act.put, lsE, lsZ, lsS]
  refine tkE (S := S) (i := 11) (oi := ⟨some 27, .move (.tmp 38), _, _, _, none⟩) (v := .tuple #[.agg c.cs.toArray, .bool t]) rfl hSw5 ?_
  simp only [Act.put, lsE, lsZ, lsS]
  refine tkE (S := S) (i := 12) (oi := ⟨some 39, .extract (.tmp 27) 0, _, _, _, none⟩) (v := .agg c.cs.toArray) rfl hSw5 ?_
  simp only [Act.put, lsE, lsZ, lsS]
  refine tkE (S := S) (i := 13) (oi := ⟨some 40, .extract (.tmp 27) 1, _, _, _, none⟩) (v := .bool t) rfl hSw5 ?_
  simp only [Act.put, lsE, lsZ, lsS]
  refine wpAnyH_all (rs := [15]) (by kernel_rfl) (by simp) ?_
  intro i15 hi15
  obtain rfl : i15 = 15 := by simpa using hi15
  have hst := run_storeC c (hfw5.keep hrw4 (fun h => h)) rfl
  have hRE := setRow_heap w5 W.heap.size _ c.cs.toArray 50 (0, 0) (hfw5.keep hrw4 (fun h => h))
  have hge : w3.heap.size ≤ W.heap.size := hfW.size
  have hFE : Fr (fun _ => False) w3 (w5.setRow W.heap.size c.cs.toArray) := hw5.setRow _ (fun h => by omega) _
  have hSE : S (w5.setRow W.heap.size c.cs.toArray) := ⟨hFE.keep hE3 (fun h => h), hFE.keep hC3 (fun h => h)⟩
  refine wpOp_skip (o := ⟨none, .store 50 (.tmp 7) (.tmp 39), _, _, _, none⟩) (w' := w5.setRow W.heap.size c.cs.toArray) rfl rfl (exec_store 50 _ _ rfl ⟨W.heap.size, 0, none⟩ _ rfl rfl hst) ⟨hSE, ?_⟩
  simp only [Act.put]
  refine tkE (S := S) (i := 16) (oi := ⟨some 8, .assign (.tmp 40), _, _, _, none⟩) (v := .bool t) rfl hSE ?_
  simp only [Act.put, lsE, lsZ, lsS]
  refine wpAnyH_done (by kernel_rfl) ?_ _
  obtain ⟨WE, HWE⟩ : ∃ WE, Hid (WE = w5.setRow W.heap.size c.cs.toArray) := ⟨_, rfl⟩
  have HH := HFO WE (by rw [HWE.out]; exact hFE)
  have hE9 : EngAt WE X J R clock pause cv := by rw [HWE.out]; exact hSE.1
  have hC9 : WE.heap[w.heap.size]? = some (.cells c.cs.toArray 50 (0, 0)) := by rw [HWE.out]; exact hSE.2
  have hrg1 : WE.rangeAt w.heap.size 0 c.cs := fun j v hv => (cell_of_row WE _ (0 + j) _ _ _ hC9).trans (by simpa using hv)
  have hrg2 : WE.rangeAt W.heap.size 0 c.cs := fun j v hv => (cell_of_row WE _ (0 + j) _ _ _ (by rw [HWE.out]; exact hRE)).trans (by simpa using hv)
  have d0 : WE.cell? ⟨w.heap.size, 0, none⟩ = some (.int .i64 c.saga) := (cell_of_row _ _ 0 _ _ _ hC9).trans rfl
  rw [← HWE.out]
  clear HWE hRE hst hFE hSE hE9 HFO HNX
  go_wp2_with (first | (refine wpList_load_mid rfl 50 (.tmp 3) rfl w.heap.size 0 ?_ _ _ hrg1 Tryz.underlying50 rfl ?_ ?_; rfl; exact call_size) | (refine wpList_load_mid rfl 50 (.tmp 7) rfl W.heap.size 0 ?_ _ _ hrg2 Tryz.underlying50 rfl ?_ ?_; rfl; exact call_size))
  refine HH.mono ?_
  rintro e1 w9 (⟨rfl, hq9⟩ | ⟨g9, rfl, hq9⟩)
  ·have HQ9 : Hid (P w9) := hq9
   clear hq9 HH
   go_wp2
   go_ret
   exact .inl ⟨rfl, HQ9.out⟩
  ·have HQ9 : Hid (PF g9 w9) := hq9
   clear hq9 HH
   unfold trV
   go_wp2
   go_ret
   exact .inr ⟨g9, rfl, HQ9.out⟩
end
section
variable {w : World} {X J R : Nat} {clock ck pause : Int} {cv : Value} {zs : List ST}
set_option maxRecDepth 100000 in
set_option maxHeartbeats 4000000 in
theorem tick_F {PF : Nat → World → Prop} {Inv : Nat → World → Prop} {g : Nat} (he : EngAt w X J R clock pause cv) (hck : ck = clock + 1) (hc0 : 0 ≤ clock) (hc1 : clock ≤ 1000000) (hzl : zs.length ≤ 100000)
  (HE : ∀ i W, Inv i W → EngAt W X J R ck pause cv) (Hg : ∀ i W, Inv i W → W.heap[g]? = some (.cells (zs.map ST.cs).flatten.toArray 42 (0, 0)))
  (HST : ∀ W, EngAt W X J R ck pause cv → Fr (fun b => b = X) w W → W.heap.size = w.heap.size → Calls Tryz.prog 64 #[.pointer (some ⟨R, 0, none⟩)] W fun e' w' => e' = .returned (.slice (some ⟨g, 0, none⟩) zs.length zs.length) ∧ Inv 0 w')
  (HNX : ∀ i W0 W z, zs[i]? = some z → Inv i W0 → Fr (fun _ => False) W0 W → Calls Tryz.prog 65 #[.pointer (some ⟨R, 0, none⟩), .int .i64 z.id, .int .i64 ck] W fun e' w' => ∃ c t, e' = .returned (.tuple #[.agg (CL.cs c).toArray, .bool t]) ∧ Fr (fun _ => False) W w' ∧ ((t = false → ∀ W', Fr (fun _ => False) W0 W' → Inv (i + 1) W') ∧ (t = true → ∀ W', Fr (fun _ => False) W0 W' → Calls Tryz.prog 66 #[.pointer (some ⟨X, 0, none⟩), .agg c.cs.toArray] W' fun e'' w'' => (e'' = .returned .nilIface ∧ Inv (i + 1) w'') ∨ (∃ g, e'' = .returned (trV g) ∧ PF g w'')))) :
  Calls Tryz.prog 43 #[.pointer (some ⟨X, 0, none⟩)] w fun e' w' => (e' = .returned .nilIface ∧ Inv zs.length w') ∨ (∃ g, e' = .returned (trV g) ∧ PF g w') := by
 have hlift : Tryz.prog.follows .mixedOrders = true := by kernel_rfl
 have x2 : w.cell? ⟨X, 2, none⟩ = some (.bool false) := (cell_of_row _ X 2 _ _ _ he).trans rfl
 have x3 : w.cell? ⟨X, 3, none⟩ = some (.int .i64 clock) := (cell_of_row _ X 3 _ _ _ he).trans rfl
 have f3 : w.frozen? ⟨X, 3, none⟩ = false := frozen_of_row _ _ 3 _ _ he
 have hE1 : EngAt (w.setCell ⟨X, 3, none⟩ (.int .i64 (clock + 1))) X J R (clock + 1) pause cv := heap_setCell_at w X 3 _ _ (.int .i64 (clock + 1)) he
 have x1 : (w.setCell ⟨X, 3, none⟩ (.int .i64 (clock + 1))).cell? ⟨X, 1, none⟩ = some (.pointer (some ⟨R, 0, none⟩)) := (cell_of_row _ X 1 _ _ _ hE1).trans rfl
 have HS := HST (w.setCell ⟨X, 3, none⟩ (.int .i64 (clock + 1))) (by rw [hck]; exact hE1) (Fr.set1 _ _ _ _) (by simp [World.setCell])
 clear HST hck
 go_enter Tryz.func43, Tryz.ntmps43
 go_wp2_with fail
 refine HS.mono ?_
 rintro e1 w1 ⟨rfl, hq1⟩
 have HQ1 : Hid (Inv 0 w1) := hq1
 clear hq1 HS x1 x2 x3 f3 hE1
 go_wp2
 go_loopw [26] (fun c wr => ∃ i : Nat, i ≤ zs.length ∧ c = .int .i64 i ∧ Hid (Inv i wr)) (fun c _ => zs.length - (intOf c).toNat)
 case atStart => exact ⟨0, Nat.zero_le _, rfl, HQ1⟩
 case round =>
  obtain ⟨i, hi, rfl, HR⟩ := hrel
  clear HQ1
  by_cases hlt : i < zs.length
  ·have hlt' : (i : Int) < zs.length := by omega
   obtain ⟨z, hzi⟩ : ∃ z, zs[i]? = some z := ⟨_, List.getElem?_eq_getElem hlt⟩
   have hgr := Hg i wr HR.out
   have hrg : wr.rangeAt g (i * 6) z.cs := fun j v hv => (cell_of_row wr _ (i * 6 + j) _ _ _ hgr).trans (by
    rw [List.getElem?_toArray]
    exact sts_get zs i z hzi j v hv)
   have hEw := HE i wr HR.out
   obtain ⟨wA, HWA⟩ : ∃ wA, Hid (wA = wr.alloc (.cells z.cs.toArray 42)) := ⟨_, rfl⟩
   have hfA : Fr (fun _ => False) wr wA := by rw [HWA.out]; exact (Fr.refl _ _).alloc _
   have hrA : wA.heap[wr.heap.size]? = some (.cells z.cs.toArray 42 (0, 0)) := by rw [HWA.out]; exact heap_alloc_at _ _
   have hEA : EngAt wA X J R ck pause cv := hfA.keep hEw (fun h => h)
   have hsA : wA.cell? ⟨wr.heap.size, 0, none⟩ = some (.int .i64 z.id) := (cell_of_row _ _ 0 _ _ _ hrA).trans rfl
   clear hgr hEw hrA
   unfold ST.cs at HWA hrg
   go_wp2_with (first | (refine wpList_load_mid rfl 42 _ rfl g (i * 6) ?_ _ _ hrg Tryz.underlying42 rfl ?_ ?_; rfl; exact status_size))
   rw [← HWA.out]
   obtain ⟨W, HW⟩ : ∃ W, Hid (W = wA.drew) := ⟨_, rfl⟩
   have hfW : Fr (fun _ => False) wA W := by rw [HW.out]; exact (Fr.refl _ _).drew
   let S : World → Prop := fun w' => EngAt w' X J R ck pause cv ∧ w'.cell? ⟨wr.heap.size, 0, none⟩ = some (.int .i64 z.id)
   have hS : S W := ⟨hfW.keep hEA (fun h => h), hfW.cell hsA (fun h => h)⟩
   refine wp_region_held (S := S) hlift ?_
   change wpAnyH _ _ _ _ S _ _ _ (World.drew _)
   rw [← HW.out]
   clear HW
   refine tkE (S := S) (i := 0) (oi := ⟨some 31, .move (.tmp 0), _, _, _, none⟩) (v := .pointer (some ⟨X, 0, none⟩)) rfl hS ?_
   simp only [Act.put, lsE, lsZ, lsS]
   refine tkE (S := S) (i := 1) (oi := ⟨some 32, .nilCheck (.tmp 31), _, _, _, none⟩) (v := .pointer (some ⟨X, 0, none⟩)) rfl hS ?_
   simp only [Act.put, lsE, lsZ, lsS]
   refine tkE (S := S) (i := 2) (oi := ⟨some 33, .fieldAddr 91 (.tmp 32) 1, _, _, _, none⟩) (v := .pointer (some ⟨X, 1, none⟩)) rfl hS ?_
   simp only [Act.put, lsE, lsZ, lsS]
   refine tkY (S := S) (i := 3) (oi := ⟨some 34, .load 88 (.tmp 33), _, _, _, none⟩) (v := .pointer (some ⟨R, 0, none⟩)) rfl (Or.inl ⟨rfl, fun w' hs => exec_load 88 (.tmp 33) rfl ⟨X, 1, none⟩ rfl (run_loadAt_one ((cell_of_row _ X 1 _ _ _ hs.1).trans rfl) Tryz.underlying88 rfl)⟩) hS ?_
   simp only [Act.put, lsE, lsZ, lsS]
   refine tkE (S := S) (i := 4) (oi := ⟨some 35, .fieldAddr 42 (.tmp 4) 0, _, _, _, none⟩) (v := .pointer (some ⟨wr.heap.size, 0, none⟩)) rfl hS ?_
   simp only [Act.put, lsE, lsZ, lsS]
   refine tkY (S := S) (i := 5) (oi := ⟨some 36, .load 3 (.tmp 35), _, _, _, none⟩) (v := .int .i64 z.id) rfl (Or.inl ⟨rfl, fun w' hs => exec_load 3 (.tmp 35) rfl ⟨wr.heap.size, 0, none⟩ rfl (run_loadAt_one hs.2 Tryz.underlying3 rfl)⟩) hS ?_
   simp only [Act.put, lsE, lsZ, lsS]
   refine tkE (S := S) (i := 6) (oi := ⟨some 37, .move (.tmp 0), _, _, _, none⟩) (v := .pointer (some ⟨X, 0, none⟩)) rfl hS ?_
   simp only [Act.put, lsE, lsZ, lsS]
   refine tkE (S := S) (i := 7) (oi := ⟨some 38, .nilCheck (.tmp 37), _, _, _, none⟩) (v := .pointer (some ⟨X, 0, none⟩)) rfl hS ?_
   simp only [Act.put, lsE, lsZ, lsS]
   refine tkE (S := S) (i := 8) (oi := ⟨some 39, .fieldAddr 91 (.tmp 38) 3, _, _, _, none⟩) (v := .pointer (some ⟨X, 3, none⟩)) rfl hS ?_
   simp only [Act.put, lsE, lsZ, lsS]
   refine tkY (S := S) (i := 9) (oi := ⟨some 40, .load 3 (.tmp 39), _, _, _, none⟩) (v := .int .i64 ck) rfl (Or.inl ⟨rfl, fun w' hs => exec_load 3 (.tmp 39) rfl ⟨X, 3, none⟩ rfl (run_loadAt_one ((cell_of_row _ X 3 _ _ _ hs.1).trans rfl) Tryz.underlying3 rfl)⟩) hS ?_
   simp only [Act.put, lsE, lsZ, lsS]
   refine wpAnyH_all (rs := [10, 14]) (by kernel_rfl) (by simp) ?_
   intro iq hiq
   have hqq : iq = 10 ∨ iq = 14 := by simpa using hiq
   rcases hqq with rfl | rfl
   ·refine wpOp_call (o := ⟨some 41, .call { callee := .value (.func 65), args := #[(.tmp 34), (.tmp 36), (.tmp 40)], argTypes := _ }, _, _, _, none⟩) (f := 65) (args := #[.pointer (some ⟨R, 0, none⟩), .int .i64 z.id, .int .i64 ck]) rfl rfl (by kernel_rfl) ?_
    refine (HNX i wr W z hzi HR.out (hfA.trans hfW (fun _ _ h => h))).mono ?_
    rintro e1 w4 ⟨c, t, rfl, hfw4, hq⟩
    have hw4 : Fr (fun _ => False) wA w4 := hfW.trans hfw4 (fun _ _ h => h)
    have hSw4 : S w4 := ⟨hw4.keep hEA (fun h => h), hw4.cell hsA (fun h => h)⟩
    refine ⟨_, rfl, hSw4, ?_⟩
    simp only [Act.put, lsE, lsZ, lsS]
    refine tkE (S := S) (i := 11) (oi := ⟨some 30, .move (.tmp 41), _, _, _, none⟩) (v := .tuple #[.agg c.cs.toArray, .bool t]) rfl hSw4 ?_
    simp only [Act.put, lsE, lsZ, lsS]
    refine tkE (S := S) (i := 12) (oi := ⟨some 42, .extract (.tmp 30) 0, _, _, _, none⟩) (v := .agg c.cs.toArray) rfl hSw4 ?_
    simp only [Act.put, lsE, lsZ, lsS]
    refine tkE (S := S) (i := 13) (oi := ⟨some 43, .extract (.tmp 30) 1, _, _, _, none⟩) (v := .bool t) rfl hSw4 ?_
    simp only [Act.put, lsE, lsZ, lsS]
    refine wpAnyH_all (rs := [14]) (by kernel_rfl) (by simp) ?_
    intro i14 hi14
    obtain rfl : i14 = 14 := by simpa using hi14
    obtain ⟨w5, HWw5⟩ : ∃ w5, Hid (w5 = w4.alloc (.cells ([.int .i64 0, .int .i64 0, .bool false, .string ⟨#[]⟩] : List Value).toArray 50)) := ⟨_, rfl⟩
    have hrw5 : w5.heap[w4.heap.size]? = some (.cells ([.int .i64 0, .int .i64 0, .bool false, .string ⟨#[]⟩] : List Value).toArray 50 (0, 0)) := by rw [HWw5.out]; exact heap_alloc_at _ _
    have hfw5 : Fr (fun _ => False) w4 w5 := by rw [HWw5.out]; exact (Fr.refl _ _).alloc _
    have hw5 : Fr (fun _ => False) wA w5 := hw4.trans hfw5 (fun _ _ h => h)
    have hSw5 : S w5 := ⟨hw5.keep hEA (fun h => h), hw5.cell hsA (fun h => h)⟩
    refine wpOp_value (o := ⟨some 5, .alloc 50, _, _, _, none⟩) (v := .pointer (some ⟨w4.heap.size, 0, none⟩)) (w' := w5) rfl rfl (by rw [HWw5.out]; exact exec_alloc_call _ _ rfl _) ⟨hSw5, ?_⟩
    simp only [Act.put, lsE, lsZ, lsS]
    refine wpAnyH_all (rs := [15]) (by kernel_rfl) (by simp) ?_
    intro i15 hi15
    obtain rfl : i15 = 15 := by simpa using hi15
    have hst := run_storeC c (hrw5) rfl
    have hRE := setRow_heap w5 w4.heap.size _ c.cs.toArray 50 (0, 0) (hrw5)
    have hge : wA.heap.size ≤ w4.heap.size := hw4.size
    have hFE : Fr (fun _ => False) wA (w5.setRow w4.heap.size c.cs.toArray) := hw5.setRow _ (fun h => by omega) _
    have hFq : Fr (fun _ => False) wr (w5.setRow w4.heap.size c.cs.toArray) := hfA.trans hFE (fun _ _ h => h)
    have hSE : S (w5.setRow w4.heap.size c.cs.toArray) := ⟨hFE.keep hEA (fun h => h), hFE.cell hsA (fun h => h)⟩
    refine wpOp_skip (o := ⟨none, .store 50 (.tmp 5) (.tmp 42), _, _, _, none⟩) (w' := w5.setRow w4.heap.size c.cs.toArray) rfl rfl (exec_store 50 _ _ rfl ⟨w4.heap.size, 0, none⟩ _ rfl rfl hst) ⟨hSE, ?_⟩
    simp only [Act.put]
    refine tkE (S := S) (i := 16) (oi := ⟨some 6, .assign (.tmp 43), _, _, _, none⟩) (v := .bool t) rfl hSE ?_
    simp only [Act.put, lsE, lsZ, lsS]
    refine wpAnyH_done (by kernel_rfl) ?_ _
    obtain ⟨WE, HWE⟩ : ∃ WE, Hid (WE = w5.setRow w4.heap.size c.cs.toArray) := ⟨_, rfl⟩
    have hrg2 : WE.rangeAt w4.heap.size 0 c.cs := fun j v hv => (cell_of_row WE _ (0 + j) _ _ _ (by rw [HWE.out]; exact hRE)).trans (by simpa using hv)
    rw [← HWE.out] at hFq ⊢
    cases t
    ·have HN : Hid (Inv (i + 1) WE) := hq.1 rfl WE hFq
     clear HWE hRE hst hFE hSE hq
     go_wp2
     go_roundw
     case rel => exact ⟨i + 1, by omega, by go_num, HN⟩
     case measure => simp [intOf]; omega
    ·have HH := hq.2 rfl WE hFq
     clear HWE hRE hst hFE hSE hq
     go_wp2_with (first | (refine wpList_load_mid rfl 50 (.tmp 5) rfl w4.heap.size 0 ?_ _ _ hrg2 Tryz.underlying50 rfl ?_ ?_; rfl; exact call_size))
     refine HH.mono ?_
     rintro e1 w9 (⟨rfl, hq9⟩ | ⟨g9, rfl, hq9⟩)
     ·have HN : Hid (Inv (i + 1) w9) := hq9
      clear hq9 HH
      go_wp2
      go_roundw
      case rel => exact ⟨i + 1, by omega, by go_num, HN⟩
      case measure => simp [intOf]; omega
     ·have HN : Hid (PF g9 w9) := hq9
      clear hq9 HH
      unfold trV
      go_wp2
      go_ret
      exact .inr ⟨g9, rfl, HN.out⟩
   ·obtain ⟨w4, HWw4⟩ : ∃ w4, Hid (w4 = W.alloc (.cells ([.int .i64 0, .int .i64 0, .bool false, .string ⟨#[]⟩] : List Value).toArray 50)) := ⟨_, rfl⟩
    have hrw4 : w4.heap[W.heap.size]? = some (.cells ([.int .i64 0, .int .i64 0, .bool false, .string ⟨#[]⟩] : List Value).toArray 50 (0, 0)) := by rw [HWw4.out]; exact heap_alloc_at _ _
    have hfw4 : Fr (fun _ => False) W w4 := by rw [HWw4.out]; exact (Fr.refl _ _).alloc _
    have hw4 : Fr (fun _ => False) wA w4 := hfW.trans hfw4 (fun _ _ h => h)
    have hSw4 : S w4 := ⟨hw4.keep hEA (fun h => h), hw4.cell hsA (fun h => h)⟩
    refine wpOp_value (o := ⟨some 5, .alloc 50, _, _, _, none⟩) (v := .pointer (some ⟨W.heap.size, 0, none⟩)) (w' := w4) rfl rfl (by rw [HWw4.out]; exact exec_alloc_call _ _ rfl _) ⟨hSw4, ?_⟩
    simp only [Act.put, lsE, lsZ, lsS]
    refine wpAnyH_all (rs := [10]) (by kernel_rfl) (by simp) ?_
    intro i11 hi11
    obtain rfl : i11 = 10 := by simpa using hi11
    refine wpOp_call (o := ⟨some 41, .call { callee := .value (.func 65), args := #[(.tmp 34), (.tmp 36), (.tmp 40)], argTypes := _ }, _, _, _, none⟩) (f := 65) (args := #[.pointer (some ⟨R, 0, none⟩), .int .i64 z.id, .int .i64 ck]) rfl rfl (by kernel_rfl) ?_
    refine (HNX i wr w4 z hzi HR.out (hfA.trans hw4 (fun _ _ h => h))).mono ?_
    rintro e1 w5 ⟨c, t, rfl, hfw5, hq⟩
    have hw5 : Fr (fun _ => False) wA w5 := hw4.trans hfw5 (fun _ _ h => h)
    have hSw5 : S w5 := ⟨hw5.keep hEA (fun h => h), hw5.cell hsA (fun h => h)⟩
    refine ⟨_, rfl, hSw5, ?_⟩
    simp only [Act.put, lsE, lsZ, lsS]
    refine tkE (S := S) (i := 11) (oi := ⟨some 30, .move (.tmp 41), _, _, _, none⟩) (v := .tuple #[.agg c.cs.toArray, .bool t]) rfl hSw5 ?_
    simp only [Act.put, lsE, lsZ, lsS]
    refine tkE (S := S) (i := 12) (oi := ⟨some 42, .extract (.tmp 30) 0, _, _, _, none⟩) (v := .agg c.cs.toArray) rfl hSw5 ?_
    simp only [Act.put, lsE, lsZ, lsS]
    refine tkE (S := S) (i := 13) (oi := ⟨some 43, .extract (.tmp 30) 1, _, _, _, none⟩) (v := .bool t) rfl hSw5 ?_
    simp only [Act.put, lsE, lsZ, lsS]
    refine wpAnyH_all (rs := [15]) (by kernel_rfl) (by simp) ?_
    intro i15 hi15
    obtain rfl : i15 = 15 := by simpa using hi15
    have hst := run_storeC c (hfw5.keep hrw4 (fun h => h)) rfl
    have hRE := setRow_heap w5 W.heap.size _ c.cs.toArray 50 (0, 0) (hfw5.keep hrw4 (fun h => h))
    have hge : wA.heap.size ≤ W.heap.size := hfW.size
    have hFE : Fr (fun _ => False) wA (w5.setRow W.heap.size c.cs.toArray) := hw5.setRow _ (fun h => by omega) _
    have hFq : Fr (fun _ => False) wr (w5.setRow W.heap.size c.cs.toArray) := hfA.trans hFE (fun _ _ h => h)
    have hSE : S (w5.setRow W.heap.size c.cs.toArray) := ⟨hFE.keep hEA (fun h => h), hFE.cell hsA (fun h => h)⟩
    refine wpOp_skip (o := ⟨none, .store 50 (.tmp 5) (.tmp 42), _, _, _, none⟩) (w' := w5.setRow W.heap.size c.cs.toArray) rfl rfl (exec_store 50 _ _ rfl ⟨W.heap.size, 0, none⟩ _ rfl rfl hst) ⟨hSE, ?_⟩
    simp only [Act.put]
    refine tkE (S := S) (i := 16) (oi := ⟨some 6, .assign (.tmp 43), _, _, _, none⟩) (v := .bool t) rfl hSE ?_
    simp only [Act.put, lsE, lsZ, lsS]
    refine wpAnyH_done (by kernel_rfl) ?_ _
    obtain ⟨WE, HWE⟩ : ∃ WE, Hid (WE = w5.setRow W.heap.size c.cs.toArray) := ⟨_, rfl⟩
    have hrg2 : WE.rangeAt W.heap.size 0 c.cs := fun j v hv => (cell_of_row WE _ (0 + j) _ _ _ (by rw [HWE.out]; exact hRE)).trans (by simpa using hv)
    rw [← HWE.out] at hFq ⊢
    cases t
    ·have HN : Hid (Inv (i + 1) WE) := hq.1 rfl WE hFq
     clear HWE hRE hst hFE hSE hq
     go_wp2
     go_roundw
     case rel => exact ⟨i + 1, by omega, by go_num, HN⟩
     case measure => simp [intOf]; omega
    ·have HH := hq.2 rfl WE hFq
     clear HWE hRE hst hFE hSE hq
     go_wp2_with (first | (refine wpList_load_mid rfl 50 (.tmp 5) rfl W.heap.size 0 ?_ _ _ hrg2 Tryz.underlying50 rfl ?_ ?_; rfl; exact call_size))
     refine HH.mono ?_
     rintro e1 w9 (⟨rfl, hq9⟩ | ⟨g9, rfl, hq9⟩)
     ·have HN : Hid (Inv (i + 1) w9) := hq9
      clear hq9 HH
      go_wp2
      go_roundw
      case rel => exact ⟨i + 1, by omega, by go_num, HN⟩
      case measure => simp [intOf]; omega
     ·have HN : Hid (PF g9 w9) := hq9
      clear hq9 HH
      unfold trV
      go_wp2
      go_ret
      exact .inr ⟨g9, rfl, HN.out⟩
  ·obtain rfl : i = zs.length := by omega
   go_wp2
   go_ret
   exact .inl ⟨rfl, HR.out⟩
end
end Go.Proofs.YteebjgfalllbjaaGreatDoor
namespace Go.Proofs.YteebjgfalllbjaaGreatDoor
open Go.RowKit
theorem DP.nx_add (d : DP) (a c : Nat) : (d.nx a).nx c = d.nx (a + c) := by
 induction c with
 | zero => rfl
 | succ c ih => show ((d.nx a).nx c).next = (d.nx (a + c)).next; rw [ih]
theorem DS.after_after (s : DS) (a c : Nat) : (s.after a).after c = s.after (a + c) := by
 unfold DS.after; rw [DP.nx_add]
structure FdG (w : World) (X1 X2 X3 X4 V J A B n base : Nat) (cache tv fv : Value) (s : DS) : Prop where
 x1 : w.heap[X1]? = some (.cells #[.pointer (some ⟨V, 0, none⟩)] 155 (0, 0))
 x2 : w.heap[X2]? = some (.cells #[.pointer (some ⟨J, 0, none⟩)] 87 (0, 0))
 x3 : w.heap[X3]? = some (.cells #[tv] 127 (0, 0))
 x4 : w.heap[X4]? = some (.cells #[fv] 162 (0, 0))
 s : RdG w J V A B n base cache s 0
section
variable {w w' : World} {X1 X2 X3 X4 V J A B n base : Nat} {cache tv fv : Value} {s s' : DS}
theorem FdG.c1 (h : FdG w X1 X2 X3 X4 V J A B n base cache tv fv s) : w.cell? ⟨X1, 0, none⟩ = some (.pointer (some ⟨V, 0, none⟩)) := (cell_of_row w X1 0 _ _ _ h.x1).trans rfl
theorem FdG.c2 (h : FdG w X1 X2 X3 X4 V J A B n base cache tv fv s) : w.cell? ⟨X2, 0, none⟩ = some (.pointer (some ⟨J, 0, none⟩)) := (cell_of_row w X2 0 _ _ _ h.x2).trans rfl
theorem FdG.fr {S : Nat → Prop} (h : FdG w X1 X2 X3 X4 V J A B n base cache tv fv s) (hf : Fr S w w') (h1 : ¬ S X1) (h2 : ¬ S X2) (h3 : ¬ S X3) (h4 : ¬ S X4) (hV : ¬ S V) (hJ : ¬ S J) (hd : DSAt w' A B n base cache s') : FdG w' X1 X2 X3 X4 V J A B n base cache tv fv s' :=
 ⟨hf.keep h.x1 h1, hf.keep h.x2 h2, hf.keep h.x3 h3, hf.keep h.x4 h4, ⟨h.s.v.fr hf hV, hd, h.s.j.fr hf hJ⟩⟩
theorem FdG.frz (h : FdG w X1 X2 X3 X4 V J A B n base cache tv fv s) (hf : Fr (fun _ => False) w w') : FdG w' X1 X2 X3 X4 V J A B n base cache tv fv s :=
 h.fr hf id id id id id id (h.s.d.frz hf)
theorem FdG.ne (h : FdG w X1 X2 X3 X4 V J A B n base cache tv fv s) : X1 ≠ A ∧ X2 ≠ A ∧ X3 ≠ A ∧ X4 ≠ A ∧ V ≠ A ∧ J ≠ A ∧ X1 ≠ J ∧ X2 ≠ J ∧ X3 ≠ J ∧ X4 ≠ J := by
 have hd := h.s.d.d
 have hj := h.s.j
 refine ⟨?_, ?_, ?_, ?_, h.s.v.neK hd, ?_, ?_, ?_, ?_, ?_⟩ <;> intro e
 ·rw [← e] at hd; have := hd.symm.trans h.x1; simp at this
 ·rw [← e] at hd; have := hd.symm.trans h.x2; simp at this
 ·rw [← e] at hd; have := hd.symm.trans h.x3; simp at this
 ·rw [← e] at hd; have := hd.symm.trans h.x4; simp at this
 ·rw [← e] at hd; have := hd.symm.trans hj; simp at this
 ·rw [← e] at hj; have := hj.symm.trans h.x1; simp at this
 ·rw [← e] at hj; have := hj.symm.trans h.x2; simp at this
 ·rw [← e] at hj; have := hj.symm.trans h.x3; simp at this
 ·rw [← e] at hj; have := hj.symm.trans h.x4; simp at this
end
set_option maxRecDepth 100000 in
set_option maxHeartbeats 4000000 in
theorem Find1_gen {recs : List (List Value)} {tl : List Value} {w : World} {X1 X2 X3 X4 V J A B n base : Nat} {cache tv fv : Value} {s : DS} (h : FdG w X1 X2 X3 X4 V J A B n base cache tv fv s) (hq : s.d.Q) (hq1 : (s.after 1).d.Q) (hn8 : 8 ≤ n) (hn : n ≤ 400) (hL : LayT n (lain s.bs s.ents) recs tl) (hrl : recs.length < n) (hrec : ∀ r ∈ recs, RecOk r) (HIT : ¬ s.d.good → ∀ i, i < n → ItH i) (hgA : 0 ≠ A)
  (RP : Nat → World → Prop) (SR : Nat → Prop) (hR : ∀ w', Fr (fun b => b = A) w w' → RP 0 w') (hP : ∀ i W W', RP i W → Fr (fun b => b = A ∨ b = J) W W' → RP i W') (hSR : (∀ b, DkF A B cache b → ¬ SR b) ∧ ¬ SR J ∧ ¬ SR V ∧ ¬ SR X2 ∧ ¬ SR X3 ∧ ¬ SR X4) (hGO : ∀ W, Fr (fun b => b = A ∨ b = J ∨ SR b) w W → GOk W)
  (hH : ∀ i r W, recs[i]? = some r → RP i W → W.heap[X3]? = some (.cells #[tv] 127 (0, 0)) → W.heap[X4]? = some (.cells #[fv] 162 (0, 0)) → Calls Tryz.prog 115 #[.agg r.toArray, .pointer (some ⟨X3, 0, none⟩), .pointer (some ⟨X4, 0, none⟩)] W fun e w' => e = .returned (.bool true) ∧ RP (i + 1) w' ∧ Fr SR W w') :
  Calls Tryz.prog 111 #[.pointer (some ⟨X1, 0, none⟩), .pointer (some ⟨X2, 0, none⟩), .pointer (some ⟨X3, 0, none⟩), .pointer (some ⟨X4, 0, none⟩)] w fun e w' => JrQ RP SR J V A B n base cache s recs.length (n + 1) w e w' := by
 obtain ⟨n1, n2, n3, n4, nV, nJ, m1, m2, m3, m4⟩ := h.ne
 obtain ⟨bq, hbq⟩ : ∃ bq, bq = false := ⟨_, rfl⟩
 have hqh : ∀ w, (binOp .neq 130 (.agg (blkOf (lain s.bs s.ents) 0).toArray) (.agg (headB n).toArray)).run Tryz.prog w = .ok (.bool bq) w := by
  intro w; rw [hbq, hL.head]; exact neq_head n w
 go_enter Tryz.func111, Tryz.ntmps111
 go_wp2_with fail
 have hlift : Tryz.prog.follows .mixedOrders = true := by kernel_rfl
 obtain ⟨W, HW⟩ : ∃ W, Hid (W = w.drew) := ⟨_, rfl⟩
 have hfW : Fr (fun _ => False) w W := by rw [HW.out]; exact (Fr.refl _ _).drew
 have hhW := h.frz hfW
 have hFW : Fr (fun b => b = A) w W := hfW.mono (fun _ _ h => h.elim)
 let S : World → Prop := fun w' => w'.cell? ⟨X1, 0, none⟩ = some (.pointer (some ⟨V, 0, none⟩))
 have hS : S W := hhW.c1
 refine wp_region_held (S := S) hlift ?_
 change wpAnyH _ _ _ _ S _ _ _ (World.drew _)
 rw [← HW.out]
 clear HW
 refine tkY (S := S) (i := 0) (oi := ⟨some 5, .load 155 (.tmp 0), _, _, _, none⟩) (v := .pointer (some ⟨V, 0, none⟩)) rfl (Or.inl ⟨rfl, fun w' hs => exec_load 155 (.tmp 0) rfl ⟨X1, 0, none⟩ rfl (run_loadAt_one hs Tryz.underlying155 rfl)⟩) hS ?_
 simp only [Act.put, lsE, lsZ, lsS]
 refine tkY (S := S) (i := 2) (oi := ⟨some 7, .load 155 (.tmp 0), _, _, _, none⟩) (v := .pointer (some ⟨V, 0, none⟩)) rfl (Or.inl ⟨rfl, fun w' hs => exec_load 155 (.tmp 0) rfl ⟨X1, 0, none⟩ rfl (run_loadAt_one hs Tryz.underlying155 rfl)⟩) hS ?_
 simp only [Act.put, lsE, lsZ, lsS]
 refine wpAnyH_all (rs := [1]) (by kernel_rfl) (by simp) ?_
 intro i1 hi1
 obtain rfl : i1 = 1 := by simpa using hi1
 have hld := Load_ds hhW.s.v hhW.s.d hq.ok 0 (by omega) (fun hg => HIT hg 0 (by omega)) (hGO W (hfW.mono (fun _ _ h => h.elim))) hgA
 rcases Bool.eq_false_or_eq_true s.d.bad with hbd | hbd
 ·refine wpOp_panics (o := ⟨some 6, .call { callee := .value (.func 112), args := #[.tmp 5, .const (.int .i64 0)], argTypes := _ }, _, _, _, none⟩) (f := 112) (args := #[.pointer (some ⟨V, 0, none⟩), .int .i64 0]) rfl rfl (by kernel_rfl) ?_
  refine hld.mono ?_
  rintro e w2 ⟨hd2, hf2, he2⟩
  rw [if_pos hbd] at he2
  obtain ⟨gg, rfl, htr⟩ := he2
  exact ⟨_, rfl, rfl, .inr ⟨gg, 0, rfl, htr, hd2, hbd, by omega, (hFW.mono (fun _ _ h => .inl h)).trans hf2 (fun _ _ h => .inl h)⟩⟩
 refine wpOp_call (o := ⟨some 6, .call { callee := .value (.func 112), args := #[.tmp 5, .const (.int .i64 0)], argTypes := _ }, _, _, _, none⟩) (f := 112) (args := #[.pointer (some ⟨V, 0, none⟩), .int .i64 0]) rfl rfl (by kernel_rfl) ?_
 refine hld.mono ?_
 rintro e w2 ⟨hd2, hf2, he2⟩
 rw [if_neg (by rw [hbd]; simp)] at he2
 subst he2
 have hh2 : FdG w2 X1 X2 X3 X4 V J A B n base cache tv fv (s.after 1) := hhW.fr hf2 n1 n2 n3 n4 nV nJ hd2
 have hF2 : Fr (fun b => b = A) w w2 := hFW.trans hf2 (fun _ _ h => h)
 refine ⟨_, rfl, hh2.c1, ?_⟩
 simp only [Act.put, lsE, lsZ, lsS]
 refine wpAnyH_all (rs := [3]) (by kernel_rfl) (by simp) ?_
 intro i3 hi3
 obtain rfl : i3 = 3 := by simpa using hi3
 refine wpOp_call (o := ⟨some 8, .call { callee := .value (.func 110), args := #[.tmp 7], argTypes := _ }, _, _, _, none⟩) (f := 110) (args := #[.pointer (some ⟨V, 0, none⟩)]) rfl rfl (by kernel_rfl) ?_
 refine (vBlocks_ok hh2.s.v).mono ?_
 rintro e w' ⟨rfl, rfl⟩
 refine ⟨_, rfl, hh2.c1, ?_⟩
 simp only [Act.put, lsE, lsZ, lsS]
 refine wpAnyH_all (rs := [4]) (by kernel_rfl) (by simp) ?_
 intro i4 hi4
 obtain rfl : i4 = 4 := by simpa using hi4
 refine wpOp_call (o := ⟨some 9, .call { callee := .value (.func 113), args := #[.tmp 8], argTypes := _ }, _, _, _, none⟩) (f := 113) (args := #[.int .i64 n]) rfl rfl (by kernel_rfl) ?_
 refine (Head_ok _ n hn).mono ?_
 rintro e w3 ⟨rfl, hf3⟩
 have hh3 := hh2.frz hf3
 have hF3 : Fr (fun b => b = A) w w3 := hF2.trans hf3 (fun _ _ h => h.elim)
 have hS3 : S w3 := hh3.c1
 refine ⟨_, rfl, hh3.c1, ?_⟩
 simp only [Act.put, lsE, lsZ, lsS]
 refine tkY (S := S) (i := 5) (oi := ⟨some 10, .binOp .neq 130 (.tmp 6) (.tmp 9) 130, _, _, _, none⟩) (v := .bool bq) rfl (Or.inl ⟨rfl, fun w' _ => exec_neq_block rfl rfl rfl (hqh w')⟩) hS3 ?_
 simp only [Act.put, lsE, lsZ, lsS]
 refine wpAnyH_done (by kernel_rfl) ?_ _
 clear hS hS3
 subst hbq
 have c2 := hh3.c2
 have HR3 : RP 0 w3 := hR w3 hF3
 have hSR' := hSR
 obtain ⟨q1, q2, q3, q5, q6, q7⟩ := hSR
 have HJ := jread_gen (t1 := X3) (t2 := X4) RP SR hh3.s hq1 hL hn8 hn hrl hrec HR3 (fun hg => HIT (fun h => hg (h.after 1))) (fun W hf => hGO W ((hF3.mono (fun _ _ h => .inl h)).trans hf (fun _ _ h => h))) hgA hP ⟨q1, q2, q3⟩ (fun i r W hr hRP hf => hH i r W hr hRP (hf.keep hh3.x3 (by rintro (e | e | e); exact n3 e; exact m3 e; exact q6 e)) (hf.keep hh3.x4 (by rintro (e | e | e); exact n4 e; exact m4 e; exact q7 e)))
 go_wp2_with fail
 refine HJ.mono ?_
 rintro e w4 (⟨rfl, cl, g1, g3, g4, g5⟩ | ⟨gg, cl, rfl, htr, hd, hbd2, hc, g5⟩)
 ·have HF4 : Hid (Fr (fun b => b = A ∨ b = J ∨ SR b) w w4) := (hF3.mono (fun _ _ h => .inl h)).trans g5 (fun _ _ h => h)
  rw [DS.after_after] at g3
  go_wp2
  go_ret
  exact .inl ⟨rfl, 1 + cl, by omega, g3, g4, HF4.out⟩
 ·rw [DS.after_after] at hd hbd2
  exact ⟨rfl, .inr ⟨gg, 1 + cl, rfl, htr, hd, hbd2, by omega, (hF3.mono (fun _ _ h => .inl h)).trans g5 (fun _ _ h => h)⟩⟩
theorem fdW_g {w : World} {V A B n base : Nat} {cache tv fv : Value} {s : DS} (hv : VolAt w V A n) (hd : DSAt w A B n base cache s) :
  FdG (fdW w V tv fv) w.heap.size (w.heap.size + 4) (w.heap.size + 1) (w.heap.size + 2) V (w.heap.size + 3) A B n base cache tv fv s := by
 have hf := fdW_fr w V tv fv
 refine ⟨?_, ?_, ?_, ?_, hv.fr hf id, hd.frz hf, ?_⟩
 ·unfold fdW
  rw [heap_alloc_lt _ _ _ (by simp <;> omega), heap_alloc_lt _ _ _ (by simp <;> omega), heap_alloc_lt _ _ _ (by simp <;> omega), heap_alloc_lt _ _ _ (by simp <;> omega)]
  exact heap_alloc_at _ _
 ·unfold fdW
  have := heap_alloc_at ((((w.alloc (.cells #[.pointer (some ⟨V, 0, none⟩)] 155)).alloc (.cells #[tv] 127)).alloc (.cells #[fv] 162)).alloc (.cells #[.pointer (some ⟨V, 0, none⟩), .int .i64 1, .bool false] 179)) (.cells #[.pointer (some ⟨w.heap.size + 1 + 1 + 1, 0, none⟩)] 87)
  simpa using this
 ·unfold fdW
  rw [heap_alloc_lt _ _ _ (by simp <;> omega), heap_alloc_lt _ _ _ (by simp <;> omega), heap_alloc_lt _ _ _ (by simp <;> omega)]
  have := heap_alloc_at (w.alloc (.cells #[.pointer (some ⟨V, 0, none⟩)] 155)) (.cells #[tv] 127)
  simpa using this
 ·unfold fdW
  rw [heap_alloc_lt _ _ _ (by simp <;> omega), heap_alloc_lt _ _ _ (by simp <;> omega)]
  have := heap_alloc_at ((w.alloc (.cells #[.pointer (some ⟨V, 0, none⟩)] 155)).alloc (.cells #[tv] 127)) (.cells #[fv] 162)
  simpa using this
 ·unfold fdW JAt
  rw [heap_alloc_lt _ _ _ (by simp <;> omega)]
  have := heap_alloc_at (((w.alloc (.cells #[.pointer (some ⟨V, 0, none⟩)] 155)).alloc (.cells #[tv] 127)).alloc (.cells #[fv] 162)) (.cells #[.pointer (some ⟨V, 0, none⟩), .int .i64 1, .bool false] 179)
  simpa using this
section
variable {w : World} {V A B n base : Nat} {cache : Value} {s : DS} {tfn ffn : Fn} {ta tc fa fc : Array Value}
def FnQ (RP : Nat → World → Prop) (SR : Nat → Prop) (J V A B n base : Nat) (cache : Value) (s : DS) (l m : Nat) (w : World) (e : Ending) (w' : World) : Prop :=
 (e = .returned (.tuple #[.pointer (some ⟨J, 0, none⟩), .nilIface]) ∧ ∃ c, c ≤ m ∧ RdG w' J V A B n base cache (s.after c) l ∧ RP l w' ∧ Fr (fun b => b = A ∨ SR b) w w' ∧ w.heap.size + 6 ≤ w'.heap.size) ∨
 (∃ g c, e = .returned (.tuple #[.pointer none, trV g]) ∧ TrAt w' g ∧ DSAt w' A B n base cache (s.after (c + 1)) ∧ (s.after c).d.bad = true ∧ c ≤ m ∧ Fr (fun b => b = A ∨ SR b) w w')
set_option maxRecDepth 100000 in
set_option maxHeartbeats 1000000 in
theorem Find_gen {recs : List (List Value)} {tl : List Value} (hv : VolAt w V A n) (hd : DSAt w A B n base cache s) (hq : s.d.Q) (hq1 : (s.after 1).d.Q) (hn8 : 8 ≤ n) (hn : n ≤ 400) (hL : LayT n (lain s.bs s.ents) recs tl) (hrl : recs.length < n) (hrec : ∀ r ∈ recs, RecOk r) (HIT : ¬ s.d.good → ∀ i, i < n → ItH i) (hgA : 0 ≠ A) (hGw : GOk w)
  (RP : Nat → World → Prop) (SR : Nat → Prop) (hR : ∀ w', Fr (fun b => b = A) w w' → w.heap.size + 6 ≤ w'.heap.size → RP 0 w') (hP : ∀ i W W', RP i W → Fr (fun b => b = A ∨ (w.heap.size ≤ b ∧ b < w.heap.size + 6)) W W' → RP i W') (hSR : ∀ b, SR b → b < w.heap.size ∧ ¬ DkF A B cache b ∧ b ≠ V ∧ b ≠ 0)
  (hH : ∀ i r W, recs[i]? = some r → RP i W → W.heap[w.heap.size + 1]? = some (.cells #[.func tfn ta tc] 127 (0, 0)) → W.heap[w.heap.size + 2]? = some (.cells #[.func ffn fa fc] 162 (0, 0)) → Calls Tryz.prog 115 #[.agg r.toArray, .pointer (some ⟨w.heap.size + 1, 0, none⟩), .pointer (some ⟨w.heap.size + 2, 0, none⟩)] W fun e w' => e = .returned (.bool true) ∧ RP (i + 1) w' ∧ Fr (fun b => SR b ∨ w.heap.size + 6 ≤ b) W w') :
  Calls Tryz.prog 75 #[.pointer (some ⟨V, 0, none⟩), .func tfn ta tc, .func ffn fa fc] w fun e w' => FnQ RP SR (w.heap.size + 3) V A B n base cache s recs.length (n + 1) w e w' := by
 have hmf : ∀ (fn : Fn) (first cap : Array Value) (w : World), (Instr.makeFunc fn first cap).run Tryz.prog w = .ok (.func fn first cap) w := fun _ _ _ _ => rfl
 have hs := fdW_g (tv := .func tfn ta tc) (fv := .func ffn fa fc) hv hd
 have hfw := fdW_fr w V (.func tfn ta tc) (.func ffn fa fc)
 have hsz := fdW_size w V (.func tfn ta tc) (.func ffn fa fc)
 obtain ⟨W, HW⟩ : ∃ W, Hid (W = fdW w V (.func tfn ta tc) (.func ffn fa fc)) := ⟨_, rfl⟩
 rw [← HW.out] at hs hfw hsz
 have hAl := hd.d.lt
 have hVl := lt_of_heap hv
 have hGl : 0 < w.heap.size := World.block_lt_of_cell? w _ hGw
 have hdl : ∀ b, DkF A B cache b → b < w.heap.size := by
  rintro b (e | e | e)
  ·omega
  ·rw [e]; exact lt_of_heap hd.r.1
  ·exact (hd.q.o.lt b e).2
 have hT := Try_gen (w := W) (f := 111) (caps := #[.pointer (some ⟨w.heap.size, 0, none⟩), .pointer (some ⟨w.heap.size + 4, 0, none⟩), .pointer (some ⟨w.heap.size + 1, 0, none⟩), .pointer (some ⟨w.heap.size + 2, 0, none⟩)])
  (Q := fun v w' => (v = .nilIface ∧ w'.cell? ⟨w.heap.size + 4, 0, none⟩ = some (.pointer (some ⟨w.heap.size + 3, 0, none⟩)) ∧ ∃ c, c ≤ n + 1 ∧ RdG w' (w.heap.size + 3) V A B n base cache (s.after c) recs.length ∧ RP recs.length w' ∧ Fr (fun b => b = A ∨ SR b) w w' ∧ w.heap.size + 6 ≤ w'.heap.size) ∨ (∃ g c, v = trV g ∧ TrAt w' g ∧ DSAt w' A B n base cache (s.after (c + 1)) ∧ (s.after c).d.bad = true ∧ c ≤ n + 1 ∧ Fr (fun b => b = A ∨ SR b) w w')) (fun _ => by kernel_rfl) (by
   have hfa : Fr (fun _ => False) W (W.alloc (.cells #[.nilIface] 36)) := (Fr.refl _ _).alloc _
   have hfb : Fr (fun b => b = A) w (W.alloc (.cells #[.nilIface] 36)) := (hfw.mono (fun _ _ h => h.elim)).trans (hfa.mono (fun _ _ h => h.elim)) (fun _ _ h => h)
   have hs2 := hs.frz hfa
   have nS : ∀ b, b < w.heap.size + 6 → w.heap.size ≤ b → ¬ (SR b ∨ w.heap.size + 6 ≤ b) := fun b h1 h2 h => by
    rcases h with h | h
    ·have := (hSR b h).1; omega
    ·omega
   refine (Find1_gen hs2 hq hq1 hn8 hn hL hrl hrec HIT hgA RP (fun b => SR b ∨ w.heap.size + 6 ≤ b) (fun w' hf' => hR w' (hfb.trans hf' (fun _ _ h => h)) (by have h1 := hf'.size; simp at h1; omega)) (fun i W1 W2 hr1 hf1 => hP i W1 W2 hr1 (hf1.mono (fun b _ h => by rcases h with h | h; exact .inl h; exact .inr (by omega)))) ⟨?_, nS _ (by omega) (by omega), ?_, nS _ (by omega) (by omega), nS _ (by omega) (by omega), nS _ (by omega) (by omega)⟩ (fun W1 hf1 => ?_) (fun i r W1 hr1 hrp h3 h4 => hH i r W1 hr1 hrp h3 h4)).mono ?_
   ·rintro b hb (h | h)
    ·exact (hSR _ h).2.1 hb
    ·have := hdl b hb; omega
   ·rintro (h | h)
    ·exact (hSR _ h).2.2.1 rfl
    ·omega
   ·refine (hGw.fr hfb hgA).fr hf1 ?_
    rintro (h | h | h | h)
    ·exact hgA h
    ·omega
    ·exact (hSR _ h).2.2.2 rfl
    ·omega
   rintro e w' hj
   have gF : ∀ {w' : World}, Fr (fun b => b = A ∨ b = w.heap.size + 3 ∨ (SR b ∨ w.heap.size + 6 ≤ b)) (W.alloc (.cells #[.nilIface] 36)) w' → Fr (fun b => b = A ∨ SR b) w w' := fun g5 => (hfb.mono (fun _ _ h => .inl h)).trans g5 (fun b hb h => by
    rcases h with h | h | h | h
    ·exact .inl h
    ·omega
    ·exact .inr h
    ·omega)
   have hset : ∀ (u : World) (v : Value), Fr (fun b => b = W.heap.size) u (u.setCell ⟨W.heap.size, 0, none⟩ v) := fun u v => Fr.set1 _ _ _ _
   have hdn : ∀ b, DkF A B cache b → ¬ b = W.heap.size := fun b hb e => by have := hdl b hb; omega
   rcases hj with ⟨rfl, c, g1, g3, g4, g5⟩ | ⟨g, c, rfl, htr, hd2, hbd, hc, g5⟩
   ·have hk : ∀ {b : Nat} {o : Obj}, (W.alloc (.cells #[.nilIface] 36)).heap[b]? = some o → b ≠ A → b ≠ w.heap.size + 3 → ¬ (SR b ∨ w.heap.size + 6 ≤ b) → w'.heap[b]? = some o := fun hb h1 h2 h3 => g5.keep hb (by rintro (h | h | h); exact h1 h; exact h2 h; exact h3 h)
    have hE : w'.heap[W.heap.size]? = some (.cells #[.nilIface] 36 (0, 0)) := hk (heap_alloc_at _ _) (by omega) (by omega) (nS _ (by omega) (by omega))
    have hX2 := hk hs2.x2 (by omega) (by omega) (nS _ (by omega) (by omega))
    refine ⟨hE, .inl ⟨_, rfl, rfl, .inl ⟨rfl, (hset _ _).cell ((cell_of_row w' _ 0 _ _ _ hX2).trans rfl) (by simp; omega), c, g1, ⟨g3.v.fr (hset _ _) (by omega), g3.d.fr (hset _ _) hdn, g3.j.fr (hset _ _) (by omega)⟩, hP _ _ _ g4 ((hset _ _).mono (fun b _ h => .inr (by omega))), (gF g5).trans (hset _ _) (fun b hb h => by omega), ?_⟩⟩⟩
    have h5 := g5.size
    have h6 := (hset w' .nilIface).size
    simp at h5
    omega
   ·have hE : w'.heap[W.heap.size]? = some (.cells #[.nilIface] 36 (0, 0)) := g5.keep (heap_alloc_at _ _) (by rintro (h | h | h); omega; omega; exact nS _ (by omega) (by omega) h)
    have hGw' : GOk w' := hGw.fr (gF g5) (by rintro (h | h); exact hgA h; exact (hSR _ h).2.2.2 rfl)
    refine ⟨hE, .inr ⟨g, rfl, hGw', fun w1 hf1 => .inr ⟨g, c, rfl, ?_, (hd2.frz hf1).fr (hset _ _) hdn, hbd, hc, ((gF g5).trans (hf1.mono (fun _ _ h => h.elim)) (fun _ _ h => h)).trans (hset _ _) (fun b hb h => by omega)⟩⟩⟩
    refine (htr.fr hf1 (fun _ _ _ _ _ h => h)).fr (hset _ _) (fun b cc t hb ht e => ?_)
    subst e
    rw [hf1.keep hE (fun h => h)] at hb; simp at hb
    rw [← hb.2] at ht
    revert ht; decide)
 unfold fdW at HW
 clear hs hfw
 go_enter Tryz.func75, Tryz.ntmps75
 go_wp2_with fail
 rw [← HW.out]
 refine hT.mono ?_
 rintro e w' ⟨v, rfl, ⟨rfl, hc, HX⟩ | ⟨g, c, rfl, HX⟩⟩
 ·have HX' : Hid (∃ c, c ≤ n + 1 ∧ RdG w' (w.heap.size + 3) V A B n base cache (s.after c) recs.length ∧ RP recs.length w' ∧ Fr (fun b => b = A ∨ SR b) w w' ∧ w.heap.size + 6 ≤ w'.heap.size) := HX
  clear HW hT HX
  go_wp2
  go_ret2
  exact .inl ⟨rfl, HX'.out⟩
 ·have HX' : Hid (TrAt w' g ∧ DSAt w' A B n base cache (s.after (c + 1)) ∧ (s.after c).d.bad = true ∧ c ≤ n + 1 ∧ Fr (fun b => b = A ∨ SR b) w w') := HX
  clear HW hT HX
  unfold trV
  go_wp2
  go_ret2
  exact .inr ⟨g, c, rfl, HX'.out⟩
end
end Go.Proofs.YteebjgfalllbjaaGreatDoor
namespace Go.Proofs.YteebjgfalllbjaaGreatDoor
open Go.RowKit
def ErrT (w : World) (v : Value) : Prop := ∃ f s g, v = .iface 117 (.pointer (some ⟨f, 0, none⟩)) ∧ w.heap[f]? = some (.cells #[.string s, trV g] 119 (0, 0)) ∧ TrAt w g
theorem wrapped_tr (s : ByteArray) (g : Nat) (w : World) : Calls Tryz.prog 41 #[.string s, .iface 258 (.pointer (some ⟨g, 0, none⟩))] w fun e w' => e = .returned (.iface 117 (.pointer (some ⟨w.heap.size, 0, none⟩))) ∧ w' = w.alloc (.cells #[.string s, trV g] 119) := by
 unfold trV
 go_enter Tryz.func41, Tryz.ntmps41
 go_wp2
 go_ret
 exact ⟨rfl, rfl⟩
section
variable {w : World} {A B n base : Nat} {cache : Value} {s : DS} {d : DP} {cfn : Fn} {ca cc : Array Value}
theorem dBlocks_gen (h : DkAt w A B n cache d) :
  Calls Tryz.prog 204 #[.pointer (some ⟨A, 0, none⟩)] w fun e w' => e = .returned (.int .i64 n) ∧ w' = w := by
 have c0 := h.c0
 clear h
 go_enter Tryz.func204, Tryz.ntmps204
 go_wp2
 go_ret
 exact ⟨rfl, rfl⟩
theorem count_gen (h : DkAt w A B n cache d) :
  Calls Tryz.prog 109 #[.iface 31 (.pointer (some ⟨A, 0, none⟩))] w fun e w' => e = .returned (.int .i64 n) ∧ Fr (fun _ => False) w w' := by
 have hmf : ∀ (fn : Fn) (first cap : Array Value) (w : World), (Instr.makeFunc fn first cap).run Tryz.prog w = .ok (.func fn first cap) w := fun _ _ _ _ => rfl
 have mb := method_Blocks
 go_enter_defers Tryz.func109, Tryz.ntmps109
 go_wp2_with fail
 refine (dBlocks_gen (h.alloc _)).mono ?_
 rintro e w2 ⟨rfl, rfl⟩
 go_wp2
 refine leaves_cons (f := 152) (args := #[.pointer (some ⟨w.heap.size, 0, none⟩)]) (by simp) (by simp [go_sem]) ?_
 refine (count1_idle ⟨w.heap.size, 0, none⟩ _).mono ?_
 rintro e u' w'' ⟨rfl, rfl, rfl⟩
 simp [Leaves, settle, results, Tryz.results109, go_sem]
 exact (Fr.refl _ _).alloc _

theorem New_gen (h : DkAt w A B n cache d) (hn8 : 8 ≤ n) (hn : n ≤ 400) :
  Calls Tryz.prog 72 #[.iface 31 (.pointer (some ⟨A, 0, none⟩))] w fun e w' => ∃ V, e = .returned (.tuple #[.pointer (some ⟨V, 0, none⟩), .nilIface]) ∧ VolAt w' V A n ∧ w.heap.size ≤ V ∧ Fr (fun _ => False) w w' := by
 have hn' : ¬ (n : Int) < 8 := by omega
 have hn'' : ¬ (400 : Int) < n := by omega
 have hd : decide ((n : Int) < 8) = false := by simpa using hn'
 have hd2 : decide ((400 : Int) < n) = false := by simpa using hn''
 go_enter Tryz.func72, Tryz.ntmps72
 go_wp2_with fail
 refine (count_gen h).mono ?_
 rintro e w2 ⟨rfl, hf⟩
 go_wp2
 go_ret2
 exact ⟨w2.heap.size, rfl, heap_alloc_at _ _, hf.size, hf.alloc _⟩

def OpnG (RP : Nat → Nat → World → Prop) (A B n base : Nat) (cache : Value) (s : DS) (p : Int) (cv : Value) (recs : List (List Value)) (w : World) (X : Nat) (w' : World) : Prop :=
 ∃ V R J c, EngAt w' X J R 0 p cv ∧ c ≤ n + 1 ∧ RdG w' J V A B n base cache (s.after c) recs.length ∧ RP R recs.length w' ∧ w.heap.size ≤ V ∧ V < R ∧ J = R + 4 ∧ R + 7 ≤ X ∧ Fr (fun b => b = A) w w'
def OpG (RP : Nat → Nat → World → Prop) (A B n base : Nat) (cache : Value) (s : DS) (p : Int) (cv : Value) (recs : List (List Value)) (w : World) (e : Ending) (w' : World) : Prop :=
 (∃ X, e = .returned (.tuple #[.pointer (some ⟨X, 0, none⟩), .nilIface]) ∧ OpnG RP A B n base cache s p cv recs w X w') ∨
 (∃ v c, e = .returned (.tuple #[.pointer none, v]) ∧ ErrT w' v ∧ DSAt w' A B n base cache (s.after (c + 1)) ∧ (s.after c).d.bad = true ∧ c ≤ n + 1 ∧ Fr (fun b => b = A) w w')
set_option maxRecDepth 100000 in
set_option maxHeartbeats 1000000 in
theorem sOpen_gen {recs : List (List Value)} {tl : List Value} (p : Int) (hp1 : ¬ p < 1) (hp2 : ¬ 64 < p) (hd : DSAt w A B n base cache s) (hq : s.d.Q) (hq1 : (s.after 1).d.Q) (hn8 : 8 ≤ n) (hn : n ≤ 400) (hL : LayT n (lain s.bs s.ents) recs tl) (hrl : recs.length < n) (hrec : ∀ r ∈ recs, RecOk r) (HIT : ¬ s.d.good → ∀ i, i < n → ItH i) (hgA : 0 ≠ A) (hGw : GOk w)
  (RP : Nat → Nat → World → Prop) (hR : ∀ R W, w.heap.size ≤ R → W.heap[R]? = some (.cells #[.slice none 0 0, .int .i64 ((n : Int) - 1)] 176 (0, 0)) → R + 7 ≤ W.heap.size → RP R 0 W)
  (hP : ∀ R i W W', w.heap.size ≤ R → RP R i W → Fr (fun b => b = A ∨ (R < b ∧ b < R + 7)) W W' → RP R i W')
  (hH : ∀ R i r W, w.heap.size ≤ R → recs[i]? = some r → RP R i W → W.heap[R + 2]? = some (.cells #[.func (.func 63) #[.pointer (some ⟨R, 0, none⟩)] #[]] 127 (0, 0)) → W.heap[R + 3]? = some (.cells #[.func (.func 76) #[.pointer (some ⟨R, 0, none⟩)] #[]] 162 (0, 0)) → Calls Tryz.prog 115 #[.agg r.toArray, .pointer (some ⟨R + 2, 0, none⟩), .pointer (some ⟨R + 3, 0, none⟩)] W fun e w' => e = .returned (.bool true) ∧ RP R (i + 1) w' ∧ Fr (fun b => b = R ∨ R + 7 ≤ b) W w') :
  Calls Tryz.prog 46 #[.iface 31 (.pointer (some ⟨A, 0, none⟩)), .int .i64 p, .func cfn ca cc] w fun e w' => OpG RP A B n base cache s p (.func cfn ca cc) recs w e w' := by
 have hmf : ∀ (fn : Fn) (first cap : Array Value) (w : World), (Instr.makeFunc fn first cap).run Tryz.prog w = .ok (.func fn first cap) w := fun _ _ _ _ => rfl
 have hd1 : decide (p < 1) = false := by simpa using hp1
 have hd2 : decide (64 < p) = false := by simpa using hp2
 have hAl := hd.d.lt
 have hGl : 0 < w.heap.size := World.block_lt_of_cell? w _ hGw
 have hdl : ∀ b, DkF A B cache b → b < w.heap.size := by
  rintro b (e | e | e)
  ·omega
  ·rw [e]; exact lt_of_heap hd.r.1
  ·exact (hd.q.o.lt b e).2
 go_enter Tryz.func46, Tryz.ntmps46
 go_wp2_with fail
 refine (New_gen hd.d hn8 hn).mono ?_
 rintro e w2 ⟨V, rfl, hv, hVl, hf⟩
 go_wp2_with fail
 refine (jRoom_ok hv (by omega) hn).mono ?_
 rintro e w' ⟨rfl, rfl⟩
 go_wp2_with fail
 refine (rollNew_ok _ _).mono ?_
 rintro e w3 ⟨rfl, rfl⟩
 have hVl2 := lt_of_heap hv
 have hsz := hf.size
 obtain ⟨R, HRR⟩ : ∃ R, Hid (R = w'.heap.size) := ⟨_, rfl⟩
 have hf3 : Fr (fun _ => False) w' (w'.alloc (.cells #[.slice none 0 0, .int .i64 ((n : Int) - 1)] 176)) := (Fr.refl _ _).alloc _
 have hroll : (w'.alloc (.cells #[.slice none 0 0, .int .i64 ((n : Int) - 1)] 176)).heap[w'.heap.size]? = some (.cells #[.slice none 0 0, .int .i64 ((n : Int) - 1)] 176 (0, 0)) := heap_alloc_at _ _
 have hsz3 : (w'.alloc (.cells #[.slice none 0 0, .int .i64 ((n : Int) - 1)] 176)).heap.size = R + 1 := by rw [HRR.out]; simp
 obtain ⟨W3, HW3⟩ : ∃ W3, Hid (W3 = w'.alloc (.cells #[.slice none 0 0, .int .i64 ((n : Int) - 1)] 176)) := ⟨_, rfl⟩
 have hRl : w.heap.size ≤ R := by rw [HRR.out]; exact hsz
 have hVR : V < R := by rw [HRR.out]; exact hVl2
 rw [← HW3.out] at hf3 hroll hsz3 ⊢
 rw [← HRR.out] at hroll ⊢
 have hf13 : Fr (fun b => b = A) w W3 := (hf.mono (fun _ _ h => h.elim)).trans (hf3.mono (fun _ _ h => h.elim)) (fun _ _ h => h)
 have HF := Find_gen (w := W3) (tfn := .func 63) (ta := #[.pointer (some ⟨R, 0, none⟩)]) (tc := #[]) (ffn := .func 76) (fa := #[.pointer (some ⟨R, 0, none⟩)]) (fc := #[]) (hv.fr hf3 id) ((hd.frz hf).frz hf3) hq hq1 hn8 hn hL hrl hrec HIT hgA ((hGw.fr hf id).fr hf3 id) (RP R) (fun b => b = R)
  (fun w4 hf4 h46 => hR R w4 hRl (hf4.keep hroll (by omega)) (by omega)) (fun i W1 W2 hr1 hf1 => hP R i W1 W2 hRl hr1 (hf1.mono (fun b _ h => by rw [hsz3] at h; rcases h with h | h; exact .inl h; exact .inr (by omega)))) (fun b hb => ⟨by omega, fun h => by have := hdl b h; omega, by omega, by omega⟩)
  (fun i r W hr1 hrp h3 h4 => by
   rw [hsz3] at h3 h4 ⊢
   refine (hH R i r W hRl hr1 hrp h3 h4).mono ?_
   rintro e w5 ⟨h1, h2, h3⟩
   exact ⟨h1, h2, h3.mono (fun b _ h => by rcases h with h | h; exact .inl h; exact .inr (by omega))⟩)
 clear hroll HW3 HRR hf3 hv hH hR
 go_wp2_with fail
 refine HF.mono ?_
 rintro e w5 (⟨rfl, cl, g1, g3, g4, g5, g6⟩ | ⟨gg, cl, rfl, htr, hd5, hbd, hc, g5⟩)
 ·have hsz5 := g5.size
  rw [hsz3] at g3 g6 ⊢
  have hfe : Fr (fun _ => False) w5 (w5.alloc (.cells #[.pointer (some ⟨R + 1 + 3, 0, none⟩), .pointer (some ⟨R, 0, none⟩), .bool false, .int .i64 0, .int .i64 p, .func cfn ca cc] 91)) := (Fr.refl _ _).alloc _
  have HQ : Hid (R + 7 ≤ w5.heap.size → OpnG RP A B n base cache s p (.func cfn ca cc) recs w w5.heap.size (w5.alloc (.cells #[.pointer (some ⟨R + 1 + 3, 0, none⟩), .pointer (some ⟨R, 0, none⟩), .bool false, .int .i64 0, .int .i64 p, .func cfn ca cc] 91))) :=
   fun h7 => ⟨V, R, R + 1 + 3, cl, heap_alloc_at _ _, g1, g3.frz hfe, hP R _ _ _ hRl g4 (hfe.mono (fun _ _ h => h.elim)), hVl, hVR, by omega, h7, (hf13.trans g5 (fun b hb h => by rcases h with h | h; exact h; omega)).trans hfe (fun _ _ h => h.elim)⟩
  clear HF hfe g4 g5 hf13 hP
  go_wp2
  go_ret2
  exact .inl ⟨_, rfl, HQ.out (by omega)⟩
 ·have HD : Hid (TrAt w5 gg ∧ DSAt w5 A B n base cache (s.after (cl + 1)) ∧ Fr (fun b => b = A) w w5) := ⟨htr, hd5, hf13.trans g5 (fun b hb h => by rcases h with h | h; exact h; omega)⟩
  clear HF g5 hf13 hP htr hd5
  unfold trV
  go_wp2_with fail
  refine (wrapped_tr _ gg w5).mono ?_
  rintro e w6 ⟨rfl, rfl⟩
  have hfe : Fr (fun _ => False) w5 (w5.alloc (.cells #[.string ⟨#[79, 112, 101, 110]⟩, trV gg] 119)) := (Fr.refl _ _).alloc _
  have HE : Hid (ErrT (w5.alloc (.cells #[.string ⟨#[79, 112, 101, 110]⟩, trV gg] 119)) (.iface 117 (.pointer (some ⟨w5.heap.size, 0, none⟩))) ∧ DSAt (w5.alloc (.cells #[.string ⟨#[79, 112, 101, 110]⟩, trV gg] 119)) A B n base cache (s.after (cl + 1)) ∧ Fr (fun b => b = A) w (w5.alloc (.cells #[.string ⟨#[79, 112, 101, 110]⟩, trV gg] 119))) := ⟨⟨w5.heap.size, _, gg, rfl, heap_alloc_at _ _, HD.out.1.fr hfe (fun _ _ _ _ _ h => h)⟩, HD.out.2.1.frz hfe, HD.out.2.2.trans hfe (fun _ _ h => h.elim)⟩
  clear hfe
  go_wp2
  go_ret2
  exact .inr ⟨_, cl, rfl, HE.out.1, HE.out.2.1, hbd, hc, HE.out.2.2⟩
end
end Go.Proofs.YteebjgfalllbjaaGreatDoor
