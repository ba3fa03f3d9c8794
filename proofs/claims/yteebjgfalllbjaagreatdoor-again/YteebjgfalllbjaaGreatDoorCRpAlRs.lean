import Derived.Test.YteebjgfalllbjaaGreatDoorCNsNtRo
import Derived.RangeFuncNested
import Derived.RangeFuncBound
import Derived.RangeFuncCalls
import Derived.RangeFuncLeaves
import Derived.RangeFuncFrom
import Derived.Shelf.Abstract
import Derived.Shelf.RegionOpen
import Derived.WalkKit
import Derived.OwnWalkIn
import Derived.TacticsInMore
import Derived.LoopNIn
import Derived.LoopIn
import Derived.Test.YteebjgfalllbjaaGreatDoorCOpCmCl
namespace Go.Proofs.YteebjgfalllbjaaGreatDoor
open Go.RowKit
theorem stand_size : (Tryz.prog.info? 138).map (·.size) = some 6 := by kernel_rfl
section
variable {w : World} {R base : Nat} {room : Int} {ev : Value} {es : List (Nat × AS)}
theorem RollAt.saga {p : Nat × AS} (h : RollAt w R base room ev es) (hp : p ∈ es) : w.rangeAt p.1 0 (sagaC p.2.id p.2.st.length (six p.2.st)) := fun j v hv => (cell_of_row w _ (0 + j) _ _ _ (h.e p hp).2).trans (by
  have hj := (List.getElem?_eq_some_iff.1 hv).1
  rw [Nat.zero_add, List.getElem?_toArray, entC, List.getElem?_append_left hj]; exact hv)
theorem RollAt.stand {p : Nat × AS} (h : RollAt w R base room ev es) (hp : p ∈ es) (h6 : p.2.st.length ≤ 6) : w.rangeAt p.1 14 p.2.told.cs := fun j v hv => (cell_of_row w _ (14 + j) _ _ _ (h.e p hp).2).trans (by
  have hl := sagaC_len p.2.id p.2.st.length _ (six_len _ h6)
  rw [List.getElem?_toArray, entC, List.getElem?_append_right (by omega), hl, Nat.add_sub_cancel_left]; exact hv)
theorem run_store14 {w : World} {g : Nat} {cs r : List Value} {t : TypeId} (hg : w.heap[g]? = some (.cells cs.toArray t (0, 0))) (hc : cs.length = 14) (hl : r.length = 14) (h1 : ∀ v ∈ r, v.oneCell' = true) : (Instr.storeAt 122 (.pointer (some ⟨g, 0, none⟩)) (.agg r.toArray)).run Tryz.prog w = .ok () (w.setRow g r.toArray) := by
  have := run_storeAt_row (P := Tryz.prog) (o := 0) (ty := 122) (vs := r) hg (by omega) h1 (by rw [rsaga_size, hl])
  rwa [show splice cs 0 r = r from by simp [splice, hl, hc]] at this
theorem noS_len : noS.length = 14 := sagaC_len _ _ _ (six_len _ (by simp))
set_option maxRecDepth 100000 in
set_option maxHeartbeats 1000000 in
theorem rollSaga_ok (h : RollAt w R base room ev es) (hs : Sorted es) (hn : es.length ≤ 100000) (h6 : ∀ p ∈ es, p.2.st.length ≤ 6) (id : Int) : Calls Tryz.prog 58 #[.pointer (some ⟨R, 0, none⟩), .int .i64 id] w fun e w' => ((∃ p ∈ es, p.2.id = id ∧ e = .returned (.tuple #[.agg (sagaC p.2.id p.2.st.length (six p.2.st)).toArray, .bool true])) ∨ ((∀ p ∈ es, p.2.id ≠ id) ∧ e = .returned (.tuple #[.agg noS.toArray, .bool false]))) ∧ Fr (fun _ => False) w w' := by
  have hfa : Fr (fun _ => False) w (w.alloc (.cells noS.toArray 122)) := (Fr.refl _ _).alloc _
  have HC := rfind_ok (h.frz hfa) hs hn id
  go_enter Tryz.func58, Tryz.ntmps58
  go_wp2_with fail
  refine HC.mono ?_
  rintro e w2 ⟨v, rfl, hv, hf⟩
  have h2 := (h.frz hfa).frz hf
  have hF := hfa.trans hf (fun _ _ h => h)
  have hR : w2.heap[w.heap.size]? = some (.cells noS.toArray 122 (0, 0)) := hf.keep (heap_alloc_at _ _) (fun h => h)
  clear hfa hf HC h
  rcases hv with ⟨p, hp, hid, rfl⟩ | ⟨hno, rfl⟩
  · have hr := h2.saga hp
    have hl := sagaC_len p.2.id p.2.st.length _ (six_len _ (h6 p hp))
    have hst := run_store14 hR noS_len hl (sagaC_one _ _ _)
    have hRE := setRow_heap w2 w.heap.size _ (sagaC p.2.id p.2.st.length (six p.2.st)).toArray 122 (0, 0) hR
    obtain ⟨WE, HWE⟩ : ∃ WE, Hid (WE = w2.setRow w.heap.size (sagaC p.2.id p.2.st.length (six p.2.st)).toArray) := ⟨_, rfl⟩
    have hFE : Fr (fun _ => False) w WE := by rw [HWE.out]; exact hF.setRow _ (fun h => by omega) _
    rw [← HWE.out] at hst hRE
    have HE : Hid (∃ p ∈ es, p.2.id = id ∧ Ending.returned (.tuple #[.agg (sagaC p.2.id p.2.st.length (six p.2.st)).toArray, .bool true]) = Ending.returned (.tuple #[.agg (sagaC p.2.id p.2.st.length (six p.2.st)).toArray, .bool true])) := ⟨p, hp, hid, rfl⟩
    unfold epv
    clear HWE h2 hF
    go_wp2_with (first | (refine wpList_load_mid rfl 122 _ rfl p.1 0 ?_ _ _ hr Tryz.underlying122 rfl ?_ ?_; rfl; (rw [rsaga_size, hl])) | (refine wpList_store 122 (w' := WE) _ _ rfl rfl ?_ ?_; exact hst))
    refine bodyPost_ret (results_row_tmp Tryz.results58 _ _ w.heap.size 122 _ (0, 0) _ rfl hRE Tryz.underlying122 rfl (by rw [rsaga_size, List.size_toArray, hl])) rfl ⟨.inl ⟨p, hp, hid, rfl⟩, hFE⟩
  · have hst := run_store14 hR noS_len noS_len (sagaC_one _ _ _)
    have hRE := setRow_heap w2 w.heap.size _ noS.toArray 122 (0, 0) hR
    obtain ⟨WE, HWE⟩ : ∃ WE, Hid (WE = w2.setRow w.heap.size noS.toArray) := ⟨_, rfl⟩
    have hFE : Fr (fun _ => False) w WE := by rw [HWE.out]; exact hF.setRow _ (fun h => by omega) _
    rw [← HWE.out] at hst hRE
    have HN : Hid (∀ p ∈ es, p.2.id ≠ id) := hno
    clear HWE h2 hF hno
    go_wp2_with (first | (refine wpList_store 122 (w' := WE) _ _ rfl rfl ?_ ?_; exact hst))
    refine bodyPost_ret (results_row_tmp Tryz.results58 _ _ w.heap.size 122 _ (0, 0) _ rfl hRE Tryz.underlying122 rfl (by kernel_rfl)) rfl ⟨.inr ⟨HN.out, rfl⟩, hFE⟩
set_option maxRecDepth 100000 in
theorem need_ok (id : Int) (st : List SS) (w : World) (h6 : st.length ≤ 6) : Calls Tryz.prog 90 #[.agg (sagaC id st.length (six st)).toArray] w fun e w' => e = .returned (.int .i64 (2 * st.length)) ∧ Fr (fun _ => False) w w' := by
  have hrow := heap_alloc_at w (.cells (sagaC id st.length (six st)).toArray 122)
  have c1 : (w.alloc (.cells (sagaC id st.length (six st)).toArray 122)).cell? ⟨w.heap.size, 1, none⟩ = some (.int .i64 st.length) := (cell_of_row _ _ 1 _ _ _ hrow).trans rfl
  have hf : Fr (fun _ => False) w (w.alloc (.cells (sagaC id st.length (six st)).toArray 122)) := (Fr.refl _ _).alloc _
  have h6' : (st.length : Int) ≤ 6 := by omega
  go_enter Tryz.func90, Tryz.ntmps90
  go_wp2
  go_ret
  exact ⟨by go_num, hf⟩
theorem exec_leq {ρ : Operand → Value} {o : Oper} {x y : Operand} {a b : Int} (ho : o.op = .binOp .leq 3 x y 3) (hx : ρ x = .int .i64 a) (hy : ρ y = .int .i64 b) (w : World) : (execOp ρ o).run Tryz.prog w = .ok (.value (.bool (decide (a ≤ b)))) w := by
  simp only [execOp, ho, hx, hy]
  kernel_rfl
/-- A saga is loaded whole. -/
theorem load14 {w : World} {g : Nat} {id : Int} {st : List SS} {t : TypeId} (h : w.heap[g]? = some (.cells (sagaC id st.length (six st)).toArray t (0, 0))) (h6 : st.length ≤ 6) : (Instr.loadAt 122 (.pointer (some ⟨g, 0, none⟩))).run Tryz.prog w = .ok (.agg (sagaC id st.length (six st)).toArray) w :=
  run_loadAt_mid w g 0 122 (sagaC id st.length (six st)) _ (fun j v hv => (cell_of_row w g (0 + j) _ _ _ h).trans (by simpa using hv)) Tryz.underlying122 rfl (by rw [rsaga_size, sagaC_len _ _ _ (six_len _ h6)])
set_option maxRecDepth 100000 in
theorem Fits_ok (h : RollAt w R base room ev es) (id : Int) (st : List SS) (h6 : st.length ≤ 6) : Calls Tryz.prog 59 #[.pointer (some ⟨R, 0, none⟩), .agg (sagaC id st.length (six st)).toArray] w fun e w' => e = .returned (.bool (decide (2 * (st.length : Int) ≤ room))) ∧ Fr (fun _ => False) w w' := by
  have hlift : Tryz.prog.follows .mixedOrders = true := by kernel_rfl
  have hrow := heap_alloc_at w (.cells (sagaC id st.length (six st)).toArray 122)
  have hfa : Fr (fun _ => False) w (w.alloc (.cells (sagaC id st.length (six st)).toArray 122)) := (Fr.refl _ _).alloc _
  have hR := h.frz hfa
  go_enter Tryz.func59, Tryz.ntmps59
  go_wp2
  obtain ⟨W, HW⟩ : ∃ W, Hid (W = (w.alloc (.cells (sagaC id st.length (six st)).toArray 122)).drew) := ⟨_, rfl⟩
  have hfW : Fr (fun _ => False) (w.alloc (.cells (sagaC id st.length (six st)).toArray 122)) W := by rw [HW.out]; exact (Fr.refl _ _).drew
  let S : World → Prop := fun w' => w'.cell? ⟨R, 1, none⟩ = some (.int .i64 room) ∧ w'.heap[w.heap.size]? = some (.cells (sagaC id st.length (six st)).toArray 122 (0, 0))
  have hS : S W := ⟨(hR.frz hfW).c1, hfW.keep hrow (fun h => h)⟩
  refine wp_region_held (S := S) hlift ?_
  change wpAnyH _ _ _ _ S _ _ _ (World.drew _)
  rw [← HW.out]
  clear HW
  refine tkY (S := S) (i := 0) (oi := ⟨some 5, .load 122 (.tmp 3), _, _, _, none⟩) (v := .agg (sagaC id st.length (six st)).toArray) rfl (Or.inl ⟨rfl, fun w' hs => exec_load 122 (.tmp 3) rfl ⟨w.heap.size, 0, none⟩ rfl (load14 hs.2 h6)⟩) hS ?_
  simp only [Act.put, lsE, lsZ, lsS]
  refine tkE (S := S) (i := 2) (oi := ⟨some 7, .move (.tmp 0), _, _, _, none⟩) (v := .pointer (some ⟨R, 0, none⟩)) rfl hS ?_
  simp only [Act.put, lsE, lsZ, lsS]
  refine tkE (S := S) (i := 3) (oi := ⟨some 8, .nilCheck (.tmp 7), _, _, _, none⟩) (v := .pointer (some ⟨R, 0, none⟩)) rfl hS ?_
  simp only [Act.put, lsE, lsZ, lsS]
  refine tkE (S := S) (i := 4) (oi := ⟨some 9, .fieldAddr 176 (.tmp 8) 1, _, _, _, none⟩) (v := .pointer (some ⟨R, 1, none⟩)) rfl hS ?_
  simp only [Act.put, lsE, lsZ, lsS]
  refine tkY (S := S) (i := 5) (oi := ⟨some 10, .load 3 (.tmp 9), _, _, _, none⟩) (v := .int .i64 room) rfl (Or.inl ⟨rfl, fun w' hs => exec_load 3 (.tmp 9) rfl ⟨R, 1, none⟩ rfl (run_loadAt_one hs.1 Tryz.underlying3 rfl)⟩) hS ?_
  simp only [Act.put, lsE, lsZ, lsS]
  refine wpAnyH_all (rs := [1]) (by kernel_rfl) (by simp) ?_
  intro i1 hi1
  obtain rfl : i1 = 1 := by simpa using hi1
  refine wpOp_call (o := ⟨some 6, .call { callee := .value (.func 90), args := #[(.tmp 5)], argTypes := _ }, _, _, _, none⟩) (f := 90) (args := #[.agg (sagaC id st.length (six st)).toArray]) rfl rfl (by kernel_rfl) ?_
  refine (need_ok id st W h6).mono ?_
  rintro e w3 ⟨rfl, hf3⟩
  have hS3 : S w3 := ⟨hf3.cell hS.1 (fun h => h), hf3.keep hS.2 (fun h => h)⟩
  refine ⟨_, rfl, hS3, ?_⟩
  simp only [Act.put, lsE, lsZ, lsS]
  refine tkY (S := S) (i := 6) (oi := ⟨some 11, .binOp .leq 3 (.tmp 6) (.tmp 10) 3, _, _, _, none⟩) (v := .bool (decide (2 * (st.length : Int) ≤ room))) rfl (Or.inl ⟨rfl, fun w' _ => exec_leq rfl rfl rfl w'⟩) hS3 ?_
  simp only [Act.put, lsE, lsZ, lsS]
  refine tkE (S := S) (i := 7) (oi := ⟨some 4, .assign (.tmp 11), _, _, _, none⟩) (v := .bool (decide (2 * (st.length : Int) ≤ room))) rfl hS3 ?_
  simp only [Act.put, lsE, lsZ, lsS]
  refine wpAnyH_done (by kernel_rfl) ?_ _
  go_wp2
  go_ret
  exact ⟨rfl, (hfa.trans hfW (fun _ _ h => h)).trans hf3 (fun _ _ h => h)⟩
theorem status_size : (Tryz.prog.info? 42).map (·.size) = some 6 := by kernel_rfl
theorem ST.len (s : ST) : s.cs.length = 6 := rfl
theorem ST.one (s : ST) : ∀ v ∈ s.cs, v.oneCell' = true := by intro v hv; simp only [ST.cs, List.mem_cons, List.not_mem_nil, or_false] at hv; rcases hv with rfl | rfl | rfl | rfl | rfl | rfl <;> rfl
theorem run_store6 {w : World} {g : Nat} {cs r : List Value} {t ty : TypeId} (hg : w.heap[g]? = some (.cells cs.toArray t (0, 0))) (hc : cs.length = 6) (hl : r.length = 6) (h1 : ∀ v ∈ r, v.oneCell' = true) (hi : (Tryz.prog.info? ty).map (·.size) = some 6) : (Instr.storeAt ty (.pointer (some ⟨g, 0, none⟩)) (.agg r.toArray)).run Tryz.prog w = .ok () (w.setRow g r.toArray) := by
  have := run_storeAt_row (P := Tryz.prog) (o := 0) (ty := ty) (vs := r) hg (by omega) h1 (by rw [hi, hl])
  rwa [show splice cs 0 r = r from by simp [splice, hl, hc]] at this
set_option maxRecDepth 100000 in
set_option maxHeartbeats 1000000 in
theorem rollStatus_ok (h : RollAt w R base room ev es) (hs : Sorted es) (hn : es.length ≤ 100000) (h6 : ∀ p ∈ es, p.2.st.length ≤ 6) (id : Int) : Calls Tryz.prog 44 #[.pointer (some ⟨R, 0, none⟩), .int .i64 id] w fun e w' => ((∃ p ∈ es, p.2.id = id ∧ e = .returned (.tuple #[.agg p.2.told.cs.toArray, .bool true])) ∨ ((∀ p ∈ es, p.2.id ≠ id) ∧ e = .returned (.tuple #[.agg zST.cs.toArray, .bool false]))) ∧ Fr (fun _ => False) w w' := by
  have hfa : Fr (fun _ => False) w (w.alloc (.cells zST.cs.toArray 42)) := (Fr.refl _ _).alloc _
  have HC := rfind_ok (h.frz hfa) hs hn id
  go_enter Tryz.func44, Tryz.ntmps44
  go_wp2_with fail
  refine HC.mono ?_
  rintro e w2 ⟨v, rfl, hv, hf⟩
  have h2 := (h.frz hfa).frz hf
  have hF := hfa.trans hf (fun _ _ h => h)
  have hR : w2.heap[w.heap.size]? = some (.cells zST.cs.toArray 42 (0, 0)) := hf.keep (heap_alloc_at _ _) (fun h => h)
  clear hfa hf HC h
  rcases hv with ⟨p, hp, hid, rfl⟩ | ⟨hno, rfl⟩
  · have hr := h2.stand hp (h6 p hp)
    have hst := run_store6 (ty := 42) hR rfl p.2.told.len p.2.told.one status_size
    have hRE := setRow_heap w2 w.heap.size _ p.2.told.cs.toArray 42 (0, 0) hR
    obtain ⟨WE, HWE⟩ : ∃ WE, Hid (WE = w2.setRow w.heap.size p.2.told.cs.toArray) := ⟨_, rfl⟩
    have hFE : Fr (fun _ => False) w WE := by rw [HWE.out]; exact hF.setRow _ (fun h => by omega) _
    rw [← HWE.out] at hst hRE
    unfold epv
    clear HWE h2 hF
    go_wp2_with (first | (refine wpList_load_mid rfl 138 _ rfl p.1 14 ?_ _ _ hr Tryz.underlying138 rfl ?_ ?_; rfl; exact stand_size) | (refine wpList_store 42 (w' := WE) _ _ rfl rfl ?_ ?_; exact hst))
    refine bodyPost_ret (results_row_tmp Tryz.results44 _ _ w.heap.size 42 _ (0, 0) _ rfl hRE Tryz.underlying42 rfl status_size) rfl ⟨.inl ⟨p, hp, hid, rfl⟩, hFE⟩
  · have HN : Hid (∀ p ∈ es, p.2.id ≠ id) := hno
    have hst := run_store6 (ty := 42) hR rfl zST.len zST.one status_size
    have hRE := setRow_heap w2 w.heap.size _ zST.cs.toArray 42 (0, 0) hR
    obtain ⟨WE, HWE⟩ : ∃ WE, Hid (WE = w2.setRow w.heap.size zST.cs.toArray) := ⟨_, rfl⟩
    have hFE : Fr (fun _ => False) w WE := by rw [HWE.out]; exact hF.setRow _ (fun h => by omega) _
    rw [← HWE.out] at hst hRE
    clear HWE h2 hF hno
    go_wp2_with (first | (refine wpList_store 42 (w' := WE) _ _ rfl rfl ?_ ?_; exact hst))
    refine bodyPost_ret (results_row_tmp Tryz.results44 _ _ w.heap.size 42 _ (0, 0) _ rfl hRE Tryz.underlying42 rfl status_size) rfl ⟨.inr ⟨HN.out, rfl⟩, hFE⟩
end
end Go.Proofs.YteebjgfalllbjaaGreatDoor
namespace Go.Proofs.YteebjgfalllbjaaGreatDoor
open Go.RowKit Go.Shelf

theorem EngAt.c {w : World} {X J R : Nat} {clock pause : Int} {cv : Value} (h : EngAt w X J R clock pause cv) {i : Nat} {v : Value} (hi : #[Value.pointer (some ⟨J, 0, none⟩), .pointer (some ⟨R, 0, none⟩), .bool false, .int .i64 clock, .int .i64 pause, cv][i]? = some v) : w.cell? ⟨X, i, none⟩ = some v := (cell_of_row w X i _ _ _ h).trans hi
theorem eAll_ok (x : Addr) (w : World) : Calls Tryz.prog 48 #[.pointer (some x)] w fun e w' => e = .returned (.func (.func 78) #[] #[.pointer (some ⟨w.heap.size, 0, none⟩)]) ∧ w' = w.alloc (.cells #[.pointer (some x)] 32) := by
  have hmf : ∀ (fn : Fn) (first cap : Array Value) (w : World), (Instr.makeFunc fn first cap).run Tryz.prog w = .ok (.func fn first cap) w := fun _ _ _ _ => rfl
  go_enter Tryz.func48, Tryz.ntmps48
  go_wp2
  go_ret
  exact ⟨rfl, rfl⟩
theorem grown_fr {w w' : World} (h : Fr (fun _ => False) w w') : w.grownBy w' none := ⟨h.os, h.tape, h.output, h.size, fun k hk _ => h.block k hk (fun h => h)⟩
end Go.Proofs.YteebjgfalllbjaaGreatDoor
namespace Go.Proofs.YteebjgfalllbjaaGreatDoor
open Go.RowKit
section
variable {w : World} {X J R base : Nat} {clock pause room : Int} {cv ev : Value} {es : List (Nat × AS)}
set_option maxRecDepth 100000 in
set_option maxHeartbeats 1000000 in
theorem eStatus_ok (he : EngAt w X J R clock pause cv) (h : RollAt w R base room ev es) (hs : Sorted es) (hn : es.length ≤ 100000) (h6 : ∀ p ∈ es, p.2.st.length ≤ 6) (id : Int) : Calls Tryz.prog 24 #[.pointer (some ⟨X, 0, none⟩), .int .i64 id] w fun e w' => StatA (es.map (·.2)) id w e w' := by
  have hfa : Fr (fun _ => False) w (w.alloc (.cells zST.cs.toArray 42)) := (Fr.refl _ _).alloc _
  have HC := rollStatus_ok (h.frz hfa) hs hn h6 id
  have he' : EngAt (w.alloc (.cells zST.cs.toArray 42)) X J R clock pause cv := hfa.keep he (fun h => h)
  have c1 : (w.alloc (.cells #[.int .i64 0, .int .i64 0, .int .i64 0, .int .i64 0, .int .i64 0, .int .i64 0] 42)).cell? ⟨X, 1, none⟩ = some (.pointer (some ⟨R, 0, none⟩)) := he'.c (i := 1) rfl
  go_enter Tryz.func24, Tryz.ntmps24
  go_wp2_with fail
  refine HC.mono ?_
  rintro e w2 ⟨hv, hf⟩
  have hF := hfa.trans hf (fun _ _ h => h)
  have hR : w2.heap[w.heap.size]? = some (.cells zST.cs.toArray 42 (0, 0)) := hf.keep (heap_alloc_at _ _) (fun h => h)
  clear hfa hf HC h he he' c1
  have hRa : (w2.alloc (.cells zST.cs.toArray 42)).heap[w2.heap.size]? = some (.cells zST.cs.toArray 42 (0, 0)) := heap_alloc_at _ _
  have hfa2 : Fr (fun _ => False) w2 (w2.alloc (.cells zST.cs.toArray 42)) := (Fr.refl _ _).alloc _
  have hlt : w.heap.size < w2.heap.size := lt_of_heap hR
  have main : ∀ s : ST, ∃ WA WB : World, (Instr.storeAt 42 (.pointer (some ⟨w2.heap.size, 0, none⟩)) (.agg s.cs.toArray)).run Tryz.prog (w2.alloc (.cells zST.cs.toArray 42)) = .ok () WA ∧ WA.rangeAt w2.heap.size 0 s.cs ∧ (Instr.storeAt 42 (.pointer (some ⟨w.heap.size, 0, none⟩)) (.agg s.cs.toArray)).run Tryz.prog WA = .ok () WB ∧ WB.heap[w.heap.size]? = some (.cells s.cs.toArray 42 (0, 0)) ∧ Fr (fun _ => False) w WB := by
    intro s
    have hst := run_store6 (ty := 42) hRa rfl s.len s.one status_size
    have hA := setRow_heap (w2.alloc (.cells zST.cs.toArray 42)) w2.heap.size _ s.cs.toArray 42 (0, 0) hRa
    have hB : ((w2.alloc (.cells zST.cs.toArray 42)).setRow w2.heap.size s.cs.toArray).heap[w.heap.size]? = some (.cells zST.cs.toArray 42 (0, 0)) := by
      rw [setRow_other _ _ _ _ (by omega)]; exact hfa2.keep hR (fun h => h)
    refine ⟨_, _, hst, fun j v hv => (cell_of_row _ _ (0 + j) _ _ _ hA).trans (by simpa using hv), run_store6 (ty := 42) hB rfl s.len s.one status_size, setRow_heap _ _ _ _ _ _ hB, ?_⟩
    exact ((hF.trans hfa2 (fun _ _ h => h)).setRow _ (fun h => by omega) _).setRow _ (fun h => by omega) _
  have mainE : ∀ s : ST, ∃ WA : World, (Instr.storeAt 42 (.pointer (some ⟨w2.heap.size, 0, none⟩)) (.agg s.cs.toArray)).run Tryz.prog (w2.alloc (.cells zST.cs.toArray 42)) = .ok () WA ∧ WA.heap[w.heap.size]? = some (.cells zST.cs.toArray 42 (0, 0)) ∧ Fr (fun _ => False) w WA := by
    intro s
    refine ⟨_, run_store6 (ty := 42) hRa rfl s.len s.one status_size, ?_, (hF.trans hfa2 (fun _ _ h => h)).setRow _ (fun h => by omega) _⟩
    rw [setRow_other _ _ _ _ (by omega)]; exact hfa2.keep hR (fun h => h)
  rcases hv with ⟨p, hp, hid, rfl⟩ | ⟨hno, rfl⟩
  · obtain ⟨WA, WB, hA, hM, hB, hRE, hFE⟩ := main p.2.told
    clear main mainE hRa hfa2 hF hR
    go_wp2_with (first | (refine wpList_store 42 (w' := WA) _ _ rfl rfl ?_ ?_; exact hA) | (refine wpList_load_mid rfl 42 _ rfl w2.heap.size 0 ?_ _ _ hM Tryz.underlying42 rfl ?_ ?_; rfl; exact status_size) | (refine wpList_store 42 (w' := WB) _ _ rfl rfl ?_ ?_; exact hB))
    refine bodyPost_ret (results_row_tmp Tryz.results24 _ _ w.heap.size 42 _ (0, 0) _ rfl hRE Tryz.underlying42 rfl status_size) rfl ⟨p.2.told, _, rfl, hFE, .inl ⟨p.2, List.mem_map.2 ⟨p, hp, rfl⟩, hid, rfl, .inl ⟨rfl, rfl⟩⟩⟩
  · have HN : Hid (∀ a ∈ es.map (·.2), a.id ≠ id) := by
      intro a ha
      obtain ⟨p, hp, rfl⟩ := List.mem_map.1 ha
      exact hno p hp
    obtain ⟨WA, hA, hRA, hFA⟩ := mainE zST
    clear main mainE hRa hfa2 hF hR hno
    have hst := run_store6 (ty := 42) (w := WA.alloc (.cells #[.string ⟨#[83, 116, 97, 116, 117, 115]⟩, .iface 59 (.int .i64 9)] 119)) (g := w.heap.size) (cs := zST.cs) (t := 42) (by rw [heap_alloc_lt _ _ _ (lt_of_heap hRA)]; exact hRA) rfl zST.len zST.one status_size
    have hRE := setRow_heap (WA.alloc (.cells #[.string ⟨#[83, 116, 97, 116, 117, 115]⟩, .iface 59 (.int .i64 9)] 119)) w.heap.size _ zST.cs.toArray 42 (0, 0) (by rw [heap_alloc_lt _ _ _ (lt_of_heap hRA)]; exact hRA)
    have hEr : ((WA.alloc (.cells #[.string ⟨#[83, 116, 97, 116, 117, 115]⟩, .iface 59 (.int .i64 9)] 119)).setRow w.heap.size zST.cs.toArray).heap[WA.heap.size]? = some (.cells #[.string ⟨#[83, 116, 97, 116, 117, 115]⟩, .iface 59 (.int .i64 9)] 119 (0, 0)) := by
      rw [setRow_other _ _ _ _ (by have := lt_of_heap hRA; omega)]; exact heap_alloc_at _ _
    have hFE : Fr (fun _ => False) w ((WA.alloc (.cells #[.string ⟨#[83, 116, 97, 116, 117, 115]⟩, .iface 59 (.int .i64 9)] 119)).setRow w.heap.size zST.cs.toArray) := (hFA.alloc _).setRow _ (fun h => by omega) _
    obtain ⟨WE, HWE⟩ : ∃ WE, Hid (WE = (WA.alloc (.cells #[.string ⟨#[83, 116, 97, 116, 117, 115]⟩, .iface 59 (.int .i64 9)] 119)).setRow w.heap.size zST.cs.toArray) := ⟨_, rfl⟩
    rw [← HWE.out] at hst hRE hEr hFE
    clear HWE
    go_wp2_with (first | (refine wpList_store 42 (w' := WA) _ _ rfl rfl ?_ ?_; exact hA))
    refine (wrapped_err _ 9 _).mono ?_
    rintro e w3 ⟨rfl, rfl⟩
    go_wp2_with (first | (refine wpList_store 42 (w' := WE) _ _ rfl rfl ?_ ?_; exact hst))
    refine bodyPost_ret (results_row_tmp Tryz.results24 _ _ w.heap.size 42 _ (0, 0) _ rfl hRE Tryz.underlying42 rfl status_size) rfl ⟨zST, _, rfl, hFE, .inr ⟨HN.out, rfl, .inr ⟨_, _, rfl, hEr, by decide⟩⟩⟩
end
end Go.Proofs.YteebjgfalllbjaaGreatDoor
