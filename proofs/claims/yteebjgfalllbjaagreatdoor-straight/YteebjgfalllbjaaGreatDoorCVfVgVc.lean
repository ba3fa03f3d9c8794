import Derived.Test.YteebjgfalllbjaaGreatDoorCIoTkVe
import Derived.Test.YteebjgfalllbjaaGreatDoorCVbNeIx
namespace Go.Proofs.YteebjgfalllbjaaGreatDoor
open Go.RowKit
def ST.undoing (s : ST) (reply : Int) : ST × Bool := if reply = 0 then (s.back, true) else (s, false)
def ST.running (s : ST) (reply : Int) : ST × Bool := if reply = 0 then (if s.step = s.steps then (s.at 3 0, true) else (s.at 1 (s.step + 1), true)) else if reply = 2 then (s.back, true) else (s, false)
def MvQ (r : ST × Bool) (w : World) (e : Ending) (w' : World) : Prop := e = .returned (.tuple #[.agg r.1.cs.toArray, .bool r.2]) ∧ Fr (fun _ => False) w w'
set_option maxRecDepth 100000 in
set_option maxHeartbeats 1000000 in
theorem stUndo_ok (w : World) (s : ST) (reply : Int) (h1 : 1 ≤ s.step) (h2 : s.step ≤ 6) : Calls Tryz.prog 168 #[.agg s.cs.toArray, .int .i64 reply] w fun e w' => MvQ (s.undoing reply) w e w' := by
 obtain ⟨id, state, step, steps, tries, due⟩ := s
 have h1' : 1 ≤ step := h1
 have h2' : step ≤ 6 := h2
 have zr : ∀ A : Obj, ((w.alloc A).alloc (.cells zST.cs.toArray 138)).heap[w.heap.size + 1]? = some (.cells zST.cs.toArray 138 (0, 0)) := fun A => by
  have := heap_alloc_at (w.alloc A) (.cells zST.cs.toArray 138)
  simpa using this
 by_cases h0 : reply = 0
 ·subst h0
  rw [show ST.undoing ⟨id, state, step, steps, tries, due⟩ 0 = (ST.back ⟨id, state, step, steps, tries, due⟩, true) by simp [ST.undoing]]
  obtain ⟨R, hR⟩ : ∃ R : ST, R = ST.back ⟨id, state, step, steps, tries, due⟩ := ⟨_, rfl⟩
  rw [← hR]
  have HC : ∀ W, Calls Tryz.prog 174 #[.agg #[.int .i64 id, .int .i64 state, .int .i64 step, .int .i64 steps, .int .i64 tries, .int .i64 due]] W (fun e w' => e = .returned (.agg R.cs.toArray) ∧ Fr (fun _ => False) W w') := fun W => by rw [hR]; exact stBack_ok W ⟨id, state, step, steps, tries, due⟩ h1 h2
  have HRR : Hid (R = ST.back ⟨id, state, step, steps, tries, due⟩) := hR
  clear hR
  change Calls Tryz.prog 168 #[.agg #[.int .i64 id, .int .i64 state, .int .i64 step, .int .i64 steps, .int .i64 tries, .int .i64 due], .int .i64 0] w _
  go_enter Tryz.func168, Tryz.ntmps168
  go_wp2_with fail
  refine (HC _).mono ?_
  rintro e w2 ⟨rfl, hf⟩
  have hZ : w2.heap[w.heap.size + 1]? = some (.cells zST.cs.toArray 138 (0, 0)) := hf.keep (zr _) (fun h => h)
  have hst := run_store6 (ty := 138) hZ rfl R.len R.one stand_size
  have hRE := setRow_heap w2 (w.heap.size + 1) _ R.cs.toArray 138 (0, 0) hZ
  obtain ⟨WE, HWE⟩ : ∃ WE, Hid (WE = w2.setRow (w.heap.size + 1) R.cs.toArray) := ⟨_, rfl⟩
  have hFE : Fr (fun _ => False) w WE := by rw [HWE.out]; exact ((((Fr.refl _ _).alloc _).alloc _).trans hf (fun _ _ h => h)).setRow _ (fun h => by omega) _
  rw [← HWE.out] at hst hRE
  clear HWE zr hZ HC hf
  go_wp2_with (first | (refine wpList_store 138 (w' := WE) _ _ rfl rfl ?_ ?_; exact hst))
  exact bodyPost_ret (results_row_tmp Tryz.results168 _ _ (w.heap.size + 1) 138 _ (0, 0) _ rfl hRE Tryz.underlying138 rfl stand_size) rfl ⟨rfl, hFE⟩
 ·rw [show ST.undoing ⟨id, state, step, steps, tries, due⟩ reply = (⟨id, state, step, steps, tries, due⟩, false) by simp [ST.undoing, h0]]
  have hE : ((w.alloc (.cells #[.int .i64 id, .int .i64 state, .int .i64 step, .int .i64 steps, .int .i64 tries, .int .i64 due] 138)).alloc (.cells #[.int .i64 id, .int .i64 state, .int .i64 step, .int .i64 steps, .int .i64 tries, .int .i64 due] 138)).heap[w.heap.size + 1]? = some (.cells #[.int .i64 id, .int .i64 state, .int .i64 step, .int .i64 steps, .int .i64 tries, .int .i64 due] 138 (0, 0)) := by
   have := heap_alloc_at (w.alloc (.cells #[.int .i64 id, .int .i64 state, .int .i64 step, .int .i64 steps, .int .i64 tries, .int .i64 due] 138)) (.cells #[.int .i64 id, .int .i64 state, .int .i64 step, .int .i64 steps, .int .i64 tries, .int .i64 due] 138)
   simpa using this
  change Calls Tryz.prog 168 #[.agg #[.int .i64 id, .int .i64 state, .int .i64 step, .int .i64 steps, .int .i64 tries, .int .i64 due], .int .i64 reply] w _
  clear zr
  go_enter Tryz.func168, Tryz.ntmps168
  go_wp2
  exact bodyPost_ret (results_row_tmp Tryz.results168 _ _ (w.heap.size + 1) 138 #[.int .i64 id, .int .i64 state, .int .i64 step, .int .i64 steps, .int .i64 tries, .int .i64 due] (0, 0) _ rfl hE Tryz.underlying138 rfl stand_size) rfl ⟨rfl, ((Fr.refl _ _).alloc _).alloc _⟩
set_option maxRecDepth 100000 in
set_option maxHeartbeats 1000000 in
theorem stRun_ok (w : World) (s : ST) (reply : Int) (h1 : 1 ≤ s.step) (h2 : s.step ≤ 6) : Calls Tryz.prog 167 #[.agg s.cs.toArray, .int .i64 reply] w fun e w' => MvQ (s.running reply) w e w' := by
 obtain ⟨id, state, step, steps, tries, due⟩ := s
 have h1' : 1 ≤ step := h1
 have h2' : step ≤ 6 := h2
 have zr : ∀ A : Obj, ((w.alloc A).alloc (.cells zST.cs.toArray 138)).heap[w.heap.size + 1]? = some (.cells zST.cs.toArray 138 (0, 0)) := fun A => by
  have := heap_alloc_at (w.alloc A) (.cells zST.cs.toArray 138)
  simpa using this
 by_cases h0 : reply = 0
 ·subst h0
  by_cases h3 : step = steps
  ·subst h3
   rw [show ST.running ⟨id, state, step, step, tries, due⟩ 0 = (ST.at ⟨id, state, step, step, tries, due⟩ 3 0, true) by simp [ST.running]]
   obtain ⟨R, hR⟩ : ∃ R : ST, R = ST.at ⟨id, state, step, step, tries, due⟩ 3 0 := ⟨_, rfl⟩
   rw [← hR]
   have HC : ∀ W, Calls Tryz.prog 173 #[.agg #[.int .i64 id, .int .i64 state, .int .i64 step, .int .i64 step, .int .i64 tries, .int .i64 due], .int .i64 3, .int .i64 0] W (fun e w' => e = .returned (.agg R.cs.toArray) ∧ Fr (fun _ => False) W w') := fun W => by rw [hR]; exact stAt_ok W ⟨id, state, step, step, tries, due⟩ 3 0
   have HRR : Hid (R = ST.at ⟨id, state, step, step, tries, due⟩ 3 0) := hR
   clear hR
   change Calls Tryz.prog 167 #[.agg #[.int .i64 id, .int .i64 state, .int .i64 step, .int .i64 step, .int .i64 tries, .int .i64 due], .int .i64 0] w _
   go_enter Tryz.func167, Tryz.ntmps167
   go_wp2_with fail
   refine (HC _).mono ?_
   rintro e w2 ⟨rfl, hf⟩
   have hZ : w2.heap[w.heap.size + 1]? = some (.cells zST.cs.toArray 138 (0, 0)) := hf.keep (zr _) (fun h => h)
   have hst := run_store6 (ty := 138) hZ rfl R.len R.one stand_size
   have hRE := setRow_heap w2 (w.heap.size + 1) _ R.cs.toArray 138 (0, 0) hZ
   obtain ⟨WE, HWE⟩ : ∃ WE, Hid (WE = w2.setRow (w.heap.size + 1) R.cs.toArray) := ⟨_, rfl⟩
   have hFE : Fr (fun _ => False) w WE := by rw [HWE.out]; exact ((((Fr.refl _ _).alloc _).alloc _).trans hf (fun _ _ h => h)).setRow _ (fun h => by omega) _
   rw [← HWE.out] at hst hRE
   clear HWE zr hZ HC hf
   go_wp2_with (first | (refine wpList_store 138 (w' := WE) _ _ rfl rfl ?_ ?_; exact hst))
   exact bodyPost_ret (results_row_tmp Tryz.results167 _ _ (w.heap.size + 1) 138 _ (0, 0) _ rfl hRE Tryz.underlying138 rfl stand_size) rfl ⟨rfl, hFE⟩
  ·rw [show ST.running ⟨id, state, step, steps, tries, due⟩ 0 = (ST.at ⟨id, state, step, steps, tries, due⟩ 1 (step + 1), true) by simp [ST.running, h3]]
   have e1 : wrap64 (step + 1) = step + 1 := wrap64_id (by omega)
   obtain ⟨R, hR⟩ : ∃ R : ST, R = ST.at ⟨id, state, step, steps, tries, due⟩ 1 (step + 1) := ⟨_, rfl⟩
   rw [← hR]
   have HC : ∀ W, Calls Tryz.prog 173 #[.agg #[.int .i64 id, .int .i64 state, .int .i64 step, .int .i64 steps, .int .i64 tries, .int .i64 due], .int .i64 1, .int .i64 (step + 1)] W (fun e w' => e = .returned (.agg R.cs.toArray) ∧ Fr (fun _ => False) W w') := fun W => by rw [hR]; exact stAt_ok W ⟨id, state, step, steps, tries, due⟩ 1 (step + 1)
   have HRR : Hid (R = ST.at ⟨id, state, step, steps, tries, due⟩ 1 (step + 1)) := hR
   clear hR
   change Calls Tryz.prog 167 #[.agg #[.int .i64 id, .int .i64 state, .int .i64 step, .int .i64 steps, .int .i64 tries, .int .i64 due], .int .i64 0] w _
   go_enter Tryz.func167, Tryz.ntmps167
   go_wp2_with fail
   refine (HC _).mono ?_
   rintro e w2 ⟨rfl, hf⟩
   have hZ : w2.heap[w.heap.size + 1]? = some (.cells zST.cs.toArray 138 (0, 0)) := hf.keep (zr _) (fun h => h)
   have hst := run_store6 (ty := 138) hZ rfl R.len R.one stand_size
   have hRE := setRow_heap w2 (w.heap.size + 1) _ R.cs.toArray 138 (0, 0) hZ
   obtain ⟨WE, HWE⟩ : ∃ WE, Hid (WE = w2.setRow (w.heap.size + 1) R.cs.toArray) := ⟨_, rfl⟩
   have hFE : Fr (fun _ => False) w WE := by rw [HWE.out]; exact ((((Fr.refl _ _).alloc _).alloc _).trans hf (fun _ _ h => h)).setRow _ (fun h => by omega) _
   rw [← HWE.out] at hst hRE
   clear HWE zr hZ HC hf
   go_wp2_with (first | (refine wpList_store 138 (w' := WE) _ _ rfl rfl ?_ ?_; exact hst))
   exact bodyPost_ret (results_row_tmp Tryz.results167 _ _ (w.heap.size + 1) 138 _ (0, 0) _ rfl hRE Tryz.underlying138 rfl stand_size) rfl ⟨rfl, hFE⟩
 ·by_cases h4 : reply = 2
  ·subst h4
   rw [show ST.running ⟨id, state, step, steps, tries, due⟩ 2 = (ST.back ⟨id, state, step, steps, tries, due⟩, true) by simp [ST.running]]
   obtain ⟨R, hR⟩ : ∃ R : ST, R = ST.back ⟨id, state, step, steps, tries, due⟩ := ⟨_, rfl⟩
   rw [← hR]
   have HC : ∀ W, Calls Tryz.prog 174 #[.agg #[.int .i64 id, .int .i64 state, .int .i64 step, .int .i64 steps, .int .i64 tries, .int .i64 due]] W (fun e w' => e = .returned (.agg R.cs.toArray) ∧ Fr (fun _ => False) W w') := fun W => by rw [hR]; exact stBack_ok W ⟨id, state, step, steps, tries, due⟩ h1 h2
   have HRR : Hid (R = ST.back ⟨id, state, step, steps, tries, due⟩) := hR
   clear hR
   change Calls Tryz.prog 167 #[.agg #[.int .i64 id, .int .i64 state, .int .i64 step, .int .i64 steps, .int .i64 tries, .int .i64 due], .int .i64 2] w _
   go_enter Tryz.func167, Tryz.ntmps167
   go_wp2_with fail
   refine (HC _).mono ?_
   rintro e w2 ⟨rfl, hf⟩
   have hZ : w2.heap[w.heap.size + 1]? = some (.cells zST.cs.toArray 138 (0, 0)) := hf.keep (zr _) (fun h => h)
   have hst := run_store6 (ty := 138) hZ rfl R.len R.one stand_size
   have hRE := setRow_heap w2 (w.heap.size + 1) _ R.cs.toArray 138 (0, 0) hZ
   obtain ⟨WE, HWE⟩ : ∃ WE, Hid (WE = w2.setRow (w.heap.size + 1) R.cs.toArray) := ⟨_, rfl⟩
   have hFE : Fr (fun _ => False) w WE := by rw [HWE.out]; exact ((((Fr.refl _ _).alloc _).alloc _).trans hf (fun _ _ h => h)).setRow _ (fun h => by omega) _
   rw [← HWE.out] at hst hRE
   clear HWE zr hZ HC hf
   go_wp2_with (first | (refine wpList_store 138 (w' := WE) _ _ rfl rfl ?_ ?_; exact hst))
   exact bodyPost_ret (results_row_tmp Tryz.results167 _ _ (w.heap.size + 1) 138 _ (0, 0) _ rfl hRE Tryz.underlying138 rfl stand_size) rfl ⟨rfl, hFE⟩
  ·rw [show ST.running ⟨id, state, step, steps, tries, due⟩ reply = (⟨id, state, step, steps, tries, due⟩, false) by simp [ST.running, h0, h4]]
   have hE : ((w.alloc (.cells #[.int .i64 id, .int .i64 state, .int .i64 step, .int .i64 steps, .int .i64 tries, .int .i64 due] 138)).alloc (.cells #[.int .i64 id, .int .i64 state, .int .i64 step, .int .i64 steps, .int .i64 tries, .int .i64 due] 138)).heap[w.heap.size + 1]? = some (.cells #[.int .i64 id, .int .i64 state, .int .i64 step, .int .i64 steps, .int .i64 tries, .int .i64 due] 138 (0, 0)) := by
    have := heap_alloc_at (w.alloc (.cells #[.int .i64 id, .int .i64 state, .int .i64 step, .int .i64 steps, .int .i64 tries, .int .i64 due] 138)) (.cells #[.int .i64 id, .int .i64 state, .int .i64 step, .int .i64 steps, .int .i64 tries, .int .i64 due] 138)
    simpa using this
   change Calls Tryz.prog 167 #[.agg #[.int .i64 id, .int .i64 state, .int .i64 step, .int .i64 steps, .int .i64 tries, .int .i64 due], .int .i64 reply] w _
   clear zr
   go_enter Tryz.func167, Tryz.ntmps167
   go_wp2
   exact bodyPost_ret (results_row_tmp Tryz.results167 _ _ (w.heap.size + 1) 138 #[.int .i64 id, .int .i64 state, .int .i64 step, .int .i64 steps, .int .i64 tries, .int .i64 due] (0, 0) _ rfl hE Tryz.underlying138 rfl stand_size) rfl ⟨rfl, ((Fr.refl _ _).alloc _).alloc _⟩
end Go.Proofs.YteebjgfalllbjaaGreatDoor
namespace Go.Proofs.YteebjgfalllbjaaGreatDoor
open Go.RowKit
def mvFs : List Value := [.nilFunc, .func (.func 167) #[] #[], .func (.func 168) #[] #[], .func (.func 169) #[] #[], .func (.func 169) #[] #[]]
set_option maxRecDepth 100000 in
theorem rlMoves_ok (w : World) : Calls Tryz.prog 156 #[] w fun e w' => e = .returned (.agg mvFs.toArray) ∧ Fr (fun _ => False) w w' := by
 have zr := heap_alloc_at w (.cells [Value.nilFunc, .nilFunc, .nilFunc, .nilFunc, .nilFunc].toArray 253)
 have hst := run_storeAt_row (P := Tryz.prog) (o := 0) (ty := 253) (vs := mvFs) zr (by decide) (by decide) (by kernel_rfl)
 have hRE := setRow_heap _ w.heap.size _ (splice [Value.nilFunc, .nilFunc, .nilFunc, .nilFunc, .nilFunc] 0 mvFs).toArray 253 (0, 0) zr
 rw [show splice [Value.nilFunc, .nilFunc, .nilFunc, .nilFunc, .nilFunc] 0 mvFs = mvFs from rfl] at hst hRE
 obtain ⟨WE, HWE⟩ : ∃ WE, Hid (WE = (w.alloc (.cells [Value.nilFunc, .nilFunc, .nilFunc, .nilFunc, .nilFunc].toArray 253)).setRow w.heap.size mvFs.toArray) := ⟨_, rfl⟩
 have hFE : Fr (fun _ => False) w WE := by rw [HWE.out]; exact Fr.setRow (S := fun _ => False) ((Fr.refl _ _).alloc _) _ (fun h => by omega) _
 rw [← HWE.out] at hst hRE
 clear HWE zr
 unfold mvFs at hst
 go_enter Tryz.func156, Tryz.ntmps156
 go_wp2_with (first | (refine wpList_store 253 (w' := WE) _ _ rfl rfl ?_ ?_; exact hst))
 exact bodyPost_ret (results_cell_row Tryz.results156 _ _ w.heap.size 253 _ (0, 0) _ rfl hRE Tryz.underlying253 rfl (by kernel_rfl)) rfl ⟨rfl, hFE⟩
set_option maxRecDepth 100000 in
theorem stOver_ok (w : World) (s : ST) (reply : Int) : Calls Tryz.prog 169 #[.agg s.cs.toArray, .int .i64 reply] w fun e w' => MvQ (s, false) w e w' := by
 obtain ⟨id, state, step, steps, tries, due⟩ := s
 have hE : ((w.alloc (.cells #[.int .i64 id, .int .i64 state, .int .i64 step, .int .i64 steps, .int .i64 tries, .int .i64 due] 138)).alloc (.cells #[.int .i64 id, .int .i64 state, .int .i64 step, .int .i64 steps, .int .i64 tries, .int .i64 due] 138)).heap[w.heap.size + 1]? = some (.cells #[.int .i64 id, .int .i64 state, .int .i64 step, .int .i64 steps, .int .i64 tries, .int .i64 due] 138 (0, 0)) := by
  have := heap_alloc_at (w.alloc (.cells #[.int .i64 id, .int .i64 state, .int .i64 step, .int .i64 steps, .int .i64 tries, .int .i64 due] 138)) (.cells #[.int .i64 id, .int .i64 state, .int .i64 step, .int .i64 steps, .int .i64 tries, .int .i64 due] 138)
  simpa using this
 change Calls Tryz.prog 169 #[.agg #[.int .i64 id, .int .i64 state, .int .i64 step, .int .i64 steps, .int .i64 tries, .int .i64 due], .int .i64 reply] w _
 go_enter Tryz.func169, Tryz.ntmps169
 go_wp2
 exact bodyPost_ret (results_row_tmp Tryz.results169 _ _ (w.heap.size + 1) 138 #[.int .i64 id, .int .i64 state, .int .i64 step, .int .i64 steps, .int .i64 tries, .int .i64 due] (0, 0) _ rfl hE Tryz.underlying138 rfl stand_size) rfl ⟨rfl, ((Fr.refl _ _).alloc _).alloc _⟩
end Go.Proofs.YteebjgfalllbjaaGreatDoor
namespace Go.Proofs.YteebjgfalllbjaaGreatDoor
open Go.RowKit
structure CL where
 saga : Int
 step : Int
 back : Bool
 data : ByteArray
def CL.cs (c : CL) : List Value := [.int .i64 c.saga, .int .i64 c.step, .bool c.back, .string c.data]
end Go.Proofs.YteebjgfalllbjaaGreatDoor
