import Derived.Test.YteebjgfalllbjaaGreatDoorCReAkAq
import Derived.Test.YteebjgfalllbjaaGreatDoorCSvDvVr
namespace Go.Proofs.YteebjgfalllbjaaGreatDoor
open Go.RowKit
theorem sts_get (zs : List ST) (i : Nat) (z : ST) (h : zs[i]? = some z) (j : Nat) (v : Value) (hv : z.cs[j]? = some v) : (zs.map ST.cs).flatten[i * 6 + j]? = some v := by
  induction zs generalizing i with
  | nil => simp at h
  | cons a l ih =>
    have hj : j < 6 := (List.getElem?_eq_some_iff.1 hv).1
    rw [List.map_cons, List.flatten_cons]
    cases i with
    | zero =>
      obtain rfl : a = z := by simpa using h
      rw [List.getElem?_append_left (by rw [ST.len]; omega), Nat.zero_mul, Nat.zero_add]
      exact hv
    | succ i =>
      rw [List.getElem?_append_right (by rw [ST.len]; omega), ST.len, show (i + 1) * 6 + j - 6 = i * 6 + j by omega]
      exact ih i (by simpa using h)
section
variable {w : World} {X J R : Nat} {clock ck pause : Int} {cv : Value} {zs : List ST}
set_option maxRecDepth 100000 in
set_option maxHeartbeats 4000000 in
/-- tick, by what its calls do: an invariant over the sagas. -/
theorem tick_gen {Inv : Nat → World → Prop} {g : Nat} (he : EngAt w X J R clock pause cv) (hck : ck = clock + 1) (hc0 : 0 ≤ clock) (hc1 : clock ≤ 1000000) (hzl : zs.length ≤ 100000)
    (HE : ∀ i W, Inv i W → EngAt W X J R ck pause cv) (Hg : ∀ i W, Inv i W → W.heap[g]? = some (.cells (zs.map ST.cs).flatten.toArray 42 (0, 0)))
    (HST : ∀ W, EngAt W X J R ck pause cv → Fr (fun b => b = X) w W → W.heap.size = w.heap.size → Calls Tryz.prog 64 #[.pointer (some ⟨R, 0, none⟩)] W fun e' w' => e' = .returned (.slice (some ⟨g, 0, none⟩) zs.length zs.length) ∧ Inv 0 w')
    (HNX : ∀ i W0 W z, zs[i]? = some z → Inv i W0 → Fr (fun _ => False) W0 W → Calls Tryz.prog 65 #[.pointer (some ⟨R, 0, none⟩), .int .i64 z.id, .int .i64 ck] W fun e' w' => ∃ c t, e' = .returned (.tuple #[.agg (CL.cs c).toArray, .bool t]) ∧ Fr (fun _ => False) W w' ∧ ((t = false → ∀ W', Fr (fun _ => False) W0 W' → Inv (i + 1) W') ∧ (t = true → ∀ W', Fr (fun _ => False) W0 W' → Calls Tryz.prog 66 #[.pointer (some ⟨X, 0, none⟩), .agg c.cs.toArray] W' fun e'' w'' => e'' = .returned .nilIface ∧ Inv (i + 1) w''))) :
    Calls Tryz.prog 43 #[.pointer (some ⟨X, 0, none⟩)] w fun e' w' => e' = .returned .nilIface ∧ Inv zs.length w' := by
  have hlift : Tryz.prog.follows .mixedOrders = true := by kernel_rfl
  have x2 : w.cell? ⟨X, 2, none⟩ = some (.bool false) := (cell_of_row _ X 2 _ _ _ he).trans rfl
  have x3 : w.cell? ⟨X, 3, none⟩ = some (.int .i64 clock) := (cell_of_row _ X 3 _ _ _ he).trans rfl
  have f3 : w.frozen? ⟨X, 3, none⟩ = false := frozen_of_row _ _ 3 _ _ he
  have hE1 : EngAt (w.setCell ⟨X, 3, none⟩ (.int .i64 (clock + 1))) X J R (clock + 1) pause cv := heap_setCell_at w X 3 _ _ (.int .i64 (clock + 1)) he
  have x1 : (w.setCell ⟨X, 3, none⟩ (.int .i64 (clock + 1))).cell? ⟨X, 1, none⟩ = some (.pointer (some ⟨R, 0, none⟩)) := (cell_of_row _ X 1 _ _ _ hE1).trans rfl
  have HS := HST (w.setCell ⟨X, 3, none⟩ (.int .i64 (clock + 1))) (by rw [hck]; exact hE1) (Fr.set1 _ _ _ _) (by simp [World.setCell])
  clear HST hck
  go_enter Tryz.func43, Tryz.ntmps43
  go_wp2_with fail
  refine HS.mono ?_
  rintro e1 w1 ⟨rfl, hq1⟩
  have HQ1 : Hid (Inv 0 w1) := hq1
  clear hq1 HS x1 x2 x3 f3 hE1
  go_wp2
  go_loopw [26] (fun c wr => ∃ i : Nat, i ≤ zs.length ∧ c = .int .i64 i ∧ Hid (Inv i wr)) (fun c _ => zs.length - (intOf c).toNat)
  case atStart => exact ⟨0, Nat.zero_le _, rfl, HQ1⟩
  case round =>
    obtain ⟨i, hi, rfl, HR⟩ := hrel
    clear HQ1
    by_cases hlt : i < zs.length
    · have hlt' : (i : Int) < zs.length := by omega
      obtain ⟨z, hzi⟩ : ∃ z, zs[i]? = some z := ⟨_, List.getElem?_eq_getElem hlt⟩
      have hgr := Hg i wr HR.out
      have hrg : wr.rangeAt g (i * 6) z.cs := fun j v hv => (cell_of_row wr _ (i * 6 + j) _ _ _ hgr).trans (by
        rw [List.getElem?_toArray]
        exact sts_get zs i z hzi j v hv)
      have hEw := HE i wr HR.out
      obtain ⟨wA, HWA⟩ : ∃ wA, Hid (wA = wr.alloc (.cells z.cs.toArray 42)) := ⟨_, rfl⟩
      have hfA : Fr (fun _ => False) wr wA := by rw [HWA.out]; exact (Fr.refl _ _).alloc _
      have hrA : wA.heap[wr.heap.size]? = some (.cells z.cs.toArray 42 (0, 0)) := by rw [HWA.out]; exact heap_alloc_at _ _
      have hEA : EngAt wA X J R ck pause cv := hfA.keep hEw (fun h => h)
      have hsA : wA.cell? ⟨wr.heap.size, 0, none⟩ = some (.int .i64 z.id) := (cell_of_row _ _ 0 _ _ _ hrA).trans rfl
      clear hgr hEw hrA
      unfold ST.cs at HWA hrg
      go_wp2_with (first | (refine wpList_load_mid rfl 42 _ rfl g (i * 6) ?_ _ _ hrg Tryz.underlying42 rfl ?_ ?_; rfl; exact status_size))
      rw [← HWA.out]
      obtain ⟨W, HW⟩ : ∃ W, Hid (W = wA.drew) := ⟨_, rfl⟩
      have hfW : Fr (fun _ => False) wA W := by rw [HW.out]; exact (Fr.refl _ _).drew
      let S : World → Prop := fun w' => EngAt w' X J R ck pause cv ∧ w'.cell? ⟨wr.heap.size, 0, none⟩ = some (.int .i64 z.id)
      have hS : S W := ⟨hfW.keep hEA (fun h => h), hfW.cell hsA (fun h => h)⟩
      refine wp_region_held (S := S) hlift ?_
      change wpAnyH _ _ _ _ S _ _ _ (World.drew _)
      rw [← HW.out]
      clear HW
      refine wpAnyH_take (S := S) (i := 0) (oi := ⟨some 31, .move (.tmp 0), _, _, _, none⟩) (v := .pointer (some ⟨X, 0, none⟩)) rfl (by kernel_rfl) (by kernel_rfl) (by kernel_rfl) (fun _ _ _ h => h) (Or.inl ⟨rfl, fun _ _ => rfl⟩) hS ?_
      simp only [Act.put, List.setIfInBounds_toArray, List.set_cons_zero, List.set_cons_succ]
      refine wpAnyH_take (S := S) (i := 1) (oi := ⟨some 32, .nilCheck (.tmp 31), _, _, _, none⟩) (v := .pointer (some ⟨X, 0, none⟩)) rfl (by kernel_rfl) (by kernel_rfl) (by kernel_rfl) (fun _ _ _ h => h) (Or.inl ⟨rfl, fun _ _ => by kernel_rfl⟩) hS ?_
      simp only [Act.put, List.setIfInBounds_toArray, List.set_cons_zero, List.set_cons_succ]
      refine wpAnyH_take (S := S) (i := 2) (oi := ⟨some 33, .fieldAddr 91 (.tmp 32) 1, _, _, _, none⟩) (v := .pointer (some ⟨X, 1, none⟩)) rfl (by kernel_rfl) (by kernel_rfl) (by kernel_rfl) (fun _ _ _ h => h) (Or.inl ⟨rfl, fun _ _ => by kernel_rfl⟩) hS ?_
      simp only [Act.put, List.setIfInBounds_toArray, List.set_cons_zero, List.set_cons_succ]
      refine wpAnyH_take (S := S) (i := 3) (oi := ⟨some 34, .load 88 (.tmp 33), _, _, _, none⟩) (v := .pointer (some ⟨R, 0, none⟩)) rfl (by kernel_rfl) (by kernel_rfl) (by kernel_rfl) (fun _ _ _ h => h) (Or.inl ⟨rfl, fun w' hs => exec_load 88 (.tmp 33) rfl ⟨X, 1, none⟩ rfl (run_loadAt_one ((cell_of_row _ X 1 _ _ _ hs.1).trans rfl) Tryz.underlying88 rfl)⟩) hS ?_
      simp only [Act.put, List.setIfInBounds_toArray, List.set_cons_zero, List.set_cons_succ]
      refine wpAnyH_take (S := S) (i := 4) (oi := ⟨some 35, .fieldAddr 42 (.tmp 4) 0, _, _, _, none⟩) (v := .pointer (some ⟨wr.heap.size, 0, none⟩)) rfl (by kernel_rfl) (by kernel_rfl) (by kernel_rfl) (fun _ _ _ h => h) (Or.inl ⟨rfl, fun _ _ => by kernel_rfl⟩) hS ?_
      simp only [Act.put, List.setIfInBounds_toArray, List.set_cons_zero, List.set_cons_succ]
      refine wpAnyH_take (S := S) (i := 5) (oi := ⟨some 36, .load 3 (.tmp 35), _, _, _, none⟩) (v := .int .i64 z.id) rfl (by kernel_rfl) (by kernel_rfl) (by kernel_rfl) (fun _ _ _ h => h) (Or.inl ⟨rfl, fun w' hs => exec_load 3 (.tmp 35) rfl ⟨wr.heap.size, 0, none⟩ rfl (run_loadAt_one hs.2 Tryz.underlying3 rfl)⟩) hS ?_
      simp only [Act.put, List.setIfInBounds_toArray, List.set_cons_zero, List.set_cons_succ]
      refine wpAnyH_take (S := S) (i := 6) (oi := ⟨some 37, .move (.tmp 0), _, _, _, none⟩) (v := .pointer (some ⟨X, 0, none⟩)) rfl (by kernel_rfl) (by kernel_rfl) (by kernel_rfl) (fun _ _ _ h => h) (Or.inl ⟨rfl, fun _ _ => rfl⟩) hS ?_
      simp only [Act.put, List.setIfInBounds_toArray, List.set_cons_zero, List.set_cons_succ]
      refine wpAnyH_take (S := S) (i := 7) (oi := ⟨some 38, .nilCheck (.tmp 37), _, _, _, none⟩) (v := .pointer (some ⟨X, 0, none⟩)) rfl (by kernel_rfl) (by kernel_rfl) (by kernel_rfl) (fun _ _ _ h => h) (Or.inl ⟨rfl, fun _ _ => by kernel_rfl⟩) hS ?_
      simp only [Act.put, List.setIfInBounds_toArray, List.set_cons_zero, List.set_cons_succ]
      refine wpAnyH_take (S := S) (i := 8) (oi := ⟨some 39, .fieldAddr 91 (.tmp 38) 3, _, _, _, none⟩) (v := .pointer (some ⟨X, 3, none⟩)) rfl (by kernel_rfl) (by kernel_rfl) (by kernel_rfl) (fun _ _ _ h => h) (Or.inl ⟨rfl, fun _ _ => by kernel_rfl⟩) hS ?_
      simp only [Act.put, List.setIfInBounds_toArray, List.set_cons_zero, List.set_cons_succ]
      refine wpAnyH_take (S := S) (i := 9) (oi := ⟨some 40, .load 3 (.tmp 39), _, _, _, none⟩) (v := .int .i64 ck) rfl (by kernel_rfl) (by kernel_rfl) (by kernel_rfl) (fun _ _ _ h => h) (Or.inl ⟨rfl, fun w' hs => exec_load 3 (.tmp 39) rfl ⟨X, 3, none⟩ rfl (run_loadAt_one ((cell_of_row _ X 3 _ _ _ hs.1).trans rfl) Tryz.underlying3 rfl)⟩) hS ?_
      simp only [Act.put, List.setIfInBounds_toArray, List.set_cons_zero, List.set_cons_succ]
      refine wpAnyH_all (rs := [10, 14]) (by kernel_rfl) (by simp) ?_
      intro iq hiq
      have hqq : iq = 10 ∨ iq = 14 := by simpa using hiq
      rcases hqq with rfl | rfl
      · refine wpOp_call (o := ⟨some 41, .call { callee := .value (.func 65), args := #[(.tmp 34), (.tmp 36), (.tmp 40)], argTypes := _ }, _, _, _, none⟩) (f := 65) (args := #[.pointer (some ⟨R, 0, none⟩), .int .i64 z.id, .int .i64 ck]) rfl rfl (by kernel_rfl) ?_
        refine (HNX i wr W z hzi HR.out (hfA.trans hfW (fun _ _ h => h))).mono ?_
        rintro e1 w4 ⟨c, t, rfl, hfw4, hq⟩
        have hw4 : Fr (fun _ => False) wA w4 := hfW.trans hfw4 (fun _ _ h => h)
        have hSw4 : S w4 := ⟨hw4.keep hEA (fun h => h), hw4.cell hsA (fun h => h)⟩
        refine ⟨_, rfl, hSw4, ?_⟩
        simp only [Act.put, List.setIfInBounds_toArray, List.set_cons_zero, List.set_cons_succ]
        refine wpAnyH_take (S := S) (i := 11) (oi := ⟨some 30, .move (.tmp 41), _, _, _, none⟩) (v := .tuple #[.agg c.cs.toArray, .bool t]) rfl (by kernel_rfl) (by kernel_rfl) (by kernel_rfl) (fun _ _ _ h => h) (Or.inl ⟨rfl, fun _ _ => rfl⟩) hSw4 ?_
        simp only [Act.put, List.setIfInBounds_toArray, List.set_cons_zero, List.set_cons_succ]
        refine wpAnyH_take (S := S) (i := 12) (oi := ⟨some 42, .extract (.tmp 30) 0, _, _, _, none⟩) (v := .agg c.cs.toArray) rfl (by kernel_rfl) (by kernel_rfl) (by kernel_rfl) (fun _ _ _ h => h) (Or.inl ⟨rfl, fun _ _ => rfl⟩) hSw4 ?_
        simp only [Act.put, List.setIfInBounds_toArray, List.set_cons_zero, List.set_cons_succ]
        refine wpAnyH_take (S := S) (i := 13) (oi := ⟨some 43, .extract (.tmp 30) 1, _, _, _, none⟩) (v := .bool t) rfl (by kernel_rfl) (by kernel_rfl) (by kernel_rfl) (fun _ _ _ h => h) (Or.inl ⟨rfl, fun _ _ => rfl⟩) hSw4 ?_
        simp only [Act.put, List.setIfInBounds_toArray, List.set_cons_zero, List.set_cons_succ]
        refine wpAnyH_all (rs := [14]) (by kernel_rfl) (by simp) ?_
        intro i14 hi14
        obtain rfl : i14 = 14 := by simpa using hi14
        obtain ⟨w5, HWw5⟩ : ∃ w5, Hid (w5 = w4.alloc (.cells ([.int .i64 0, .int .i64 0, .bool false, .string ⟨#[]⟩] : List Value).toArray 50)) := ⟨_, rfl⟩
        have hrw5 : w5.heap[w4.heap.size]? = some (.cells ([.int .i64 0, .int .i64 0, .bool false, .string ⟨#[]⟩] : List Value).toArray 50 (0, 0)) := by rw [HWw5.out]; exact heap_alloc_at _ _
        have hfw5 : Fr (fun _ => False) w4 w5 := by rw [HWw5.out]; exact (Fr.refl _ _).alloc _
        have hw5 : Fr (fun _ => False) wA w5 := hw4.trans hfw5 (fun _ _ h => h)
        have hSw5 : S w5 := ⟨hw5.keep hEA (fun h => h), hw5.cell hsA (fun h => h)⟩
        refine wpOp_value (o := ⟨some 5, .alloc 50, _, _, _, none⟩) (v := .pointer (some ⟨w4.heap.size, 0, none⟩)) (w' := w5) rfl rfl (by rw [HWw5.out]; exact exec_alloc_call _ _ rfl _) ⟨hSw5, ?_⟩
        simp only [Act.put, List.setIfInBounds_toArray, List.set_cons_zero, List.set_cons_succ]
        refine wpAnyH_all (rs := [15]) (by kernel_rfl) (by simp) ?_
        intro i15 hi15
        obtain rfl : i15 = 15 := by simpa using hi15
        have hst := run_storeC c (hrw5) rfl
        have hRE := setRow_heap w5 w4.heap.size _ c.cs.toArray 50 (0, 0) (hrw5)
        have hge : wA.heap.size ≤ w4.heap.size := hw4.size
        have hFE : Fr (fun _ => False) wA (w5.setRow w4.heap.size c.cs.toArray) := hw5.setRow _ (fun h => by omega) _
        have hFq : Fr (fun _ => False) wr (w5.setRow w4.heap.size c.cs.toArray) := hfA.trans hFE (fun _ _ h => h)
        have hSE : S (w5.setRow w4.heap.size c.cs.toArray) := ⟨hFE.keep hEA (fun h => h), hFE.cell hsA (fun h => h)⟩
        refine wpOp_skip (o := ⟨none, .store 50 (.tmp 5) (.tmp 42), _, _, _, none⟩) (w' := w5.setRow w4.heap.size c.cs.toArray) rfl rfl (exec_store 50 _ _ rfl ⟨w4.heap.size, 0, none⟩ _ rfl rfl hst) ⟨hSE, ?_⟩
        simp only [Act.put]
        refine wpAnyH_take (S := S) (i := 16) (oi := ⟨some 6, .assign (.tmp 43), _, _, _, none⟩) (v := .bool t) rfl (by kernel_rfl) (by kernel_rfl) (by kernel_rfl) (fun _ _ _ h => h) (Or.inl ⟨rfl, fun _ _ => rfl⟩) hSE ?_
        simp only [Act.put, List.setIfInBounds_toArray, List.set_cons_zero, List.set_cons_succ]
        refine wpAnyH_done (by kernel_rfl) ?_ _
        obtain ⟨WE, HWE⟩ : ∃ WE, Hid (WE = w5.setRow w4.heap.size c.cs.toArray) := ⟨_, rfl⟩
        have hrg2 : WE.rangeAt w4.heap.size 0 c.cs := fun j v hv => (cell_of_row WE _ (0 + j) _ _ _ (by rw [HWE.out]; exact hRE)).trans (by simpa using hv)
        rw [← HWE.out] at hFq ⊢
        cases t
        · have HN : Hid (Inv (i + 1) WE) := hq.1 rfl WE hFq
          clear HWE hRE hst hFE hSE hq
          go_wp2
          go_roundw
          case rel => exact ⟨i + 1, by omega, by go_num, HN⟩
          case measure => simp [intOf]; omega
        · have HH := hq.2 rfl WE hFq
          clear HWE hRE hst hFE hSE hq
          go_wp2_with (first | (refine wpList_load_mid rfl 50 (.tmp 5) rfl w4.heap.size 0 ?_ _ _ hrg2 Tryz.underlying50 rfl ?_ ?_; rfl; exact call_size))
          refine HH.mono ?_
          rintro e1 w9 ⟨rfl, hq9⟩
          have HN : Hid (Inv (i + 1) w9) := hq9
          clear hq9 HH
          go_wp2
          go_roundw
          case rel => exact ⟨i + 1, by omega, by go_num, HN⟩
          case measure => simp [intOf]; omega
      · obtain ⟨w4, HWw4⟩ : ∃ w4, Hid (w4 = W.alloc (.cells ([.int .i64 0, .int .i64 0, .bool false, .string ⟨#[]⟩] : List Value).toArray 50)) := ⟨_, rfl⟩
        have hrw4 : w4.heap[W.heap.size]? = some (.cells ([.int .i64 0, .int .i64 0, .bool false, .string ⟨#[]⟩] : List Value).toArray 50 (0, 0)) := by rw [HWw4.out]; exact heap_alloc_at _ _
        have hfw4 : Fr (fun _ => False) W w4 := by rw [HWw4.out]; exact (Fr.refl _ _).alloc _
        have hw4 : Fr (fun _ => False) wA w4 := hfW.trans hfw4 (fun _ _ h => h)
        have hSw4 : S w4 := ⟨hw4.keep hEA (fun h => h), hw4.cell hsA (fun h => h)⟩
        refine wpOp_value (o := ⟨some 5, .alloc 50, _, _, _, none⟩) (v := .pointer (some ⟨W.heap.size, 0, none⟩)) (w' := w4) rfl rfl (by rw [HWw4.out]; exact exec_alloc_call _ _ rfl _) ⟨hSw4, ?_⟩
        simp only [Act.put, List.setIfInBounds_toArray, List.set_cons_zero, List.set_cons_succ]
        refine wpAnyH_all (rs := [10]) (by kernel_rfl) (by simp) ?_
        intro i11 hi11
        obtain rfl : i11 = 10 := by simpa using hi11
        refine wpOp_call (o := ⟨some 41, .call { callee := .value (.func 65), args := #[(.tmp 34), (.tmp 36), (.tmp 40)], argTypes := _ }, _, _, _, none⟩) (f := 65) (args := #[.pointer (some ⟨R, 0, none⟩), .int .i64 z.id, .int .i64 ck]) rfl rfl (by kernel_rfl) ?_
        refine (HNX i wr w4 z hzi HR.out (hfA.trans hw4 (fun _ _ h => h))).mono ?_
        rintro e1 w5 ⟨c, t, rfl, hfw5, hq⟩
        have hw5 : Fr (fun _ => False) wA w5 := hw4.trans hfw5 (fun _ _ h => h)
        have hSw5 : S w5 := ⟨hw5.keep hEA (fun h => h), hw5.cell hsA (fun h => h)⟩
        refine ⟨_, rfl, hSw5, ?_⟩
        simp only [Act.put, List.setIfInBounds_toArray, List.set_cons_zero, List.set_cons_succ]
        refine wpAnyH_take (S := S) (i := 11) (oi := ⟨some 30, .move (.tmp 41), _, _, _, none⟩) (v := .tuple #[.agg c.cs.toArray, .bool t]) rfl (by kernel_rfl) (by kernel_rfl) (by kernel_rfl) (fun _ _ _ h => h) (Or.inl ⟨rfl, fun _ _ => rfl⟩) hSw5 ?_
        simp only [Act.put, List.setIfInBounds_toArray, List.set_cons_zero, List.set_cons_succ]
        refine wpAnyH_take (S := S) (i := 12) (oi := ⟨some 42, .extract (.tmp 30) 0, _, _, _, none⟩) (v := .agg c.cs.toArray) rfl (by kernel_rfl) (by kernel_rfl) (by kernel_rfl) (fun _ _ _ h => h) (Or.inl ⟨rfl, fun _ _ => rfl⟩) hSw5 ?_
        simp only [Act.put, List.setIfInBounds_toArray, List.set_cons_zero, List.set_cons_succ]
        refine wpAnyH_take (S := S) (i := 13) (oi := ⟨some 43, .extract (.tmp 30) 1, _, _, _, none⟩) (v := .bool t) rfl (by kernel_rfl) (by kernel_rfl) (by kernel_rfl) (fun _ _ _ h => h) (Or.inl ⟨rfl, fun _ _ => rfl⟩) hSw5 ?_
        simp only [Act.put, List.setIfInBounds_toArray, List.set_cons_zero, List.set_cons_succ]
        refine wpAnyH_all (rs := [15]) (by kernel_rfl) (by simp) ?_
        intro i15 hi15
        obtain rfl : i15 = 15 := by simpa using hi15
        have hst := run_storeC c (hfw5.keep hrw4 (fun h => h)) rfl
        have hRE := setRow_heap w5 W.heap.size _ c.cs.toArray 50 (0, 0) (hfw5.keep hrw4 (fun h => h))
        have hge : wA.heap.size ≤ W.heap.size := hfW.size
        have hFE : Fr (fun _ => False) wA (w5.setRow W.heap.size c.cs.toArray) := hw5.setRow _ (fun h => by omega) _
        have hFq : Fr (fun _ => False) wr (w5.setRow W.heap.size c.cs.toArray) := hfA.trans hFE (fun _ _ h => h)
        have hSE : S (w5.setRow W.heap.size c.cs.toArray) := ⟨hFE.keep hEA (fun h => h), hFE.cell hsA (fun h => h)⟩
        refine wpOp_skip (o := ⟨none, .store 50 (.tmp 5) (.tmp 42), _, _, _, none⟩) (w' := w5.setRow W.heap.size c.cs.toArray) rfl rfl (exec_store 50 _ _ rfl ⟨W.heap.size, 0, none⟩ _ rfl rfl hst) ⟨hSE, ?_⟩
        simp only [Act.put]
        refine wpAnyH_take (S := S) (i := 16) (oi := ⟨some 6, .assign (.tmp 43), _, _, _, none⟩) (v := .bool t) rfl (by kernel_rfl) (by kernel_rfl) (by kernel_rfl) (fun _ _ _ h => h) (Or.inl ⟨rfl, fun _ _ => rfl⟩) hSE ?_
        simp only [Act.put, List.setIfInBounds_toArray, List.set_cons_zero, List.set_cons_succ]
        refine wpAnyH_done (by kernel_rfl) ?_ _
        obtain ⟨WE, HWE⟩ : ∃ WE, Hid (WE = w5.setRow W.heap.size c.cs.toArray) := ⟨_, rfl⟩
        have hrg2 : WE.rangeAt W.heap.size 0 c.cs := fun j v hv => (cell_of_row WE _ (0 + j) _ _ _ (by rw [HWE.out]; exact hRE)).trans (by simpa using hv)
        rw [← HWE.out] at hFq ⊢
        cases t
        · have HN : Hid (Inv (i + 1) WE) := hq.1 rfl WE hFq
          clear HWE hRE hst hFE hSE hq
          go_wp2
          go_roundw
          case rel => exact ⟨i + 1, by omega, by go_num, HN⟩
          case measure => simp [intOf]; omega
        · have HH := hq.2 rfl WE hFq
          clear HWE hRE hst hFE hSE hq
          go_wp2_with (first | (refine wpList_load_mid rfl 50 (.tmp 5) rfl W.heap.size 0 ?_ _ _ hrg2 Tryz.underlying50 rfl ?_ ?_; rfl; exact call_size))
          refine HH.mono ?_
          rintro e1 w9 ⟨rfl, hq9⟩
          have HN : Hid (Inv (i + 1) w9) := hq9
          clear hq9 HH
          go_wp2
          go_roundw
          case rel => exact ⟨i + 1, by omega, by go_num, HN⟩
          case measure => simp [intOf]; omega
    · obtain rfl : i = zs.length := by omega
      go_wp2
      go_ret
      exact ⟨rfl, HR.out⟩
end
end Go.Proofs.YteebjgfalllbjaaGreatDoor
namespace Go.Proofs.YteebjgfalllbjaaGreatDoor
open Go.RowKit
theorem sorted_of {es : List (Nat × AS)} {L : List AS} (hm : es.map (·.2) = L) (h : L.Pairwise (fun a b => a.id < b.id)) : Sorted es := by
  rw [← hm, List.pairwise_map] at h; exact h
theorem mem_of_map {es : List (Nat × AS)} {L : List AS} (hm : es.map (·.2) = L) {p : Nat × AS} (hp : p ∈ es) : p.2 ∈ L := by rw [← hm]; exact List.mem_map.2 ⟨p, hp, rfl⟩
/-- An engine's blocks. -/
def EngF (X J R V : Nat) (ev : Value) (es : List (Nat × AS)) (b : Nat) : Prop := b = X ∨ b = J ∨ b = V ∨ RollF R ev es b
end Go.Proofs.YteebjgfalllbjaaGreatDoor
namespace Go.Proofs.YteebjgfalllbjaaGreatDoor
open Go.RowKit
/-- The types of a partner's blocks. -/
def PT (t : TypeId) : Prop := t = 48 ∨ t = 52 ∨ t = 50 ∨ t = 3
/-- A partner, as an engine asks it by the function cv. -/
structure Ptn (cv : Value) where
  σ : Type
  PA : σ → (Nat → Prop) → World → Prop
  sz : σ → Nat
  ask : σ → CL → Nat × σ
  fr : ∀ {S F : Nat → Prop} {w w' : World} {s : σ}, PA s F w → Fr S w w' → (∀ b, F b → ¬ S b) → PA s F w'
  ty : ∀ {F : Nat → Prop} {w : World} {s : σ} {b : Nat}, PA s F w → F b → ∃ c t, w.heap[b]? = some (.cells c t (0, 0)) ∧ PT t
  le : ∀ s c, (ask s c).1 ≤ 2
  szs : ∀ s c, sz (ask s c).2 ≤ sz s + 1
  rep : ∀ {F : Nat → Prop} {w : World} {s : σ} {X J R : Nat} {clock pause : Int} (c : CL), PA s F w → sz s < 1000000 → EngAt w X J R clock pause cv → Calls Tryz.prog 104 #[.pointer (some ⟨X, 0, none⟩), .agg c.cs.toArray] w fun e' w' => e' = .returned (.int .i64 ((ask s c).1 : Nat)) ∧ Fr F w w' ∧ ∃ F', PA (ask s c).2 F' w' ∧ (∀ b, F' b → F b ∨ w.heap.size ≤ b)
section
variable {cv : Value} (P : Ptn cv) (ck pause : Int)
/-- What one tick does to a saga, to the partner, to the journal. -/
def tickOne (a : AS) (s : P.σ) : AS × P.σ × List (Nat × Nat) := if a.open ∧ a.due ≤ ck then (a.after (P.ask s a.asks).1 ck pause, (P.ask s a.asks).2, if a.moves (P.ask s a.asks).1 = true then [(a.id.toNat, (P.ask s a.asks).1)] else []) else (a, s, [])
def tickL : List AS → P.σ → List AS × P.σ × List (Nat × Nat)
  | [], s => ([], s, [])
  | a :: l, s => ((tickOne P ck pause a s).1 :: (tickL l (tickOne P ck pause a s).2.1).1, (tickL l (tickOne P ck pause a s).2.1).2.1, (tickOne P ck pause a s).2.2 ++ (tickL l (tickOne P ck pause a s).2.1).2.2)
theorem tickL_snoc (l : List AS) (a : AS) (s : P.σ) : tickL P ck pause (l ++ [a]) s = ((tickL P ck pause l s).1 ++ [(tickOne P ck pause a (tickL P ck pause l s).2.1).1], (tickOne P ck pause a (tickL P ck pause l s).2.1).2.1, (tickL P ck pause l s).2.2 ++ (tickOne P ck pause a (tickL P ck pause l s).2.1).2.2) := by
  induction l generalizing s with
  | nil => simp [tickL]
  | cons b l ih => simp [tickL, ih]
theorem AS.after_id (a : AS) (r : Nat) : (a.after r ck pause).id = a.id ∧ (a.after r ck pause).st = a.st := by unfold AS.after; split <;> exact ⟨rfl, rfl⟩
theorem tickOne_id (a : AS) (s : P.σ) : (tickOne P ck pause a s).1.id = a.id ∧ (tickOne P ck pause a s).1.st = a.st := by
  unfold tickOne
  split
  · exact AS.after_id ck pause a _
  · exact ⟨rfl, rfl⟩
theorem tickL_ids (l : List AS) (s : P.σ) : (tickL P ck pause l s).1.map (·.id) = l.map (·.id) := by
  induction l generalizing s with
  | nil => rfl
  | cons a l ih => simp only [tickL, List.map_cons, ih, (tickOne_id P ck pause a s).1]
theorem tickL_sts (l : List AS) (s : P.σ) : (tickL P ck pause l s).1.map (·.st) = l.map (·.st) := by
  induction l generalizing s with
  | nil => rfl
  | cons a l ih => simp only [tickL, List.map_cons, ih, (tickOne_id P ck pause a s).2]
theorem tickL_len (l : List AS) (s : P.σ) : (tickL P ck pause l s).1.length = l.length := by
  have := congrArg List.length (tickL_ids P ck pause l s)
  simpa using this
theorem tickL_sz (l : List AS) (s : P.σ) : P.sz (tickL P ck pause l s).2.1 ≤ P.sz s + l.length := by
  induction l generalizing s with
  | nil => simp [tickL]
  | cons a l ih =>
    have h1 := ih (tickOne P ck pause a s).2.1
    have h2 : P.sz (tickOne P ck pause a s).2.1 ≤ P.sz s + 1 := by
      unfold tickOne
      split
      · exact P.szs _ _
      · simp
    simp only [tickL, List.length_cons]
    omega
theorem AS.Ok.mono {a : AS} {c c' : Int} (h : a.Ok c) (hc : c ≤ c') : a.Ok c' := ⟨h.s, h.p, h.l1, h.l6, h.t0, by have := h.t1; omega⟩
theorem tickOne_ok {a : AS} (s : P.σ) (h : a.Ok (ck - 1)) (h0 : 0 ≤ ck) : (tickOne P ck pause a s).1.Ok ck ∧ (tickOne P ck pause a s).1.left + (tickOne P ck pause a s).2.2.length ≤ a.left := by
  unfold tickOne
  by_cases hd : a.open ∧ a.due ≤ ck
  · rw [if_pos hd]
    by_cases hm : a.moves (P.ask s a.asks).1 = true
    · have := h.go (reply := ((P.ask s a.asks).1 : Nat)) (clock := ck) h0 hd.1 hm
      simp only [AS.after, hm, if_true, List.length_singleton]
      exact this
    · simp only [AS.after, hm]
      exact ⟨h.vain, Nat.le_refl _⟩
  · rw [if_neg hd]
    exact ⟨h.mono (by omega), by simp⟩
theorem tickL_ok (l : List AS) (s : P.σ) (h : ∀ a ∈ l, a.Ok (ck - 1)) (h0 : 0 ≤ ck) : (∀ a ∈ (tickL P ck pause l s).1, a.Ok ck) ∧ ((tickL P ck pause l s).1.map AS.left).sum + (tickL P ck pause l s).2.2.length ≤ (l.map AS.left).sum := by
  induction l generalizing s with
  | nil => simp [tickL]
  | cons a l ih =>
    have h1 := tickOne_ok P ck pause s (h a (by simp)) h0
    have h2 := ih (tickOne P ck pause a s).2.1 (fun b hb => h b (by simp [hb]))
    simp only [tickL, List.map_cons, List.sum_cons, List.length_append]
    refine ⟨fun b hb => ?_, by have := h1.2; have := h2.2; omega⟩
    rcases List.mem_cons.1 hb with rfl | hb
    · exact h1.1
    · exact h2.1 b hb
end
section
variable {es : List (Nat × AS)}
theorem map_turn (d r : List AS) (a : AS) (f : AS → AS) (hd : (d ++ a :: r).Pairwise (fun a b => a.id < b.id)) : (d ++ a :: r).map (fun b => if b.id = a.id then f b else b) = d ++ f a :: r := by
  rw [List.pairwise_append, List.pairwise_cons] at hd
  have h1 : d.map (fun b => if b.id = a.id then f b else b) = d := by
    refine (List.map_congr_left fun b hb => ?_).trans (List.map_id _)
    have := hd.2.2 b hb a (by simp)
    rw [if_neg (by omega)]; rfl
  have h2 : r.map (fun b => if b.id = a.id then f b else b) = r := by
    refine (List.map_congr_left fun b hb => ?_).trans (List.map_id _)
    have := hd.2.1.1 b hb
    rw [if_neg (by omega)]; rfl
  rw [List.map_append, List.map_cons, h1, h2, if_pos rfl]
theorem mapE_snd (id : Int) (f : AS → AS) : (mapE es id f).map (·.2) = (es.map (·.2)).map (fun b => if b.id = id then f b else b) := by
  rw [mapE, List.map_map, List.map_map]
  refine List.map_congr_left fun p _ => ?_
  show (if p.2.id = id then (p.1, f p.2) else p).2 = if p.2.id = id then f p.2 else p.2
  split <;> rfl
theorem mapE_fst (id : Int) (f : AS → AS) : (mapE es id f).map (·.1) = es.map (·.1) := by
  rw [mapE, List.map_map]
  refine List.map_congr_left fun p _ => ?_
  show (if p.2.id = id then (p.1, f p.2) else p).1 = p.1
  split <;> rfl
theorem rollF_fst {es' : List (Nat × AS)} (h : es'.map (·.1) = es.map (·.1)) (R : Nat) (ev : Value) (b : Nat) : RollF R ev es' b ↔ RollF R ev es b := by
  have key : ∀ l : List (Nat × AS), (∃ p ∈ l, b = p.1) ↔ b ∈ l.map (·.1) := fun l => by
    constructor
    · rintro ⟨p, hp, rfl⟩; exact List.mem_map.2 ⟨p, hp, rfl⟩
    · intro hb; obtain ⟨p, hp, rfl⟩ := List.mem_map.1 hb; exact ⟨p, hp, rfl⟩
  unfold RollF
  rw [key, key, h]
end
end Go.Proofs.YteebjgfalllbjaaGreatDoor
