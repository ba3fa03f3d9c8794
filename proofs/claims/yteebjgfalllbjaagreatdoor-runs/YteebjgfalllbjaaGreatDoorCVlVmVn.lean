import Derived.Test.YteebjgfalllbjaaGreatDoorCRhRiApi
import Derived.Lib.Walk
import Derived.Lib.BitFns
import Derived.Test.YteebjgfalllbjaaGreatDoorCLsLtLk
import Derived.Test.YteebjgfalllbjaaGreatDoorCVbNeNg
import Derived.Test.YteebjgfalllbjaaGreatDoorCRpAlRs
import Derived.Test.YteebjgfalllbjaaGreatDoorCVcVdVh
namespace Go.Proofs.YteebjgfalllbjaaGreatDoor
open Go.RowKit
set_option maxRecDepth 100000 in
set_option maxHeartbeats 4000000 in
theorem Len64_ok (w : World) (p : Int) (h1 : 1 ≤ p) (h2 : p ≤ 64) : Calls Tryz.prog 180 #[.int .u64 p] w fun e w' => e = .returned (.int .i64 (Lib.bitLen p.toNat)) ∧ w' = w := by
  have h0 : 0 ≤ p := by omega
  have h3 : p < 256 := by omega
  go_enter Tryz.func180, Tryz.ntmps180
  go_wp2
  rename_i hsz
  have e1 : ((Lib.len8tab[p.toNat]'(by omega)).toNat : Int) = Lib.len8 p := by
    unfold Lib.len8
    rw [getElem?_pos Lib.len8tab p.toNat (by omega)]
    rfl
  have e2 := Lib.len8_of p h0 (by omega)
  have e3 := Lib.bitLen_le8' p h0 (by omega)
  all_goals (go_ret; refine ⟨congrArg Ending.returned (congrArg (Value.int IntKind.i64) ?_), rfl⟩)
  rw [e1, e2]
  unfold wrap64
  omega
set_option maxRecDepth 100000 in
theorem bitsLen_ok (w : World) (p : Int) (h1 : 1 ≤ p) (h2 : p ≤ 64) : Calls Tryz.prog 172 #[.int .u64 p] w fun e w' => e = .returned (.int .i64 (Lib.bitLen p.toNat)) ∧ w' = w := by
  have HL := Len64_ok w p h1 h2
  have e0 : p % 18446744073709551616 = p := by omega
  go_enter Tryz.func172, Tryz.ntmps172
  go_wp2_with fail
  refine HL.mono ?_
  rintro e w' ⟨rfl, rfl⟩
  go_wp2
  go_ret
  exact ⟨rfl, rfl⟩
end Go.Proofs.YteebjgfalllbjaaGreatDoor
namespace Go.Proofs.YteebjgfalllbjaaGreatDoor
open Go.RowKit
theorem exec_cuint {ρ : Operand → Value} {o : Oper} {x : Operand} {a : Int} (ho : o.op = .convert 3 185 x) (hx : ρ x = .int .i64 a) (h0 : 0 ≤ a) (h1 : a < 18446744073709551616) (w : World) : (execOp ρ o).run Tryz.prog w = .ok (.value (.int .u64 a)) w := by
  have e : a % 18446744073709551616 = a := by omega
  simp only [execOp, ho, hx]
  have : (execOp ρ o).run Tryz.prog w = .ok (.value (.int .u64 (a % 18446744073709551616))) w := by simp only [execOp, ho, hx]; kernel_rfl
  rw [e] at this
  simpa only [execOp, ho, hx] using this
theorem exec_min {ρ : Operand → Value} {o : Oper} {x y : Operand} {a b : Int} {ts : Array TypeId} (ho : o.op = .call { callee := .builtin .min, args := #[x, y], argTypes := ts }) (hx : ρ x = .int .i64 a) (hy : ρ y = .int .i64 b) (w : World) : (execOp ρ o).run Tryz.prog w = .ok (.value (.int .i64 (min a b))) w := by
  simp only [execOp, ho]
  simp [hx, hy, go_sem]
theorem exec_shl1 {ρ : Operand → Value} {o : Oper} {x y : Operand} {m : Nat} (ho : o.op = .binOp .shl 3 x y 3) (hx : ρ x = .int .i64 1) (hy : ρ y = .int .i64 m) (hm : m ≤ 7) (w : World) : (execOp ρ o).run Tryz.prog w = .ok (.value (.int .i64 (2 ^ m : Nat))) w := by
  simp only [execOp, ho, hx, hy]
  obtain h | h | h | h | h | h | h | h : m = 0 ∨ m = 1 ∨ m = 2 ∨ m = 3 ∨ m = 4 ∨ m = 5 ∨ m = 6 ∨ m = 7 := by omega
  all_goals subst h; kernel_rfl
/-- A stand that is put off. -/
def ST.off (s : ST) (clock pause : Int) (m : Nat) : ST := ⟨s.id, s.state, s.step, s.steps, s.tries + 1, clock + min ((2 ^ m : Nat) : Int) pause⟩
set_option maxRecDepth 100000 in
set_option maxHeartbeats 4000000 in
theorem putOff_ok (w : World) (id state step steps due : Int) (tries m : Nat) (clock pause : Int) (h1 : 1 ≤ pause) (h2 : pause ≤ 64) (hm : ((m : Nat) : Int) = min (tries : Int) (Lib.bitLen pause.toNat : Nat)) (ht : tries ≤ 1000000) (hc0 : 0 ≤ clock) (hc1 : clock ≤ 1000000) : Calls Tryz.prog 163 #[.agg (ST.cs ⟨id, state, step, steps, (tries : Nat), due⟩).toArray, .int .i64 clock, .int .i64 pause] w fun e w' => e = .returned (.agg (ST.cs (ST.off ⟨id, state, step, steps, (tries : Nat), due⟩ clock pause m)).toArray) ∧ Fr (fun _ => False) w w' := by
  have hlift : Tryz.prog.follows .mixedOrders = true := by kernel_rfl
  have e3 := Lib.bitLen_le8' pause (by omega) (by omega)
  have hbl : Lib.bitLen pause.toNat ≤ 7 := by
    have h7 := Lib.bitLenAux_le 64 pause.toNat 7 (by omega)
    exact h7
  have hm7 : m ≤ 7 := by omega
  have e1 : wrap64 ((tries : Int) + 1) = (tries : Int) + 1 := wrap64_id (by omega)
  have hp2 : ((2 ^ m : Nat) : Int) ≤ 128 := by
    have := Nat.pow_le_pow_right (show 0 < 2 by omega) hm7
    have h128 : (2 : Nat) ^ 7 = 128 := rfl
    omega
  have hp3 : (0 : Int) ≤ ((2 ^ m : Nat) : Int) := Int.natCast_nonneg _
  have e2 : wrap64 (clock + min ((2 ^ m : Nat) : Int) pause) = clock + min ((2 ^ m : Nat) : Int) pause := wrap64_id (by omega)
  have hrow : ((w.alloc (.cells #[.int .i64 id, .int .i64 state, .int .i64 step, .int .i64 steps, .int .i64 (tries : Nat), .int .i64 due] 138)).alloc (.cells #[.int .i64 0, .int .i64 0, .int .i64 0, .int .i64 0, .int .i64 0, .int .i64 0] 138)).heap[w.heap.size]? = some (.cells #[.int .i64 id, .int .i64 state, .int .i64 step, .int .i64 steps, .int .i64 (tries : Nat), .int .i64 due] 138 (0, 0)) := by
    rw [heap_alloc_lt _ _ _ (by simp)]; exact heap_alloc_at _ _
  have hrow1 : ((w.alloc (.cells #[.int .i64 id, .int .i64 state, .int .i64 step, .int .i64 steps, .int .i64 (tries : Nat), .int .i64 due] 138)).alloc (.cells #[.int .i64 0, .int .i64 0, .int .i64 0, .int .i64 0, .int .i64 0, .int .i64 0] 138)).heap[w.heap.size + 1]? = some (.cells #[.int .i64 0, .int .i64 0, .int .i64 0, .int .i64 0, .int .i64 0, .int .i64 0] 138 (0, 0)) := heap_alloc2_new w _ _
  have hfa : Fr (fun _ => False) w ((w.alloc (.cells #[.int .i64 id, .int .i64 state, .int .i64 step, .int .i64 steps, .int .i64 (tries : Nat), .int .i64 due] 138)).alloc (.cells #[.int .i64 0, .int .i64 0, .int .i64 0, .int .i64 0, .int .i64 0, .int .i64 0] 138)) := ((Fr.refl _ _).alloc _).alloc _
  unfold ST.cs
  go_enter Tryz.func163, Tryz.ntmps163
  go_wp2_with fail
  obtain ⟨W, HW⟩ : ∃ W, Hid (W = ((w.alloc (.cells #[.int .i64 id, .int .i64 state, .int .i64 step, .int .i64 steps, .int .i64 (tries : Nat), .int .i64 due] 138)).alloc (.cells #[.int .i64 0, .int .i64 0, .int .i64 0, .int .i64 0, .int .i64 0, .int .i64 0] 138)).drew) := ⟨_, rfl⟩
  have hfW : Fr (fun _ => False) ((w.alloc (.cells #[.int .i64 id, .int .i64 state, .int .i64 step, .int .i64 steps, .int .i64 (tries : Nat), .int .i64 due] 138)).alloc (.cells #[.int .i64 0, .int .i64 0, .int .i64 0, .int .i64 0, .int .i64 0, .int .i64 0] 138)) W := by rw [HW.out]; exact (Fr.refl _ _).drew
  let S : World → Prop := fun w' => w'.cell? ⟨w.heap.size, 4, none⟩ = some (.int .i64 (tries : Nat))
  have hS : S W := (cell_of_row _ _ 4 _ _ _ (hfW.keep hrow (fun h => h))).trans rfl
  refine wp_region_held (S := S) hlift ?_
  change wpAnyH _ _ _ _ S _ _ _ (World.drew _)
  rw [← HW.out]
  clear HW
  refine tkE (S := S) (i := 0) (oi := ⟨some 8, .fieldAddr 138 (.tmp 3) 4, _, _, _, none⟩) (v := .pointer (some ⟨w.heap.size, 4, none⟩)) rfl hS ?_
  simp only [Act.put, lsE, lsZ, lsS]
  refine tkY (S := S) (i := 1) (oi := ⟨some 9, .load 3 (.tmp 8), _, _, _, none⟩) (v := .int .i64 (tries : Nat)) rfl (Or.inl ⟨rfl, fun w' hs => exec_load 3 (.tmp 8) rfl ⟨w.heap.size, 4, none⟩ rfl (run_loadAt_one hs Tryz.underlying3 rfl)⟩) hS ?_
  simp only [Act.put, lsE, lsZ, lsS]
  refine tkE (S := S) (i := 2) (oi := ⟨some 10, .move (.tmp 2), _, _, _, none⟩) (v := .int .i64 pause) rfl hS ?_
  simp only [Act.put, lsE, lsZ, lsS]
  refine tkY (S := S) (i := 3) (oi := ⟨some 11, .convert 3 185 (.tmp 10), _, _, _, none⟩) (v := .int .u64 pause) rfl (Or.inl ⟨rfl, fun w' _ => exec_cuint rfl rfl (by omega) (by omega) w'⟩) hS ?_
  simp only [Act.put, lsE, lsZ, lsS]
  refine wpAnyH_all (rs := [4]) (by kernel_rfl) (by simp) ?_
  intro i4 hi4
  obtain rfl : i4 = 4 := by simpa using hi4
  refine wpOp_call (o := ⟨some 12, .call { callee := .value (.func 172), args := #[(.tmp 11)], argTypes := _ }, _, _, _, none⟩) (f := 172) (args := #[.int .u64 pause]) rfl rfl (by kernel_rfl) ?_
  refine (bitsLen_ok W pause h1 h2).mono ?_
  rintro e w2 ⟨rfl, rfl⟩
  refine ⟨_, rfl, hS, ?_⟩
  simp only [Act.put, lsE, lsZ, lsS]
  refine wpAnyH_all (rs := [5]) (by kernel_rfl) (by simp) ?_
  intro i5 hi5
  obtain rfl : i5 = 5 := by simpa using hi5
  refine wpOp_value (o := ⟨some 13, .call { callee := .builtin .min, args := #[.tmp 9, .tmp 12], argTypes := _ }, _, _, _, none⟩) (v := .int .i64 (m : Nat)) (w' := w2) rfl rfl (by rw [hm]; exact exec_min rfl rfl rfl w2) ⟨hS, ?_⟩
  simp only [Act.put, lsE, lsZ, lsS]
  refine tkY (S := S) (i := 6) (oi := ⟨some 14, .binOp .shl 3 (.const (.int .i64 1)) (.tmp 13) 3, _, _, _, none⟩) (v := .int .i64 (2 ^ m : Nat)) rfl (Or.inl ⟨rfl, fun w' _ => exec_shl1 rfl rfl rfl hm7 w'⟩) hS ?_
  simp only [Act.put, lsE, lsZ, lsS]
  refine tkE (S := S) (i := 7) (oi := ⟨some 7, .assign (.tmp 14), _, _, _, none⟩) (v := .int .i64 (2 ^ m : Nat)) rfl hS ?_
  simp only [Act.put, lsE, lsZ, lsS]
  refine wpAnyH_done (by kernel_rfl) ?_ _
  generalize hq : (2 ^ m : Nat) = q at *
  have hrow' := hfW.keep hrow (fun h => h)
  have hrow1' := hfW.keep hrow1 (fun h => h)
  have hFW := hfa.trans hfW (fun _ _ h => h)
  have c4 : w2.cell? ⟨w.heap.size, 4, none⟩ = some (.int .i64 (tries : Nat)) := hS
  clear hrow hrow1 hfW hfa hS
  have fz : w2.frozen? ⟨w.heap.size, 4, none⟩ = false := frozen_of_row w2 _ 4 _ _ hrow'
  have fz5 : (w2.setCell ⟨w.heap.size, 4, none⟩ (.int .i64 ((tries : Int) + 1))).frozen? ⟨w.heap.size, 5, none⟩ = false := frozen_of_row _ _ 5 _ _ (heap_setCell_at w2 w.heap.size 4 _ _ (.int .i64 ((tries : Int) + 1)) hrow')
  have c5 : (w2.setCell ⟨w.heap.size, 4, none⟩ (.int .i64 ((tries : Int) + 1))).cell? ⟨w.heap.size, 5, none⟩ = some (.int .i64 due) := (cell_of_row _ _ 5 _ _ _ (heap_setCell_at w2 w.heap.size 4 _ _ (.int .i64 ((tries : Int) + 1)) hrow')).trans rfl
  have hB0 := heap_setCell_at _ w.heap.size 5 _ _ (.int .i64 (clock + min (q : Int) pause)) (heap_setCell_at w2 w.heap.size 4 _ _ (.int .i64 ((tries : Int) + 1)) hrow')
  have hB1 : ((w2.setCell ⟨w.heap.size, 4, none⟩ (.int .i64 ((tries : Int) + 1))).setCell ⟨w.heap.size, 5, none⟩ (.int .i64 (clock + min (q : Int) pause))).heap[w.heap.size + 1]? = _ := (heap_setCell_ne _ _ _ _ (by simp)).trans ((heap_setCell_ne _ _ _ _ (by simp)).trans hrow1')
  have hFB : Fr (fun _ => False) w ((w2.setCell ⟨w.heap.size, 4, none⟩ (.int .i64 ((tries : Int) + 1))).setCell ⟨w.heap.size, 5, none⟩ (.int .i64 (clock + min (q : Int) pause))) := (hFW.setCell _ (fun h => by simp at h) _).setCell _ (fun h => by simp at h) _
  obtain ⟨WB, HWB⟩ : ∃ WB, Hid (WB = ((w2.setCell ⟨w.heap.size, 4, none⟩ (.int .i64 ((tries : Int) + 1))).setCell ⟨w.heap.size, 5, none⟩ (.int .i64 (clock + min (q : Int) pause)))) := ⟨_, rfl⟩
  rw [← HWB.out] at hB0 hB1 hFB
  have hB0' : WB.heap[w.heap.size]? = some (.cells (ST.cs ⟨id, state, step, steps, (tries : Int) + 1, clock + min (q : Int) pause⟩).toArray 138 (0, 0)) := hB0
  have hrg : WB.rangeAt w.heap.size 0 (ST.cs ⟨id, state, step, steps, (tries : Int) + 1, clock + min (q : Int) pause⟩) := fun j v hv => (cell_of_row WB _ (0 + j) _ _ _ hB0').trans (by simpa using hv)
  have hst := run_store6 (ty := 138) (cs := [.int .i64 0, .int .i64 0, .int .i64 0, .int .i64 0, .int .i64 0, .int .i64 0]) hB1 rfl (ST.len ⟨id, state, step, steps, (tries : Int) + 1, clock + min (q : Int) pause⟩) (ST.one _) stand_size
  have hRE := setRow_heap WB (w.heap.size + 1) _ (ST.cs ⟨id, state, step, steps, (tries : Int) + 1, clock + min (q : Int) pause⟩).toArray 138 (0, 0) hB1
  have hFE : Fr (fun _ => False) w (WB.setRow (w.heap.size + 1) (ST.cs ⟨id, state, step, steps, (tries : Int) + 1, clock + min (q : Int) pause⟩).toArray) := hFB.setRow _ (fun h => by omega) _
  obtain ⟨WE, HWE⟩ : ∃ WE, Hid (WE = WB.setRow (w.heap.size + 1) (ST.cs ⟨id, state, step, steps, (tries : Int) + 1, clock + min (q : Int) pause⟩).toArray) := ⟨_, rfl⟩
  rw [← HWE.out] at hst hRE hFE
  clear HWE hB0 hB0' hB1 hFB hrow' hrow1' hFW
  simp only [ST.cs] at hrg hst
  rw [HWB.out] at hrg hst
  go_wp2_with (first | (refine wpList_load_mid rfl 138 _ rfl w.heap.size 0 ?_ _ _ hrg Tryz.underlying138 rfl ?_ ?_; rfl; exact stand_size) | (refine wpList_store 138 (w' := WE) _ _ rfl rfl ?_ ?_; exact hst))
  exact bodyPost_ret (results_cell_row Tryz.results163 _ _ (w.heap.size + 1) 138 _ (0, 0) _ rfl hRE Tryz.underlying138 rfl stand_size) rfl ⟨by rw [← hq]; rfl, hFE⟩
end Go.Proofs.YteebjgfalllbjaaGreatDoor
namespace Go.Proofs.YteebjgfalllbjaaGreatDoor
open Go.RowKit
/-- A stand is loaded whole. -/
theorem load6 {w : World} {g : Nat} {s : ST} {t : TypeId} (h : w.heap[g]? = some (.cells s.cs.toArray t (0, 0))) : (Instr.loadAt 138 (.pointer (some ⟨g, 0, none⟩))).run Tryz.prog w = .ok (.agg s.cs.toArray) w :=
  run_loadAt_mid w g 0 138 s.cs _ (fun j v hv => (cell_of_row w g (0 + j) _ _ _ h).trans (by simpa using hv)) Tryz.underlying138 rfl stand_size
set_option maxRecDepth 100000 in
set_option maxHeartbeats 4000000 in
theorem stMoved1 (w : World) (id step steps tries due reply : Int) (h1 : 1 ≤ step) (h2 : step ≤ 6) : Calls Tryz.prog 118 #[.agg (ST.cs ⟨id, 1, step, steps, tries, due⟩).toArray, .int .i64 reply] w fun e w' => MvQ (ST.running ⟨id, 1, step, steps, tries, due⟩ reply) w e w' := by
  have hlift : Tryz.prog.follows .mixedOrders = true := by kernel_rfl
  have hrow : (((w.alloc (.cells (ST.cs ⟨id, 1, step, steps, tries, due⟩).toArray 138)).alloc (.cells ([.int .i64 0, .int .i64 0, .int .i64 0, .int .i64 0, .int .i64 0, .int .i64 0] : List Value).toArray 138))).heap[w.heap.size]? = some (.cells (ST.cs ⟨id, 1, step, steps, tries, due⟩).toArray 138 (0, 0)) := by
    rw [heap_alloc_lt _ _ _ (by simp)]; exact heap_alloc_at _ _
  have hrow1 : (((w.alloc (.cells (ST.cs ⟨id, 1, step, steps, tries, due⟩).toArray 138)).alloc (.cells ([.int .i64 0, .int .i64 0, .int .i64 0, .int .i64 0, .int .i64 0, .int .i64 0] : List Value).toArray 138))).heap[w.heap.size + 1]? = some (.cells ([.int .i64 0, .int .i64 0, .int .i64 0, .int .i64 0, .int .i64 0, .int .i64 0] : List Value).toArray 138 (0, 0)) := heap_alloc2_new w _ _
  have hfa : Fr (fun _ => False) w (((w.alloc (.cells (ST.cs ⟨id, 1, step, steps, tries, due⟩).toArray 138)).alloc (.cells ([.int .i64 0, .int .i64 0, .int .i64 0, .int .i64 0, .int .i64 0, .int .i64 0] : List Value).toArray 138))) := ((Fr.refl _ _).alloc _).alloc _
  go_enter Tryz.func118, Tryz.ntmps118
  go_wp2_with fail
  obtain ⟨W, HW⟩ : ∃ W, Hid (W = ((w.alloc (.cells (ST.cs ⟨id, 1, step, steps, tries, due⟩).toArray 138)).alloc (.cells ([.int .i64 0, .int .i64 0, .int .i64 0, .int .i64 0, .int .i64 0, .int .i64 0] : List Value).toArray 138)).drew) := ⟨_, rfl⟩
  have hfW : Fr (fun _ => False) ((w.alloc (.cells (ST.cs ⟨id, 1, step, steps, tries, due⟩).toArray 138)).alloc (.cells ([.int .i64 0, .int .i64 0, .int .i64 0, .int .i64 0, .int .i64 0, .int .i64 0] : List Value).toArray 138)) W := by rw [HW.out]; exact (Fr.refl _ _).drew
  let S : World → Prop := fun w' => w'.heap[w.heap.size]? = some (.cells (ST.cs ⟨id, 1, step, steps, tries, due⟩).toArray 138 (0, 0))
  have hS : S W := hfW.keep hrow (fun h => h)
  refine wp_region_held (S := S) hlift ?_
  change wpAnyH _ _ _ _ S _ _ _ (World.drew _)
  rw [← HW.out]
  clear HW
  have hz := hfW.keep hrow1 (fun h => h)
  refine tkE (S := S) (i := 1) (oi := ⟨some 7, .fieldAddr 138 (.tmp 2) 1, _, _, _, none⟩) (v := .pointer (some ⟨w.heap.size, 1, none⟩)) rfl hS ?_
  simp only [Act.put, lsE, lsZ, lsS]
  refine tkY (S := S) (i := 2) (oi := ⟨some 8, .load 3 (.tmp 7), _, _, _, none⟩) (v := .int .i64 1) rfl (Or.inl ⟨rfl, fun w' hs => exec_load 3 (.tmp 7) rfl ⟨w.heap.size, 1, none⟩ rfl (run_loadAt_one ((cell_of_row _ _ 1 _ _ _ hs).trans rfl) Tryz.underlying3 rfl)⟩) hS ?_
  simp only [Act.put, lsE, lsZ, lsS]
  refine tkY (S := S) (i := 4) (oi := ⟨some 10, .load 138 (.tmp 2), _, _, _, none⟩) (v := .agg (ST.cs ⟨id, 1, step, steps, tries, due⟩).toArray) rfl (Or.inl ⟨rfl, fun w' hs => exec_load 138 (.tmp 2) rfl ⟨w.heap.size, 0, none⟩ rfl (load6 hs)⟩) hS ?_
  simp only [Act.put, lsE, lsZ, lsS]
  refine tkE (S := S) (i := 5) (oi := ⟨some 11, .move (.tmp 1), _, _, _, none⟩) (v := .int .i64 reply) rfl hS ?_
  simp only [Act.put, lsE, lsZ, lsS]
  refine wpAnyH_all (rs := [0]) (by kernel_rfl) (by simp) ?_
  intro i0 hi0
  obtain rfl : i0 = 0 := by simpa using hi0
  refine wpOp_call (o := ⟨some 6, .call { callee := .value (.func 156), args := #[], argTypes := _ }, _, _, _, none⟩) (f := 156) (args := #[]) rfl rfl (by kernel_rfl) ?_
  refine (rlMoves_ok W).mono ?_
  rintro e w2 ⟨rfl, hf2⟩
  have hS2 : S w2 := hf2.keep hS (fun h => h)
  have hz2 := hf2.keep hz (fun h => h)
  refine ⟨_, rfl, hS2, ?_⟩
  simp only [Act.put, lsE, lsZ, lsS]
  refine tkE (S := S) (i := 3) (oi := ⟨some 9, .index 253 (.tmp 6) (.tmp 8), _, _, _, none⟩) (v := .func (.func 167) #[] #[]) rfl hS2 ?_
  simp only [Act.put, lsE, lsZ, lsS]
  refine wpAnyH_all (rs := [6]) (by kernel_rfl) (by simp) ?_
  intro i6 hi6
  obtain rfl : i6 = 6 := by simpa using hi6
  refine wpOp_call (o := ⟨some 12, .call { callee := .value (.tmp 9), args := #[.tmp 10, .tmp 11], argTypes := _ }, _, _, _, none⟩) (f := 167) (args := #[.agg (ST.cs ⟨id, 1, step, steps, tries, due⟩).toArray, .int .i64 reply]) rfl rfl (by kernel_rfl) ?_
  refine (stRun_ok w2 ⟨id, 1, step, steps, tries, due⟩ reply h1 h2).mono ?_
  rintro e w3 ⟨rfl, hf3⟩
  have hS3 : S w3 := hf3.keep hS2 (fun h => h)
  have hz3 := hf3.keep hz2 (fun h => h)
  refine ⟨_, rfl, hS3, ?_⟩
  simp only [Act.put, lsE, lsZ, lsS]
  refine tkE (S := S) (i := 7) (oi := ⟨some 13, .extract (.tmp 12) 0, _, _, _, none⟩) (v := .agg (ST.running ⟨id, 1, step, steps, tries, due⟩ reply).1.cs.toArray) rfl hS3 ?_
  simp only [Act.put, lsE, lsZ, lsS]
  refine tkE (S := S) (i := 8) (oi := ⟨some 14, .extract (.tmp 12) 1, _, _, _, none⟩) (v := .bool (ST.running ⟨id, 1, step, steps, tries, due⟩ reply).2) rfl hS3 ?_
  simp only [Act.put, lsE, lsZ, lsS]
  refine wpAnyH_all (rs := [9]) (by kernel_rfl) (by simp) ?_
  intro i9 hi9
  obtain rfl : i9 = 9 := by simpa using hi9
  have hst := run_store6 (ty := 138) hz3 rfl (ST.len (ST.running ⟨id, 1, step, steps, tries, due⟩ reply).1) (ST.one _) stand_size
  have hRE := setRow_heap w3 (w.heap.size + 1) _ (ST.running ⟨id, 1, step, steps, tries, due⟩ reply).1.cs.toArray 138 (0, 0) hz3
  have hFE : Fr (fun _ => False) w (w3.setRow (w.heap.size + 1) (ST.running ⟨id, 1, step, steps, tries, due⟩ reply).1.cs.toArray) := ((((hfa.trans hfW (fun _ _ h => h)).trans hf2 (fun _ _ h => h)).trans hf3 (fun _ _ h => h))).setRow _ (fun h => by omega) _
  have hR0 : (w3.setRow (w.heap.size + 1) (ST.running ⟨id, 1, step, steps, tries, due⟩ reply).1.cs.toArray).heap[w.heap.size]? = some (.cells (ST.cs ⟨id, 1, step, steps, tries, due⟩).toArray 138 (0, 0)) := (Fr.setRow (S := fun b => b = w.heap.size + 1) (Fr.refl _ w3) (w.heap.size + 1) (fun _ => rfl) _).keep hS3 (by omega)
  obtain ⟨WE, HWE⟩ : ∃ WE, Hid (WE = w3.setRow (w.heap.size + 1) (ST.running ⟨id, 1, step, steps, tries, due⟩ reply).1.cs.toArray) := ⟨_, rfl⟩
  rw [← HWE.out] at hst hRE hFE hR0
  refine wpOp_skip (o := ⟨none, .store 138 (.tmp 4) (.tmp 13), _, _, _, none⟩) (w' := WE) rfl rfl (exec_store 138 _ _ rfl ⟨w.heap.size + 1, 0, none⟩ _ rfl rfl hst) ?_
  refine ⟨hR0, ?_⟩
  simp only [Act.put]
  refine tkE (S := S) (i := 10) (oi := ⟨some 5, .assign (.tmp 14), _, _, _, none⟩) (v := .bool (ST.running ⟨id, 1, step, steps, tries, due⟩ reply).2) rfl hR0 ?_
  simp only [Act.put, lsE, lsZ, lsS]
  refine wpAnyH_done (by kernel_rfl) ?_ _
  go_wp2
  exact bodyPost_ret (results_row_tmp Tryz.results118 _ _ (w.heap.size + 1) 138 _ (0, 0) _ rfl hRE Tryz.underlying138 rfl stand_size) rfl ⟨rfl, hFE⟩
set_option maxRecDepth 100000 in
set_option maxHeartbeats 4000000 in
theorem stMoved2 (w : World) (id step steps tries due reply : Int) (h1 : 1 ≤ step) (h2 : step ≤ 6) : Calls Tryz.prog 118 #[.agg (ST.cs ⟨id, 2, step, steps, tries, due⟩).toArray, .int .i64 reply] w fun e w' => MvQ (ST.undoing ⟨id, 2, step, steps, tries, due⟩ reply) w e w' := by
  have hlift : Tryz.prog.follows .mixedOrders = true := by kernel_rfl
  have hrow : (((w.alloc (.cells (ST.cs ⟨id, 2, step, steps, tries, due⟩).toArray 138)).alloc (.cells ([.int .i64 0, .int .i64 0, .int .i64 0, .int .i64 0, .int .i64 0, .int .i64 0] : List Value).toArray 138))).heap[w.heap.size]? = some (.cells (ST.cs ⟨id, 2, step, steps, tries, due⟩).toArray 138 (0, 0)) := by
    rw [heap_alloc_lt _ _ _ (by simp)]; exact heap_alloc_at _ _
  have hrow1 : (((w.alloc (.cells (ST.cs ⟨id, 2, step, steps, tries, due⟩).toArray 138)).alloc (.cells ([.int .i64 0, .int .i64 0, .int .i64 0, .int .i64 0, .int .i64 0, .int .i64 0] : List Value).toArray 138))).heap[w.heap.size + 1]? = some (.cells ([.int .i64 0, .int .i64 0, .int .i64 0, .int .i64 0, .int .i64 0, .int .i64 0] : List Value).toArray 138 (0, 0)) := heap_alloc2_new w _ _
  have hfa : Fr (fun _ => False) w (((w.alloc (.cells (ST.cs ⟨id, 2, step, steps, tries, due⟩).toArray 138)).alloc (.cells ([.int .i64 0, .int .i64 0, .int .i64 0, .int .i64 0, .int .i64 0, .int .i64 0] : List Value).toArray 138))) := ((Fr.refl _ _).alloc _).alloc _
  go_enter Tryz.func118, Tryz.ntmps118
  go_wp2_with fail
  obtain ⟨W, HW⟩ : ∃ W, Hid (W = ((w.alloc (.cells (ST.cs ⟨id, 2, step, steps, tries, due⟩).toArray 138)).alloc (.cells ([.int .i64 0, .int .i64 0, .int .i64 0, .int .i64 0, .int .i64 0, .int .i64 0] : List Value).toArray 138)).drew) := ⟨_, rfl⟩
  have hfW : Fr (fun _ => False) ((w.alloc (.cells (ST.cs ⟨id, 2, step, steps, tries, due⟩).toArray 138)).alloc (.cells ([.int .i64 0, .int .i64 0, .int .i64 0, .int .i64 0, .int .i64 0, .int .i64 0] : List Value).toArray 138)) W := by rw [HW.out]; exact (Fr.refl _ _).drew
  let S : World → Prop := fun w' => w'.heap[w.heap.size]? = some (.cells (ST.cs ⟨id, 2, step, steps, tries, due⟩).toArray 138 (0, 0))
  have hS : S W := hfW.keep hrow (fun h => h)
  refine wp_region_held (S := S) hlift ?_
  change wpAnyH _ _ _ _ S _ _ _ (World.drew _)
  rw [← HW.out]
  clear HW
  have hz := hfW.keep hrow1 (fun h => h)
  refine tkE (S := S) (i := 1) (oi := ⟨some 7, .fieldAddr 138 (.tmp 2) 1, _, _, _, none⟩) (v := .pointer (some ⟨w.heap.size, 1, none⟩)) rfl hS ?_
  simp only [Act.put, lsE, lsZ, lsS]
  refine tkY (S := S) (i := 2) (oi := ⟨some 8, .load 3 (.tmp 7), _, _, _, none⟩) (v := .int .i64 2) rfl (Or.inl ⟨rfl, fun w' hs => exec_load 3 (.tmp 7) rfl ⟨w.heap.size, 1, none⟩ rfl (run_loadAt_one ((cell_of_row _ _ 1 _ _ _ hs).trans rfl) Tryz.underlying3 rfl)⟩) hS ?_
  simp only [Act.put, lsE, lsZ, lsS]
  refine tkY (S := S) (i := 4) (oi := ⟨some 10, .load 138 (.tmp 2), _, _, _, none⟩) (v := .agg (ST.cs ⟨id, 2, step, steps, tries, due⟩).toArray) rfl (Or.inl ⟨rfl, fun w' hs => exec_load 138 (.tmp 2) rfl ⟨w.heap.size, 0, none⟩ rfl (load6 hs)⟩) hS ?_
  simp only [Act.put, lsE, lsZ, lsS]
  refine tkE (S := S) (i := 5) (oi := ⟨some 11, .move (.tmp 1), _, _, _, none⟩) (v := .int .i64 reply) rfl hS ?_
  simp only [Act.put, lsE, lsZ, lsS]
  refine wpAnyH_all (rs := [0]) (by kernel_rfl) (by simp) ?_
  intro i0 hi0
  obtain rfl : i0 = 0 := by simpa using hi0
  refine wpOp_call (o := ⟨some 6, .call { callee := .value (.func 156), args := #[], argTypes := _ }, _, _, _, none⟩) (f := 156) (args := #[]) rfl rfl (by kernel_rfl) ?_
  refine (rlMoves_ok W).mono ?_
  rintro e w2 ⟨rfl, hf2⟩
  have hS2 : S w2 := hf2.keep hS (fun h => h)
  have hz2 := hf2.keep hz (fun h => h)
  refine ⟨_, rfl, hS2, ?_⟩
  simp only [Act.put, lsE, lsZ, lsS]
  refine tkE (S := S) (i := 3) (oi := ⟨some 9, .index 253 (.tmp 6) (.tmp 8), _, _, _, none⟩) (v := .func (.func 168) #[] #[]) rfl hS2 ?_
  simp only [Act.put, lsE, lsZ, lsS]
  refine wpAnyH_all (rs := [6]) (by kernel_rfl) (by simp) ?_
  intro i6 hi6
  obtain rfl : i6 = 6 := by simpa using hi6
  refine wpOp_call (o := ⟨some 12, .call { callee := .value (.tmp 9), args := #[.tmp 10, .tmp 11], argTypes := _ }, _, _, _, none⟩) (f := 168) (args := #[.agg (ST.cs ⟨id, 2, step, steps, tries, due⟩).toArray, .int .i64 reply]) rfl rfl (by kernel_rfl) ?_
  refine (stUndo_ok w2 ⟨id, 2, step, steps, tries, due⟩ reply h1 h2).mono ?_
  rintro e w3 ⟨rfl, hf3⟩
  have hS3 : S w3 := hf3.keep hS2 (fun h => h)
  have hz3 := hf3.keep hz2 (fun h => h)
  refine ⟨_, rfl, hS3, ?_⟩
  simp only [Act.put, lsE, lsZ, lsS]
  refine tkE (S := S) (i := 7) (oi := ⟨some 13, .extract (.tmp 12) 0, _, _, _, none⟩) (v := .agg (ST.undoing ⟨id, 2, step, steps, tries, due⟩ reply).1.cs.toArray) rfl hS3 ?_
  simp only [Act.put, lsE, lsZ, lsS]
  refine tkE (S := S) (i := 8) (oi := ⟨some 14, .extract (.tmp 12) 1, _, _, _, none⟩) (v := .bool (ST.undoing ⟨id, 2, step, steps, tries, due⟩ reply).2) rfl hS3 ?_
  simp only [Act.put, lsE, lsZ, lsS]
  refine wpAnyH_all (rs := [9]) (by kernel_rfl) (by simp) ?_
  intro i9 hi9
  obtain rfl : i9 = 9 := by simpa using hi9
  have hst := run_store6 (ty := 138) hz3 rfl (ST.len (ST.undoing ⟨id, 2, step, steps, tries, due⟩ reply).1) (ST.one _) stand_size
  have hRE := setRow_heap w3 (w.heap.size + 1) _ (ST.undoing ⟨id, 2, step, steps, tries, due⟩ reply).1.cs.toArray 138 (0, 0) hz3
  have hFE : Fr (fun _ => False) w (w3.setRow (w.heap.size + 1) (ST.undoing ⟨id, 2, step, steps, tries, due⟩ reply).1.cs.toArray) := ((((hfa.trans hfW (fun _ _ h => h)).trans hf2 (fun _ _ h => h)).trans hf3 (fun _ _ h => h))).setRow _ (fun h => by omega) _
  have hR0 : (w3.setRow (w.heap.size + 1) (ST.undoing ⟨id, 2, step, steps, tries, due⟩ reply).1.cs.toArray).heap[w.heap.size]? = some (.cells (ST.cs ⟨id, 2, step, steps, tries, due⟩).toArray 138 (0, 0)) := (Fr.setRow (S := fun b => b = w.heap.size + 1) (Fr.refl _ w3) (w.heap.size + 1) (fun _ => rfl) _).keep hS3 (by omega)
  obtain ⟨WE, HWE⟩ : ∃ WE, Hid (WE = w3.setRow (w.heap.size + 1) (ST.undoing ⟨id, 2, step, steps, tries, due⟩ reply).1.cs.toArray) := ⟨_, rfl⟩
  rw [← HWE.out] at hst hRE hFE hR0
  refine wpOp_skip (o := ⟨none, .store 138 (.tmp 4) (.tmp 13), _, _, _, none⟩) (w' := WE) rfl rfl (exec_store 138 _ _ rfl ⟨w.heap.size + 1, 0, none⟩ _ rfl rfl hst) ?_
  refine ⟨hR0, ?_⟩
  simp only [Act.put]
  refine tkE (S := S) (i := 10) (oi := ⟨some 5, .assign (.tmp 14), _, _, _, none⟩) (v := .bool (ST.undoing ⟨id, 2, step, steps, tries, due⟩ reply).2) rfl hR0 ?_
  simp only [Act.put, lsE, lsZ, lsS]
  refine wpAnyH_done (by kernel_rfl) ?_ _
  go_wp2
  exact bodyPost_ret (results_row_tmp Tryz.results118 _ _ (w.heap.size + 1) 138 _ (0, 0) _ rfl hRE Tryz.underlying138 rfl stand_size) rfl ⟨rfl, hFE⟩
set_option maxRecDepth 100000 in
set_option maxHeartbeats 4000000 in
theorem stMoved3 (w : World) (id step steps tries due reply : Int) : Calls Tryz.prog 118 #[.agg (ST.cs ⟨id, 3, step, steps, tries, due⟩).toArray, .int .i64 reply] w fun e w' => MvQ (((⟨id, 3, step, steps, tries, due⟩, false) : ST × Bool)) w e w' := by
  have hlift : Tryz.prog.follows .mixedOrders = true := by kernel_rfl
  have hrow : (((w.alloc (.cells (ST.cs ⟨id, 3, step, steps, tries, due⟩).toArray 138)).alloc (.cells ([.int .i64 0, .int .i64 0, .int .i64 0, .int .i64 0, .int .i64 0, .int .i64 0] : List Value).toArray 138))).heap[w.heap.size]? = some (.cells (ST.cs ⟨id, 3, step, steps, tries, due⟩).toArray 138 (0, 0)) := by
    rw [heap_alloc_lt _ _ _ (by simp)]; exact heap_alloc_at _ _
  have hrow1 : (((w.alloc (.cells (ST.cs ⟨id, 3, step, steps, tries, due⟩).toArray 138)).alloc (.cells ([.int .i64 0, .int .i64 0, .int .i64 0, .int .i64 0, .int .i64 0, .int .i64 0] : List Value).toArray 138))).heap[w.heap.size + 1]? = some (.cells ([.int .i64 0, .int .i64 0, .int .i64 0, .int .i64 0, .int .i64 0, .int .i64 0] : List Value).toArray 138 (0, 0)) := heap_alloc2_new w _ _
  have hfa : Fr (fun _ => False) w (((w.alloc (.cells (ST.cs ⟨id, 3, step, steps, tries, due⟩).toArray 138)).alloc (.cells ([.int .i64 0, .int .i64 0, .int .i64 0, .int .i64 0, .int .i64 0, .int .i64 0] : List Value).toArray 138))) := ((Fr.refl _ _).alloc _).alloc _
  go_enter Tryz.func118, Tryz.ntmps118
  go_wp2_with fail
  obtain ⟨W, HW⟩ : ∃ W, Hid (W = ((w.alloc (.cells (ST.cs ⟨id, 3, step, steps, tries, due⟩).toArray 138)).alloc (.cells ([.int .i64 0, .int .i64 0, .int .i64 0, .int .i64 0, .int .i64 0, .int .i64 0] : List Value).toArray 138)).drew) := ⟨_, rfl⟩
  have hfW : Fr (fun _ => False) ((w.alloc (.cells (ST.cs ⟨id, 3, step, steps, tries, due⟩).toArray 138)).alloc (.cells ([.int .i64 0, .int .i64 0, .int .i64 0, .int .i64 0, .int .i64 0, .int .i64 0] : List Value).toArray 138)) W := by rw [HW.out]; exact (Fr.refl _ _).drew
  let S : World → Prop := fun w' => w'.heap[w.heap.size]? = some (.cells (ST.cs ⟨id, 3, step, steps, tries, due⟩).toArray 138 (0, 0))
  have hS : S W := hfW.keep hrow (fun h => h)
  refine wp_region_held (S := S) hlift ?_
  change wpAnyH _ _ _ _ S _ _ _ (World.drew _)
  rw [← HW.out]
  clear HW
  have hz := hfW.keep hrow1 (fun h => h)
  refine tkE (S := S) (i := 1) (oi := ⟨some 7, .fieldAddr 138 (.tmp 2) 1, _, _, _, none⟩) (v := .pointer (some ⟨w.heap.size, 1, none⟩)) rfl hS ?_
  simp only [Act.put, lsE, lsZ, lsS]
  refine tkY (S := S) (i := 2) (oi := ⟨some 8, .load 3 (.tmp 7), _, _, _, none⟩) (v := .int .i64 3) rfl (Or.inl ⟨rfl, fun w' hs => exec_load 3 (.tmp 7) rfl ⟨w.heap.size, 1, none⟩ rfl (run_loadAt_one ((cell_of_row _ _ 1 _ _ _ hs).trans rfl) Tryz.underlying3 rfl)⟩) hS ?_
  simp only [Act.put, lsE, lsZ, lsS]
  refine tkY (S := S) (i := 4) (oi := ⟨some 10, .load 138 (.tmp 2), _, _, _, none⟩) (v := .agg (ST.cs ⟨id, 3, step, steps, tries, due⟩).toArray) rfl (Or.inl ⟨rfl, fun w' hs => exec_load 138 (.tmp 2) rfl ⟨w.heap.size, 0, none⟩ rfl (load6 hs)⟩) hS ?_
  simp only [Act.put, lsE, lsZ, lsS]
  refine tkE (S := S) (i := 5) (oi := ⟨some 11, .move (.tmp 1), _, _, _, none⟩) (v := .int .i64 reply) rfl hS ?_
  simp only [Act.put, lsE, lsZ, lsS]
  refine wpAnyH_all (rs := [0]) (by kernel_rfl) (by simp) ?_
  intro i0 hi0
  obtain rfl : i0 = 0 := by simpa using hi0
  refine wpOp_call (o := ⟨some 6, .call { callee := .value (.func 156), args := #[], argTypes := _ }, _, _, _, none⟩) (f := 156) (args := #[]) rfl rfl (by kernel_rfl) ?_
  refine (rlMoves_ok W).mono ?_
  rintro e w2 ⟨rfl, hf2⟩
  have hS2 : S w2 := hf2.keep hS (fun h => h)
  have hz2 := hf2.keep hz (fun h => h)
  refine ⟨_, rfl, hS2, ?_⟩
  simp only [Act.put, lsE, lsZ, lsS]
  refine tkE (S := S) (i := 3) (oi := ⟨some 9, .index 253 (.tmp 6) (.tmp 8), _, _, _, none⟩) (v := .func (.func 169) #[] #[]) rfl hS2 ?_
  simp only [Act.put, lsE, lsZ, lsS]
  refine wpAnyH_all (rs := [6]) (by kernel_rfl) (by simp) ?_
  intro i6 hi6
  obtain rfl : i6 = 6 := by simpa using hi6
  refine wpOp_call (o := ⟨some 12, .call { callee := .value (.tmp 9), args := #[.tmp 10, .tmp 11], argTypes := _ }, _, _, _, none⟩) (f := 169) (args := #[.agg (ST.cs ⟨id, 3, step, steps, tries, due⟩).toArray, .int .i64 reply]) rfl rfl (by kernel_rfl) ?_
  refine (stOver_ok w2 ⟨id, 3, step, steps, tries, due⟩ reply).mono ?_
  rintro e w3 ⟨rfl, hf3⟩
  have hS3 : S w3 := hf3.keep hS2 (fun h => h)
  have hz3 := hf3.keep hz2 (fun h => h)
  refine ⟨_, rfl, hS3, ?_⟩
  simp only [Act.put, lsE, lsZ, lsS]
  refine tkE (S := S) (i := 7) (oi := ⟨some 13, .extract (.tmp 12) 0, _, _, _, none⟩) (v := .agg (((⟨id, 3, step, steps, tries, due⟩, false) : ST × Bool)).1.cs.toArray) rfl hS3 ?_
  simp only [Act.put, lsE, lsZ, lsS]
  refine tkE (S := S) (i := 8) (oi := ⟨some 14, .extract (.tmp 12) 1, _, _, _, none⟩) (v := .bool (((⟨id, 3, step, steps, tries, due⟩, false) : ST × Bool)).2) rfl hS3 ?_
  simp only [Act.put, lsE, lsZ, lsS]
  refine wpAnyH_all (rs := [9]) (by kernel_rfl) (by simp) ?_
  intro i9 hi9
  obtain rfl : i9 = 9 := by simpa using hi9
  have hst := run_store6 (ty := 138) hz3 rfl (ST.len (((⟨id, 3, step, steps, tries, due⟩, false) : ST × Bool)).1) (ST.one _) stand_size
  have hRE := setRow_heap w3 (w.heap.size + 1) _ (((⟨id, 3, step, steps, tries, due⟩, false) : ST × Bool)).1.cs.toArray 138 (0, 0) hz3
  have hFE : Fr (fun _ => False) w (w3.setRow (w.heap.size + 1) (((⟨id, 3, step, steps, tries, due⟩, false) : ST × Bool)).1.cs.toArray) := ((((hfa.trans hfW (fun _ _ h => h)).trans hf2 (fun _ _ h => h)).trans hf3 (fun _ _ h => h))).setRow _ (fun h => by omega) _
  have hR0 : (w3.setRow (w.heap.size + 1) (((⟨id, 3, step, steps, tries, due⟩, false) : ST × Bool)).1.cs.toArray).heap[w.heap.size]? = some (.cells (ST.cs ⟨id, 3, step, steps, tries, due⟩).toArray 138 (0, 0)) := (Fr.setRow (S := fun b => b = w.heap.size + 1) (Fr.refl _ w3) (w.heap.size + 1) (fun _ => rfl) _).keep hS3 (by omega)
  obtain ⟨WE, HWE⟩ : ∃ WE, Hid (WE = w3.setRow (w.heap.size + 1) (((⟨id, 3, step, steps, tries, due⟩, false) : ST × Bool)).1.cs.toArray) := ⟨_, rfl⟩
  rw [← HWE.out] at hst hRE hFE hR0
  refine wpOp_skip (o := ⟨none, .store 138 (.tmp 4) (.tmp 13), _, _, _, none⟩) (w' := WE) rfl rfl (exec_store 138 _ _ rfl ⟨w.heap.size + 1, 0, none⟩ _ rfl rfl hst) ?_
  refine ⟨hR0, ?_⟩
  simp only [Act.put]
  refine tkE (S := S) (i := 10) (oi := ⟨some 5, .assign (.tmp 14), _, _, _, none⟩) (v := .bool (((⟨id, 3, step, steps, tries, due⟩, false) : ST × Bool)).2) rfl hR0 ?_
  simp only [Act.put, lsE, lsZ, lsS]
  refine wpAnyH_done (by kernel_rfl) ?_ _
  go_wp2
  exact bodyPost_ret (results_row_tmp Tryz.results118 _ _ (w.heap.size + 1) 138 _ (0, 0) _ rfl hRE Tryz.underlying138 rfl stand_size) rfl ⟨rfl, hFE⟩
set_option maxRecDepth 100000 in
set_option maxHeartbeats 4000000 in
theorem stMoved4 (w : World) (id step steps tries due reply : Int) : Calls Tryz.prog 118 #[.agg (ST.cs ⟨id, 4, step, steps, tries, due⟩).toArray, .int .i64 reply] w fun e w' => MvQ (((⟨id, 4, step, steps, tries, due⟩, false) : ST × Bool)) w e w' := by
  have hlift : Tryz.prog.follows .mixedOrders = true := by kernel_rfl
  have hrow : (((w.alloc (.cells (ST.cs ⟨id, 4, step, steps, tries, due⟩).toArray 138)).alloc (.cells ([.int .i64 0, .int .i64 0, .int .i64 0, .int .i64 0, .int .i64 0, .int .i64 0] : List Value).toArray 138))).heap[w.heap.size]? = some (.cells (ST.cs ⟨id, 4, step, steps, tries, due⟩).toArray 138 (0, 0)) := by
    rw [heap_alloc_lt _ _ _ (by simp)]; exact heap_alloc_at _ _
  have hrow1 : (((w.alloc (.cells (ST.cs ⟨id, 4, step, steps, tries, due⟩).toArray 138)).alloc (.cells ([.int .i64 0, .int .i64 0, .int .i64 0, .int .i64 0, .int .i64 0, .int .i64 0] : List Value).toArray 138))).heap[w.heap.size + 1]? = some (.cells ([.int .i64 0, .int .i64 0, .int .i64 0, .int .i64 0, .int .i64 0, .int .i64 0] : List Value).toArray 138 (0, 0)) := heap_alloc2_new w _ _
  have hfa : Fr (fun _ => False) w (((w.alloc (.cells (ST.cs ⟨id, 4, step, steps, tries, due⟩).toArray 138)).alloc (.cells ([.int .i64 0, .int .i64 0, .int .i64 0, .int .i64 0, .int .i64 0, .int .i64 0] : List Value).toArray 138))) := ((Fr.refl _ _).alloc _).alloc _
  go_enter Tryz.func118, Tryz.ntmps118
  go_wp2_with fail
  obtain ⟨W, HW⟩ : ∃ W, Hid (W = ((w.alloc (.cells (ST.cs ⟨id, 4, step, steps, tries, due⟩).toArray 138)).alloc (.cells ([.int .i64 0, .int .i64 0, .int .i64 0, .int .i64 0, .int .i64 0, .int .i64 0] : List Value).toArray 138)).drew) := ⟨_, rfl⟩
  have hfW : Fr (fun _ => False) ((w.alloc (.cells (ST.cs ⟨id, 4, step, steps, tries, due⟩).toArray 138)).alloc (.cells ([.int .i64 0, .int .i64 0, .int .i64 0, .int .i64 0, .int .i64 0, .int .i64 0] : List Value).toArray 138)) W := by rw [HW.out]; exact (Fr.refl _ _).drew
  let S : World → Prop := fun w' => w'.heap[w.heap.size]? = some (.cells (ST.cs ⟨id, 4, step, steps, tries, due⟩).toArray 138 (0, 0))
  have hS : S W := hfW.keep hrow (fun h => h)
  refine wp_region_held (S := S) hlift ?_
  change wpAnyH _ _ _ _ S _ _ _ (World.drew _)
  rw [← HW.out]
  clear HW
  have hz := hfW.keep hrow1 (fun h => h)
  refine tkE (S := S) (i := 1) (oi := ⟨some 7, .fieldAddr 138 (.tmp 2) 1, _, _, _, none⟩) (v := .pointer (some ⟨w.heap.size, 1, none⟩)) rfl hS ?_
  simp only [Act.put, lsE, lsZ, lsS]
  refine tkY (S := S) (i := 2) (oi := ⟨some 8, .load 3 (.tmp 7), _, _, _, none⟩) (v := .int .i64 4) rfl (Or.inl ⟨rfl, fun w' hs => exec_load 3 (.tmp 7) rfl ⟨w.heap.size, 1, none⟩ rfl (run_loadAt_one ((cell_of_row _ _ 1 _ _ _ hs).trans rfl) Tryz.underlying3 rfl)⟩) hS ?_
  simp only [Act.put, lsE, lsZ, lsS]
  refine tkY (S := S) (i := 4) (oi := ⟨some 10, .load 138 (.tmp 2), _, _, _, none⟩) (v := .agg (ST.cs ⟨id, 4, step, steps, tries, due⟩).toArray) rfl (Or.inl ⟨rfl, fun w' hs => exec_load 138 (.tmp 2) rfl ⟨w.heap.size, 0, none⟩ rfl (load6 hs)⟩) hS ?_
  simp only [Act.put, lsE, lsZ, lsS]
  refine tkE (S := S) (i := 5) (oi := ⟨some 11, .move (.tmp 1), _, _, _, none⟩) (v := .int .i64 reply) rfl hS ?_
  simp only [Act.put, lsE, lsZ, lsS]
  refine wpAnyH_all (rs := [0]) (by kernel_rfl) (by simp) ?_
  intro i0 hi0
  obtain rfl : i0 = 0 := by simpa using hi0
  refine wpOp_call (o := ⟨some 6, .call { callee := .value (.func 156), args := #[], argTypes := _ }, _, _, _, none⟩) (f := 156) (args := #[]) rfl rfl (by kernel_rfl) ?_
  refine (rlMoves_ok W).mono ?_
  rintro e w2 ⟨rfl, hf2⟩
  have hS2 : S w2 := hf2.keep hS (fun h => h)
  have hz2 := hf2.keep hz (fun h => h)
  refine ⟨_, rfl, hS2, ?_⟩
  simp only [Act.put, lsE, lsZ, lsS]
  refine tkE (S := S) (i := 3) (oi := ⟨some 9, .index 253 (.tmp 6) (.tmp 8), _, _, _, none⟩) (v := .func (.func 169) #[] #[]) rfl hS2 ?_
  simp only [Act.put, lsE, lsZ, lsS]
  refine wpAnyH_all (rs := [6]) (by kernel_rfl) (by simp) ?_
  intro i6 hi6
  obtain rfl : i6 = 6 := by simpa using hi6
  refine wpOp_call (o := ⟨some 12, .call { callee := .value (.tmp 9), args := #[.tmp 10, .tmp 11], argTypes := _ }, _, _, _, none⟩) (f := 169) (args := #[.agg (ST.cs ⟨id, 4, step, steps, tries, due⟩).toArray, .int .i64 reply]) rfl rfl (by kernel_rfl) ?_
  refine (stOver_ok w2 ⟨id, 4, step, steps, tries, due⟩ reply).mono ?_
  rintro e w3 ⟨rfl, hf3⟩
  have hS3 : S w3 := hf3.keep hS2 (fun h => h)
  have hz3 := hf3.keep hz2 (fun h => h)
  refine ⟨_, rfl, hS3, ?_⟩
  simp only [Act.put, lsE, lsZ, lsS]
  refine tkE (S := S) (i := 7) (oi := ⟨some 13, .extract (.tmp 12) 0, _, _, _, none⟩) (v := .agg (((⟨id, 4, step, steps, tries, due⟩, false) : ST × Bool)).1.cs.toArray) rfl hS3 ?_
  simp only [Act.put, lsE, lsZ, lsS]
  refine tkE (S := S) (i := 8) (oi := ⟨some 14, .extract (.tmp 12) 1, _, _, _, none⟩) (v := .bool (((⟨id, 4, step, steps, tries, due⟩, false) : ST × Bool)).2) rfl hS3 ?_
  simp only [Act.put, lsE, lsZ, lsS]
  refine wpAnyH_all (rs := [9]) (by kernel_rfl) (by simp) ?_
  intro i9 hi9
  obtain rfl : i9 = 9 := by simpa using hi9
  have hst := run_store6 (ty := 138) hz3 rfl (ST.len (((⟨id, 4, step, steps, tries, due⟩, false) : ST × Bool)).1) (ST.one _) stand_size
  have hRE := setRow_heap w3 (w.heap.size + 1) _ (((⟨id, 4, step, steps, tries, due⟩, false) : ST × Bool)).1.cs.toArray 138 (0, 0) hz3
  have hFE : Fr (fun _ => False) w (w3.setRow (w.heap.size + 1) (((⟨id, 4, step, steps, tries, due⟩, false) : ST × Bool)).1.cs.toArray) := ((((hfa.trans hfW (fun _ _ h => h)).trans hf2 (fun _ _ h => h)).trans hf3 (fun _ _ h => h))).setRow _ (fun h => by omega) _
  have hR0 : (w3.setRow (w.heap.size + 1) (((⟨id, 4, step, steps, tries, due⟩, false) : ST × Bool)).1.cs.toArray).heap[w.heap.size]? = some (.cells (ST.cs ⟨id, 4, step, steps, tries, due⟩).toArray 138 (0, 0)) := (Fr.setRow (S := fun b => b = w.heap.size + 1) (Fr.refl _ w3) (w.heap.size + 1) (fun _ => rfl) _).keep hS3 (by omega)
  obtain ⟨WE, HWE⟩ : ∃ WE, Hid (WE = w3.setRow (w.heap.size + 1) (((⟨id, 4, step, steps, tries, due⟩, false) : ST × Bool)).1.cs.toArray) := ⟨_, rfl⟩
  rw [← HWE.out] at hst hRE hFE hR0
  refine wpOp_skip (o := ⟨none, .store 138 (.tmp 4) (.tmp 13), _, _, _, none⟩) (w' := WE) rfl rfl (exec_store 138 _ _ rfl ⟨w.heap.size + 1, 0, none⟩ _ rfl rfl hst) ?_
  refine ⟨hR0, ?_⟩
  simp only [Act.put]
  refine tkE (S := S) (i := 10) (oi := ⟨some 5, .assign (.tmp 14), _, _, _, none⟩) (v := .bool (((⟨id, 4, step, steps, tries, due⟩, false) : ST × Bool)).2) rfl hR0 ?_
  simp only [Act.put, lsE, lsZ, lsS]
  refine wpAnyH_done (by kernel_rfl) ?_ _
  go_wp2
  exact bodyPost_ret (results_row_tmp Tryz.results118 _ _ (w.heap.size + 1) 138 _ (0, 0) _ rfl hRE Tryz.underlying138 rfl stand_size) rfl ⟨rfl, hFE⟩
theorem stMoved_ok (w : World) (s : ST) (reply : Int) (hs : s.state = 1 ∨ s.state = 2 ∨ s.state = 3 ∨ s.state = 4) (hp : s.state = 1 ∨ s.state = 2 → 1 ≤ s.step ∧ s.step ≤ 6) : Calls Tryz.prog 118 #[.agg s.cs.toArray, .int .i64 reply] w fun e w' => MvQ (s.moved reply) w e w' := by
  obtain ⟨id, state, step, steps, tries, due⟩ := s
  simp only at hs hp
  rcases hs with rfl | rfl | rfl | rfl
  · have h := hp (.inl rfl)
    exact stMoved1 w id step steps tries due reply h.1 h.2
  · have h := hp (.inr rfl)
    exact stMoved2 w id step steps tries due reply h.1 h.2
  · exact stMoved3 w id step steps tries due reply
  · exact stMoved4 w id step steps tries due reply
end Go.Proofs.YteebjgfalllbjaaGreatDoor
