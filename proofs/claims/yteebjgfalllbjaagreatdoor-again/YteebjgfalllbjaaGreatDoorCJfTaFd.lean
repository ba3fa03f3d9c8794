import Derived.Test.YteebjgfalllbjaaGreatDoorCWhJrFm
namespace Go.Proofs.YteebjgfalllbjaaGreatDoor
open Go.RowKit

/-- What the work of journal.Find sees: its four boxes, the journal, the device. -/
structure FdS (w : World) (X1 X2 X3 X4 V J A B n : Nat) (tv fv : Value) (calls writes : Int) (bs : List Value) : Prop where
  x1 : w.heap[X1]? = some (.cells #[.pointer (some ⟨V, 0, none⟩)] 155 (0, 0))
  x2 : w.heap[X2]? = some (.cells #[.pointer (some ⟨J, 0, none⟩)] 87 (0, 0))
  x3 : w.heap[X3]? = some (.cells #[tv] 127 (0, 0))
  x4 : w.heap[X4]? = some (.cells #[fv] 162 (0, 0))
  s : RdS w J V A B n calls writes 0 bs
section
variable {w w' : World} {X1 X2 X3 X4 V J A B n : Nat} {tv fv : Value} {calls writes calls' : Int} {bs : List Value}
theorem FdS.c1 (h : FdS w X1 X2 X3 X4 V J A B n tv fv calls writes bs) : w.cell? ⟨X1, 0, none⟩ = some (.pointer (some ⟨V, 0, none⟩)) := (cell_of_row w X1 0 _ _ _ h.x1).trans rfl
theorem FdS.c2 (h : FdS w X1 X2 X3 X4 V J A B n tv fv calls writes bs) : w.cell? ⟨X2, 0, none⟩ = some (.pointer (some ⟨J, 0, none⟩)) := (cell_of_row w X2 0 _ _ _ h.x2).trans rfl
theorem FdS.fr {S : Nat → Prop} (h : FdS w X1 X2 X3 X4 V J A B n tv fv calls writes bs) (hf : Fr S w w') (h1 : ¬ S X1) (h2 : ¬ S X2) (h3 : ¬ S X3) (h4 : ¬ S X4) (hV : ¬ S V) (hB : ¬ S B) (hJ : ¬ S J) (hd : DiskAt w' A B n (.slice none 0 0) calls' writes) : FdS w' X1 X2 X3 X4 V J A B n tv fv calls' writes bs :=
  ⟨hf.keep h.x1 h1, hf.keep h.x2 h2, hf.keep h.x3 h3, hf.keep h.x4 h4, h.s.fr hf hV hB hJ hd⟩
theorem FdS.frz (h : FdS w X1 X2 X3 X4 V J A B n tv fv calls writes bs) (hf : Fr (fun _ => False) w w') : FdS w' X1 X2 X3 X4 V J A B n tv fv calls writes bs :=
  h.fr hf id id id id id id id (h.s.d.fr hf id)
/-- The boxes are no part of the device. -/
theorem FdS.ne (h : FdS w X1 X2 X3 X4 V J A B n tv fv calls writes bs) : X1 ≠ A ∧ X2 ≠ A ∧ X3 ≠ A ∧ X4 ≠ A ∧ V ≠ A ∧ B ≠ A ∧ J ≠ A ∧ X1 ≠ J ∧ X2 ≠ J ∧ X3 ≠ J ∧ X4 ≠ J := by
  have hd := h.s.d
  have hj := h.s.j
  refine ⟨?_, ?_, ?_, ?_, h.s.v.ne hd, ?_, ?_, ?_, ?_, ?_, ?_⟩ <;> intro e
  · rw [← e] at hd; have := hd.symm.trans h.x1; simp [dcells] at this
  · rw [← e] at hd; have := hd.symm.trans h.x2; simp [dcells] at this
  · rw [← e] at hd; have := hd.symm.trans h.x3; simp [dcells] at this
  · rw [← e] at hd; have := hd.symm.trans h.x4; simp [dcells] at this
  · rw [← e] at hd; have := hd.symm.trans h.s.r.1; simp [dcells] at this
  · rw [← e] at hd; have := hd.symm.trans hj; simp [dcells] at this
  · rw [← e] at hj; have := hj.symm.trans h.x1; simp at this
  · rw [← e] at hj; have := hj.symm.trans h.x2; simp at this
  · rw [← e] at hj; have := hj.symm.trans h.x3; simp at this
  · rw [← e] at hj; have := hj.symm.trans h.x4; simp at this
end
set_option maxRecDepth 100000 in
set_option maxHeartbeats 4000000 in
theorem Find1_ok {recs : List (List Value)} {w : World} {X1 X2 X3 X4 V J A B n : Nat} {tv fv : Value} {calls writes : Int} {bs : List Value} (h : FdS w X1 X2 X3 X4 V J A B n tv fv calls writes bs) (h0 : 0 ≤ calls) (h1 : calls < 90000000) (hn8 : 8 ≤ n) (hn : n ≤ 400) (hbs : bs = layB n recs) (hrl : recs.length < n) (hrec : ∀ r ∈ recs, RecOk r)
    (RP : Nat → World → Prop) (SR : Nat → Prop) (hR : ∀ w', Fr (fun b => b = A) w w' → RP 0 w') (hP : ∀ i W W', RP i W → Fr (fun b => b = A ∨ b = J) W W' → RP i W') (hSR : ¬ SR A ∧ ¬ SR J ∧ ¬ SR V ∧ ¬ SR B ∧ ¬ SR X2 ∧ ¬ SR X3 ∧ ¬ SR X4)
    (hH : ∀ i r W, recs[i]? = some r → RP i W → W.heap[X3]? = some (.cells #[tv] 127 (0, 0)) → W.heap[X4]? = some (.cells #[fv] 162 (0, 0)) → Calls Tryz.prog 115 #[.agg r.toArray, .pointer (some ⟨X3, 0, none⟩), .pointer (some ⟨X4, 0, none⟩)] W fun e w' => e = .returned (.bool true) ∧ RP (i + 1) w' ∧ Fr SR W w') :
    Calls Tryz.prog 111 #[.pointer (some ⟨X1, 0, none⟩), .pointer (some ⟨X2, 0, none⟩), .pointer (some ⟨X3, 0, none⟩), .pointer (some ⟨X4, 0, none⟩)] w fun e w' => e = .returned .nilIface ∧ ∃ calls', calls ≤ calls' ∧ calls' ≤ calls + 1 + n ∧ RdS w' J V A B n calls' writes recs.length (layB n recs) ∧ RP recs.length w' ∧ Fr (fun b => b = A ∨ b = J ∨ SR b) w w' := by
  obtain ⟨n1, n2, n3, n4, nV, nB, nJ, m1, m2, m3, m4⟩ := h.ne
  obtain ⟨bq, hbq⟩ : ∃ bq, bq = false := ⟨_, rfl⟩
  have hq : ∀ w, (binOp .neq 130 (.agg ((bs.drop (0 * 128)).take 128).toArray) (.agg (headB n).toArray)).run Tryz.prog w = .ok (.bool bq) w := by
    intro w; rw [hbq, Nat.zero_mul, List.drop_zero, hbs, layB_head]; exact neq_head n w
  go_enter Tryz.func111, Tryz.ntmps111
  go_wp2_with fail
  have hlift : Tryz.prog.follows .mixedOrders = true := by kernel_rfl
  obtain ⟨W, HW⟩ : ∃ W, Hid (W = w.drew) := ⟨_, rfl⟩
  have hfW : Fr (fun _ => False) w W := by rw [HW.out]; exact (Fr.refl _ _).drew
  have hhW := h.frz hfW
  have hFW : Fr (fun b => b = A) w W := hfW.mono (fun _ _ h => h.elim)
  let S : World → Prop := fun w' => w'.cell? ⟨X1, 0, none⟩ = some (.pointer (some ⟨V, 0, none⟩))
  have hS : S W := hhW.c1
  refine wp_region_held (S := S) hlift ?_
  change wpAnyH _ _ _ _ S _ _ _ (World.drew _)
  rw [← HW.out]
  clear HW
  refine tkY (S := S) (i := 0) (oi := ⟨some 5, .load 155 (.tmp 0), _, _, _, none⟩) (v := .pointer (some ⟨V, 0, none⟩)) rfl (Or.inl ⟨rfl, fun w' hs => exec_load 155 (.tmp 0) rfl ⟨X1, 0, none⟩ rfl (run_loadAt_one hs Tryz.underlying155 rfl)⟩) hS ?_
  simp only [Act.put, lsE, lsZ, lsS]
  refine tkY (S := S) (i := 2) (oi := ⟨some 7, .load 155 (.tmp 0), _, _, _, none⟩) (v := .pointer (some ⟨V, 0, none⟩)) rfl (Or.inl ⟨rfl, fun w' hs => exec_load 155 (.tmp 0) rfl ⟨X1, 0, none⟩ rfl (run_loadAt_one hs Tryz.underlying155 rfl)⟩) hS ?_
  simp only [Act.put, lsE, lsZ, lsS]
  refine wpAnyH_all (rs := [1]) (by kernel_rfl) (by simp) ?_
  intro i1 hi1
  obtain rfl : i1 = 1 := by simpa using hi1
  refine wpOp_call (o := ⟨some 6, .call { callee := .value (.func 112), args := #[.tmp 5, .const (.int .i64 0)], argTypes := _ }, _, _, _, none⟩) (f := 112) (args := #[.pointer (some ⟨V, 0, none⟩), .int .i64 0]) rfl rfl (by kernel_rfl) ?_
  refine (Load_ok hhW.s.v hhW.s.d hhW.s.r h0 (by omega) 0 (by omega)).mono ?_
  rintro e w2 ⟨rfl, hd2, hf2⟩
  have hh2 : FdS w2 X1 X2 X3 X4 V J A B n tv fv (calls + 1) writes bs := hhW.fr hf2 n1 n2 n3 n4 nV nB nJ hd2
  have hF2 : Fr (fun b => b = A) w w2 := hFW.trans hf2 (fun _ _ h => h)
  refine ⟨_, rfl, hh2.c1, ?_⟩
  simp only [Act.put, lsE, lsZ, lsS]
  refine wpAnyH_all (rs := [3]) (by kernel_rfl) (by simp) ?_
  intro i3 hi3
  obtain rfl : i3 = 3 := by simpa using hi3
  refine wpOp_call (o := ⟨some 8, .call { callee := .value (.func 110), args := #[.tmp 7], argTypes := _ }, _, _, _, none⟩) (f := 110) (args := #[.pointer (some ⟨V, 0, none⟩)]) rfl rfl (by kernel_rfl) ?_
  refine (vBlocks_ok hh2.s.v).mono ?_
  rintro e w' ⟨rfl, rfl⟩
  refine ⟨_, rfl, hh2.c1, ?_⟩
  simp only [Act.put, lsE, lsZ, lsS]
  refine wpAnyH_all (rs := [4]) (by kernel_rfl) (by simp) ?_
  intro i4 hi4
  obtain rfl : i4 = 4 := by simpa using hi4
  refine wpOp_call (o := ⟨some 9, .call { callee := .value (.func 113), args := #[.tmp 8], argTypes := _ }, _, _, _, none⟩) (f := 113) (args := #[.int .i64 n]) rfl rfl (by kernel_rfl) ?_
  refine (Head_ok _ n hn).mono ?_
  rintro e w3 ⟨rfl, hf3⟩
  have hh3 := hh2.frz hf3
  have hF3 : Fr (fun b => b = A) w w3 := hF2.trans hf3 (fun _ _ h => h.elim)
  have hS3 : S w3 := hh3.c1
  refine ⟨_, rfl, hh3.c1, ?_⟩
  simp only [Act.put, lsE, lsZ, lsS]
  refine tkY (S := S) (i := 5) (oi := ⟨some 10, .binOp .neq 130 (.tmp 6) (.tmp 9) 130, _, _, _, none⟩) (v := .bool bq) rfl (Or.inl ⟨rfl, fun w' _ => exec_neq_block rfl rfl rfl (hq w')⟩) hS3 ?_
  simp only [Act.put, lsE, lsZ, lsS]
  refine wpAnyH_done (by kernel_rfl) ?_ _
  clear hS hS3
  subst hbq
  have c2 := hh3.c2
  have HR3 : RP 0 w3 := hR w3 hF3
  have hSR' := hSR
  obtain ⟨q1, q2, q3, q4, q5, q6, q7⟩ := hSR
  subst hbs
  have HJ := jread_ok (t1 := X3) (t2 := X4) RP SR hh3.s (by omega) (by omega) hn8 hn hrl hrec HR3 hP ⟨q1, q2, q3, q4⟩ (fun i r W hr hRP hf => hH i r W hr hRP (hf.keep hh3.x3 (by rintro (e | e | e); exact n3 e; exact m3 e; exact q6 e)) (hf.keep hh3.x4 (by rintro (e | e | e); exact n4 e; exact m4 e; exact q7 e)))
  go_wp2_with fail
  refine HJ.mono ?_
  rintro e w4 ⟨rfl, cl, g1, g2, g3, g4, g5⟩
  have hF4 : Fr (fun b => b = A ∨ b = J ∨ SR b) w w4 := (hF3.mono (fun _ _ h => .inl h)).trans g5 (fun _ _ h => h)
  go_wp2
  go_ret
  exact ⟨rfl, cl, by omega, by omega, g3, g4, hF4⟩
end Go.Proofs.YteebjgfalllbjaaGreatDoor
namespace Go.Proofs.YteebjgfalllbjaaGreatDoor
open Go.RowKit
set_option maxRecDepth 100000 in
set_option maxHeartbeats 1000000 in
theorem Try_any {w : World} {f : FuncId} {caps : Array Value} {Q : Value → World → Prop} (hcf : ∀ w, (callFunc f caps).run Tryz.prog w = .ok (.enter f caps) w)
    (hC : Calls Tryz.prog f caps (w.alloc (.cells #[.nilIface] 36)) fun e w' => ∃ v, e = .returned v ∧ v.oneCell' = true ∧ w'.heap[w.heap.size]? = some (.cells #[.nilIface] 36 (0, 0)) ∧ Q v (w'.setCell ⟨w.heap.size, 0, none⟩ v)) :
    Calls Tryz.prog 92 #[.func (.func f) #[] caps] w fun e w' => ∃ v, e = .returned v ∧ Q v w' := by
  have hmf : ∀ (fn : Fn) (first cap : Array Value) (w : World), (Instr.makeFunc fn first cap).run Tryz.prog w = .ok (.func fn first cap) w := fun _ _ _ _ => rfl
  go_enter_defers Tryz.func92, Tryz.ntmps92
  go_wp2_with fail
  refine hC.mono ?_
  rintro e w2 ⟨v, rfl, hv, hE, hQ⟩
  have cE : w2.cell? ⟨w.heap.size, 0, none⟩ = some .nilIface := by rw [cell_of_row w2 w.heap.size 0 _ _ _ hE]; rfl
  have fE : w2.frozen? ⟨w.heap.size, 0, none⟩ = false := frozen_of_row w2 w.heap.size 0 _ _ hE
  have hst := run_storeAt_one (P := Tryz.prog) (w := w2) (a := ⟨w.heap.size, 0, none⟩) (t := 36) (v := v) cE fE (by kernel_rfl) hv
  go_wp2_with (first | (refine wpList_store 36 (w' := w2.setCell ⟨w.heap.size, 0, none⟩ v) _ _ rfl rfl ?_ ?_; exact hst))
  refine leaves_cons (f := 139) (args := #[.pointer (some ⟨w.heap.size, 0, none⟩)]) (by simp) (by simp [go_sem]) ?_
  refine (Try1_idle ⟨w.heap.size, 0, none⟩ _).mono ?_
  rintro e u' w'' ⟨rfl, rfl, rfl⟩
  have cE' : (w2.setCell ⟨w.heap.size, 0, none⟩ v).cell? ⟨w.heap.size, 0, none⟩ = some v := World.cell?_setCell_same _ _ _ cE
  simp [Leaves, settle, results, Tryz.results92, go_sem, cE']
  exact hQ
end Go.Proofs.YteebjgfalllbjaaGreatDoor
namespace Go.Proofs.YteebjgfalllbjaaGreatDoor
open Go.RowKit
/-- The world in which journal.Find tries its work. -/
def fdW (w : World) (V : Nat) (tv fv : Value) : World :=
  (((((w.alloc (.cells #[.pointer (some ⟨V, 0, none⟩)] 155)).alloc (.cells #[tv] 127)).alloc (.cells #[fv] 162)).alloc (.cells #[.pointer (some ⟨V, 0, none⟩), .int .i64 1, .bool false] 179)).alloc (.cells #[.pointer (some ⟨w.heap.size + 1 + 1 + 1, 0, none⟩)] 87))
theorem fdW_fr (w : World) (V : Nat) (tv fv : Value) : Fr (fun _ => False) w (fdW w V tv fv) := (((((Fr.refl _ _).alloc _).alloc _).alloc _).alloc _).alloc _
theorem fdW_size (w : World) (V : Nat) (tv fv : Value) : (fdW w V tv fv).heap.size = w.heap.size + 5 := by simp [fdW]
theorem fdW_s {w : World} {V A B n : Nat} {tv fv : Value} {calls writes : Int} {bs : List Value} (hv : VolAt w V A n) (hd : DiskAt w A B n (.slice none 0 0) calls writes) (hr : RowsAt w B n bs) :
    FdS (fdW w V tv fv) w.heap.size (w.heap.size + 4) (w.heap.size + 1) (w.heap.size + 2) V (w.heap.size + 3) A B n tv fv calls writes bs := by
  have hf := fdW_fr w V tv fv
  refine ⟨?_, ?_, ?_, ?_, hv.fr hf id, hd.fr hf id, ⟨hf.keep hr.1 id, hr.2⟩, ?_⟩
  · unfold fdW
    rw [heap_alloc_lt _ _ _ (by simp <;> omega), heap_alloc_lt _ _ _ (by simp <;> omega), heap_alloc_lt _ _ _ (by simp <;> omega), heap_alloc_lt _ _ _ (by simp <;> omega)]
    exact heap_alloc_at _ _
  · unfold fdW
    have := heap_alloc_at ((((w.alloc (.cells #[.pointer (some ⟨V, 0, none⟩)] 155)).alloc (.cells #[tv] 127)).alloc (.cells #[fv] 162)).alloc (.cells #[.pointer (some ⟨V, 0, none⟩), .int .i64 1, .bool false] 179)) (.cells #[.pointer (some ⟨w.heap.size + 1 + 1 + 1, 0, none⟩)] 87)
    simpa using this
  · unfold fdW
    rw [heap_alloc_lt _ _ _ (by simp <;> omega), heap_alloc_lt _ _ _ (by simp <;> omega), heap_alloc_lt _ _ _ (by simp <;> omega)]
    have := heap_alloc_at (w.alloc (.cells #[.pointer (some ⟨V, 0, none⟩)] 155)) (.cells #[tv] 127)
    simpa using this
  · unfold fdW
    rw [heap_alloc_lt _ _ _ (by simp <;> omega), heap_alloc_lt _ _ _ (by simp <;> omega)]
    have := heap_alloc_at ((w.alloc (.cells #[.pointer (some ⟨V, 0, none⟩)] 155)).alloc (.cells #[tv] 127)) (.cells #[fv] 162)
    simpa using this
  · unfold fdW JAt
    rw [heap_alloc_lt _ _ _ (by simp <;> omega)]
    have := heap_alloc_at (((w.alloc (.cells #[.pointer (some ⟨V, 0, none⟩)] 155)).alloc (.cells #[tv] 127)).alloc (.cells #[fv] 162)) (.cells #[.pointer (some ⟨V, 0, none⟩), .int .i64 1, .bool false] 179)
    simpa using this
section
variable {w : World} {V A B n : Nat} {tfn ffn : Fn} {ta tc fa fc : Array Value} {calls writes : Int} {bs : List Value}
set_option maxRecDepth 100000 in
set_option maxHeartbeats 1000000 in
theorem Find_ok {recs : List (List Value)} (hv : VolAt w V A n) (hd : DiskAt w A B n (.slice none 0 0) calls writes) (hr : RowsAt w B n bs) (h0 : 0 ≤ calls) (h1 : calls < 90000000) (hn8 : 8 ≤ n) (hn : n ≤ 400) (hbs : bs = layB n recs) (hrl : recs.length < n) (hrec : ∀ r ∈ recs, RecOk r)
    (RP : Nat → World → Prop) (SR : Nat → Prop) (hR : ∀ w', Fr (fun b => b = A) w w' → w.heap.size + 6 ≤ w'.heap.size → RP 0 w') (hP : ∀ i W W', RP i W → Fr (fun b => b = A ∨ (w.heap.size ≤ b ∧ b < w.heap.size + 6)) W W' → RP i W') (hSR : ∀ b, SR b → b < w.heap.size ∧ b ≠ A ∧ b ≠ V ∧ b ≠ B)
    (hH : ∀ i r W, recs[i]? = some r → RP i W → W.heap[w.heap.size + 1]? = some (.cells #[.func tfn ta tc] 127 (0, 0)) → W.heap[w.heap.size + 2]? = some (.cells #[.func ffn fa fc] 162 (0, 0)) → Calls Tryz.prog 115 #[.agg r.toArray, .pointer (some ⟨w.heap.size + 1, 0, none⟩), .pointer (some ⟨w.heap.size + 2, 0, none⟩)] W fun e w' => e = .returned (.bool true) ∧ RP (i + 1) w' ∧ Fr (fun b => SR b ∨ w.heap.size + 6 ≤ b) W w') :
    Calls Tryz.prog 75 #[.pointer (some ⟨V, 0, none⟩), .func tfn ta tc, .func ffn fa fc] w fun e w' => e = .returned (.tuple #[.pointer (some ⟨w.heap.size + 3, 0, none⟩), .nilIface]) ∧ ∃ calls', calls ≤ calls' ∧ calls' ≤ calls + 1 + n ∧ RdS w' (w.heap.size + 3) V A B n calls' writes recs.length (layB n recs) ∧ RP recs.length w' ∧ Fr (fun b => b = A ∨ SR b) w w' ∧ w.heap.size + 6 ≤ w'.heap.size := by
  have hmf : ∀ (fn : Fn) (first cap : Array Value) (w : World), (Instr.makeFunc fn first cap).run Tryz.prog w = .ok (.func fn first cap) w := fun _ _ _ _ => rfl
  have hs := fdW_s (tv := .func tfn ta tc) (fv := .func ffn fa fc) hv hd hr
  have hfw := fdW_fr w V (.func tfn ta tc) (.func ffn fa fc)
  have hsz := fdW_size w V (.func tfn ta tc) (.func ffn fa fc)
  obtain ⟨W, HW⟩ : ∃ W, Hid (W = fdW w V (.func tfn ta tc) (.func ffn fa fc)) := ⟨_, rfl⟩
  rw [← HW.out] at hs hfw hsz
  have hAl := lt_of_heap hd
  have hVl := lt_of_heap hv
  have hBl := lt_of_heap hr.1
  have hT := Try_any (w := W) (f := 111) (caps := #[.pointer (some ⟨w.heap.size, 0, none⟩), .pointer (some ⟨w.heap.size + 4, 0, none⟩), .pointer (some ⟨w.heap.size + 1, 0, none⟩), .pointer (some ⟨w.heap.size + 2, 0, none⟩)])
    (Q := fun v w' => v = .nilIface ∧ (∃ calls', calls ≤ calls' ∧ calls' ≤ calls + 1 + n ∧ RdS w' (w.heap.size + 3) V A B n calls' writes recs.length (layB n recs) ∧ RP recs.length w') ∧ w'.cell? ⟨w.heap.size + 4, 0, none⟩ = some (.pointer (some ⟨w.heap.size + 3, 0, none⟩)) ∧ Fr (fun b => b = A ∨ SR b) w w' ∧ w.heap.size + 6 ≤ w'.heap.size) (fun _ => by kernel_rfl) (by
      have hfa : Fr (fun _ => False) W (W.alloc (.cells #[.nilIface] 36)) := (Fr.refl _ _).alloc _
      have hfb : Fr (fun b => b = A) w (W.alloc (.cells #[.nilIface] 36)) := (hfw.mono (fun _ _ h => h.elim)).trans (hfa.mono (fun _ _ h => h.elim)) (fun _ _ h => h)
      have hs2 := hs.frz hfa
      have nS : ∀ b, b < w.heap.size + 6 → w.heap.size ≤ b → ¬ (SR b ∨ w.heap.size + 6 ≤ b) := fun b h1 h2 h => by
        rcases h with h | h
        · have := hSR b h; omega
        · omega
      refine (Find1_ok hs2 h0 h1 hn8 hn hbs hrl hrec RP (fun b => SR b ∨ w.heap.size + 6 ≤ b) (fun w' hf' => hR w' (hfb.trans hf' (fun _ _ h => h)) (by have h1 := hf'.size; simp at h1; omega)) (fun i W1 W2 hr1 hf1 => hP i W1 W2 hr1 (hf1.mono (fun b _ h => by rcases h with h | h; exact .inl h; exact .inr (by omega)))) ⟨?_, nS _ (by omega) (by omega), ?_, ?_, nS _ (by omega) (by omega), nS _ (by omega) (by omega), nS _ (by omega) (by omega)⟩ (fun i r W1 hr1 hrp h3 h4 => hH i r W1 hr1 hrp h3 h4)).mono ?_
      · rintro (h | h)
        · exact (hSR _ h).2.1 rfl
        · omega
      · rintro (h | h)
        · exact (hSR _ h).2.2.1 rfl
        · omega
      · rintro (h | h)
        · exact (hSR _ h).2.2.2 rfl
        · omega
      rintro e w' ⟨rfl, cl, g1, g2, g3, g4, g5⟩
      have gF : Fr (fun b => b = A ∨ SR b) w w' := (hfb.mono (fun _ _ h => .inl h)).trans g5 (fun b hb h => by
        rcases h with h | h | h | h
        · exact .inl h
        · omega
        · exact .inr h
        · omega)
      have hk : ∀ {b : Nat} {o : Obj}, (W.alloc (.cells #[.nilIface] 36)).heap[b]? = some o → b ≠ A → b ≠ w.heap.size + 3 → ¬ (SR b ∨ w.heap.size + 6 ≤ b) → w'.heap[b]? = some o := fun hb h1 h2 h3 => g5.keep hb (by rintro (h | h | h); exact h1 h; exact h2 h; exact h3 h)
      have hE : w'.heap[W.heap.size]? = some (.cells #[.nilIface] 36 (0, 0)) := hk (heap_alloc_at _ _) (by omega) (by omega) (nS _ (by omega) (by omega))
      have hX2 := hk hs2.x2 (by omega) (by omega) (nS _ (by omega) (by omega))
      have hset : Fr (fun b => b = W.heap.size) w' (w'.setCell ⟨W.heap.size, 0, none⟩ .nilIface) := Fr.set1 _ _ _ _
      refine ⟨_, rfl, rfl, hE, rfl, ⟨cl, g1, g2, g3.fr hset (by omega) (by omega) (by omega) (g3.d.fr hset (by omega)), hP _ _ _ g4 (hset.mono (fun b _ h => .inr (by omega)))⟩, ?_, gF.trans hset (fun b hb h => by omega), ?_⟩
      · exact hset.cell ((cell_of_row w' _ 0 _ _ _ hX2).trans rfl) (by simp; omega)
      · have h5 := g5.size
        have h6 := hset.size
        simp at h5
        omega)
  unfold fdW at HW
  clear hs hfw
  go_enter Tryz.func75, Tryz.ntmps75
  go_wp2_with fail
  rw [← HW.out]
  refine hT.mono ?_
  rintro e w' ⟨v, rfl, rfl, HX, hc, hf', hs6⟩
  clear HW hT
  go_wp2
  go_ret2
  obtain ⟨cl, g1, g2, g3, g4⟩ := HX
  exact ⟨rfl, cl, g1, g2, g3, g4, hf', hs6⟩
end
theorem rollNew_ok (r : Int) (w : World) : Calls Tryz.prog 73 #[.int .i64 r] w fun e w' => e = .returned (.pointer (some ⟨w.heap.size, 0, none⟩)) ∧ w' = w.alloc (.cells #[.slice none 0 0, .int .i64 r] 176) := by
  go_enter Tryz.func73, Tryz.ntmps73
  go_wp2
  go_ret
  exact ⟨rfl, rfl⟩
theorem jRoom_ok {w : World} {V A n : Nat} (h : VolAt w V A n) (hn : 1 ≤ n) (hn' : n ≤ 400) : Calls Tryz.prog 74 #[.pointer (some ⟨V, 0, none⟩)] w fun e w' => e = .returned (.int .i64 ((n : Int) - 1)) ∧ w' = w := by
  go_enter Tryz.func74, Tryz.ntmps74
  go_wp2_with fail
  refine (vBlocks_ok h).mono ?_
  rintro e w' ⟨rfl, rfl⟩
  go_wp2
  go_ret
  exact ⟨by go_num, rfl⟩
end Go.Proofs.YteebjgfalllbjaaGreatDoor
