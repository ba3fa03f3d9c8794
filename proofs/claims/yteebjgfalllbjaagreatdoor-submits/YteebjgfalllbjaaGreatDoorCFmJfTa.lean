import Derived.Test.YteebjgfalllbjaaGreatDoorCSecureTryLay
import Derived.Test.YteebjgfalllbjaaGreatDoorCAsAsWTl
import Derived.Test.YteebjgfalllbjaaGreatDoorCEqWhJr
namespace Go.Proofs.YteebjgfalllbjaaGreatDoor
open Go.RowKit
theorem Held.alloc {w : World} {X V A B n : Nat} {cache : Value} {calls writes : Int} {bs : List Value} (h : Held w X V A B n cache calls writes bs) (o : Obj) : Held (w.alloc o) X V A B n cache calls writes bs :=
  ⟨by rw [heap_alloc_lt _ _ _ (lt_of_heap h.x)]; exact h.x, by unfold VolAt; rw [heap_alloc_lt _ _ _ (lt_of_heap h.v)]; exact h.v, h.d.alloc _, by rw [heap_alloc_lt _ _ _ (lt_of_heap h.r.1)]; exact h.r.1, h.r.2⟩
theorem Held.set {w : World} {X V A B n : Nat} {cache : Value} {calls writes : Int} {bs : List Value} (h : Held w X V A B n cache calls writes bs) (p : Addr) (u : Value) (hp : X ≠ p.block ∧ V ≠ p.block ∧ A ≠ p.block ∧ B ≠ p.block) : Held (w.setCell p u) X V A B n cache calls writes bs :=
  ⟨by rw [heap_setCell_ne _ _ _ _ hp.1]; exact h.x, by unfold VolAt; rw [heap_setCell_ne _ _ _ _ hp.2.1]; exact h.v, h.d.setCell _ _ hp.2.2.1, by rw [heap_setCell_ne _ _ _ _ hp.2.2.2]; exact h.r.1, h.r.2⟩

set_option maxRecDepth 100000 in
set_option maxHeartbeats 1000000 in
theorem TryLay_ok {w : World} {X V A B n : Nat} {calls writes : Int} {bs : List Value} (h : Held w X V A B n (.slice none 0 0) calls writes bs) (h0 : 0 ≤ calls) (h1 : calls < 100000000) (h2 : 0 ≤ writes) (h3 : writes < 100000000) (hn8 : 8 ≤ n) (hn : n ≤ 400) :
    Calls Tryz.prog 92 #[.func (.func 136) #[] #[.pointer (some ⟨X, 0, none⟩)]] w fun e w' => e = .returned .nilIface ∧ ∃ bs', Held w' X V A B n (.slice none 0 0) (calls + (n + 4)) (writes + (n + 1)) bs' ∧ bs' = emptyB n ∧ Fr (fun b => b = A ∨ b = B) w w' := by
  have hmf : ∀ (fn : Fn) (first cap : Array Value) (w : World), (Instr.makeFunc fn first cap).run Tryz.prog w = .ok (.func fn first cap) w := fun _ _ _ _ => rfl
  have hXl := lt_of_heap h.x
  have hVl := lt_of_heap h.v
  have hAl := lt_of_heap h.d
  have hBl := lt_of_heap h.r.1
  go_enter_defers Tryz.func92, Tryz.ntmps92
  go_wp2_with fail
  refine (Lay1_ok (h.alloc _) h0 h1 h2 h3 hn8 hn).mono ?_
  rintro e w2 ⟨rfl, bs2, hh2, hbs2, hf2⟩
  have hE : w2.heap[w.heap.size]? = some (.cells #[.nilIface] 36 (0, 0)) := hf2.keep (heap_alloc_at w _) (by omega)
  have cE : w2.cell? ⟨w.heap.size, 0, none⟩ = some .nilIface := by rw [cell_of_row w2 w.heap.size 0 _ _ _ hE]; rfl
  have fE : w2.frozen? ⟨w.heap.size, 0, none⟩ = false := frozen_of_row w2 w.heap.size 0 _ _ hE
  have hF : Fr (fun b => b = A ∨ b = B) w w2 := ((Fr.refl _ _).alloc _).trans hf2 (fun _ _ h => h)
  go_wp2
  refine leaves_cons (f := 139) (args := #[.pointer (some ⟨w.heap.size, 0, none⟩)]) (by simp) (by simp [go_sem]) ?_
  refine (Try1_idle ⟨w.heap.size, 0, none⟩ _).mono ?_
  rintro e u' w'' ⟨rfl, rfl, rfl⟩
  have cE' : (w2.setCell ⟨w.heap.size, 0, none⟩ .nilIface).cell? ⟨w.heap.size, 0, none⟩ = some .nilIface := World.cell?_setCell_same _ _ _ cE
  simp [Leaves, settle, results, Tryz.results92, go_sem, cE']
  exact ⟨bs2, hh2.set _ _ ⟨by simp; omega, by simp; omega, by simp; omega, by simp; omega⟩, hbs2, hF.setCell _ (fun hh => by simp at hh) _⟩

set_option maxRecDepth 100000 in
theorem Lay_ok {w : World} {V A B n : Nat} {calls writes : Int} {bs : List Value} (hv : VolAt w V A n) (hd : DiskAt w A B n (.slice none 0 0) calls writes) (hr : RowsAt w B n bs) (h0 : 0 ≤ calls) (h1 : calls < 100000000) (h2 : 0 ≤ writes) (h3 : writes < 100000000) (hn8 : 8 ≤ n) (hn : n ≤ 400) :
    Calls Tryz.prog 88 #[.pointer (some ⟨V, 0, none⟩)] w fun e w' => e = .returned .nilIface ∧ ∃ bs', DiskAt w' A B n (.slice none 0 0) (calls + (n + 4)) (writes + (n + 1)) ∧ RowsAt w' B n bs' ∧ bs' = emptyB n ∧ Fr (fun b => b = A ∨ b = B) w w' := by
  have hmf : ∀ (fn : Fn) (first cap : Array Value) (w : World), (Instr.makeFunc fn first cap).run Tryz.prog w = .ok (.func fn first cap) w := fun _ _ _ _ => rfl
  have hh : Held (w.alloc (.cells #[.pointer (some ⟨V, 0, none⟩)] 155)) w.heap.size V A B n (.slice none 0 0) calls writes bs :=
    ⟨heap_alloc_at _ _, by unfold VolAt; rw [heap_alloc_lt _ _ _ (lt_of_heap hv)]; exact hv, hd.alloc _, by rw [heap_alloc_lt _ _ _ (lt_of_heap hr.1)]; exact hr.1, hr.2⟩
  go_enter Tryz.func88, Tryz.ntmps88
  go_wp2_with fail
  refine (TryLay_ok hh h0 h1 h2 h3 hn8 hn).mono ?_
  rintro e w2 ⟨rfl, bs2, hh2, hbs2, hf2⟩
  go_wp2
  go_ret
  exact ⟨rfl, bs2, hh2.d, hh2.r, hbs2, ((Fr.refl _ _).alloc _).trans hf2 (fun _ _ h => h)⟩

theorem New_bad {w : World} {A B n : Nat} {cache : Value} {calls writes : Int} (h : DiskAt w A B n cache calls writes) (hn : n < 8 ∨ 400 < n) :
    Calls Tryz.prog 72 #[.iface 31 (.pointer (some ⟨A, 0, none⟩))] w fun e w' => e = .returned (.tuple #[.pointer none, .iface 59 (.int .i64 7)]) ∧ Fr (fun _ => False) w w' := by
  rcases hn with hn | hn
  · have hn' : (n : Int) < 8 := by omega
    go_enter Tryz.func72, Tryz.ntmps72
    go_wp2_with fail
    refine (count_ok h).mono ?_
    rintro e w2 ⟨rfl, hf⟩
    go_wp2
    go_ret2
    exact ⟨rfl, hf⟩
  · have hn' : ¬ (n : Int) < 8 := by omega
    have hn'' : (400 : Int) < n := by omega
    have hd : decide ((n : Int) < 8) = false := by simpa using hn'
    go_enter Tryz.func72, Tryz.ntmps72
    go_wp2_with fail
    refine (count_ok h).mono ?_
    rintro e w2 ⟨rfl, hf⟩
    go_wp2
    go_ret2
    exact ⟨rfl, hf⟩
theorem New_ok {w : World} {A B n : Nat} {cache : Value} {calls writes : Int} (h : DiskAt w A B n cache calls writes) (hn8 : 8 ≤ n) (hn : n ≤ 400) :
    Calls Tryz.prog 72 #[.iface 31 (.pointer (some ⟨A, 0, none⟩))] w fun e w' => ∃ V, e = .returned (.tuple #[.pointer (some ⟨V, 0, none⟩), .nilIface]) ∧ VolAt w' V A n ∧ w.heap.size ≤ V ∧ Fr (fun _ => False) w w' := by
  have hn' : ¬ (n : Int) < 8 := by omega
  have hn'' : ¬ (400 : Int) < n := by omega
  have hd : decide ((n : Int) < 8) = false := by simpa using hn'
  have hd2 : decide ((400 : Int) < n) = false := by simpa using hn''
  go_enter Tryz.func72, Tryz.ntmps72
  go_wp2_with fail
  refine (count_ok h).mono ?_
  rintro e w2 ⟨rfl, hf⟩
  go_wp2
  go_ret2
  exact ⟨w2.heap.size, rfl, heap_alloc_at _ _, hf.size, hf.alloc _⟩

theorem wrapped_nil (s : ByteArray) (w : World) : Calls Tryz.prog 41 #[.string s, .nilIface] w fun e w' => e = .returned .nilIface ∧ w' = w := by
  go_enter Tryz.func41, Tryz.ntmps41
  go_wp2
  go_ret
  exact ⟨rfl, rfl⟩
theorem wrapped_err (s : ByteArray) (k : Int) (w : World) : Calls Tryz.prog 41 #[.string s, .iface 59 (.int .i64 k)] w fun e w' => e = .returned (.iface 117 (.pointer (some ⟨w.heap.size, 0, none⟩))) ∧ w' = w.alloc (.cells #[.string s, .iface 59 (.int .i64 k)] 119) := by
  go_enter Tryz.func41, Tryz.ntmps41
  go_wp2
  go_ret
  exact ⟨rfl, rfl⟩
theorem sFormat_bad {w : World} {A B n : Nat} {cache : Value} {calls writes : Int} (h : DiskAt w A B n cache calls writes) (hn : n < 8 ∨ 400 < n) :
    Calls Tryz.prog 56 #[.iface 31 (.pointer (some ⟨A, 0, none⟩))] w fun e w' => ∃ v, e = .returned v ∧ ErrAt w' v 7 ∧ Fr (fun _ => False) w w' := by
  go_enter Tryz.func56, Tryz.ntmps56
  go_wp2_with fail
  refine (New_bad h hn).mono ?_
  rintro e w2 ⟨rfl, hf⟩
  go_wp2_with fail
  refine (wrapped_err _ 7 _).mono ?_
  rintro e w3 ⟨rfl, rfl⟩
  go_wp2
  go_ret
  exact ⟨_, rfl, Or.inr ⟨_, _, rfl, heap_alloc_at _ _, by decide⟩, hf.alloc _⟩
theorem sFormat_ok {w : World} {A B n : Nat} {calls writes : Int} {bs : List Value} (h : DiskAt w A B n (.slice none 0 0) calls writes) (hr : RowsAt w B n bs) (h0 : 0 ≤ calls) (h1 : calls < 100000000) (h2 : 0 ≤ writes) (h3 : writes < 100000000) (hn8 : 8 ≤ n) (hn : n ≤ 400) :
    Calls Tryz.prog 56 #[.iface 31 (.pointer (some ⟨A, 0, none⟩))] w fun e w' => ∃ v, e = .returned v ∧ ErrAt w' v 0 ∧ ∃ bs', DiskAt w' A B n (.slice none 0 0) (calls + (n + 4)) (writes + (n + 1)) ∧ RowsAt w' B n bs' ∧ bs' = emptyB n ∧ Fr (fun b => b = A ∨ b = B) w w' := by
  go_enter Tryz.func56, Tryz.ntmps56
  go_wp2_with fail
  refine (New_ok h hn8 hn).mono ?_
  rintro e w2 ⟨V, rfl, hv, hVl, hf⟩
  go_wp2_with fail
  refine (Lay_ok hv (h.fr hf id) ⟨hf.keep hr.1 id, hr.2⟩ h0 h1 h2 h3 hn8 hn).mono ?_
  rintro e w3 ⟨rfl, bs3, hd3, hr3, hb3, hf3⟩
  go_wp2_with fail
  refine (wrapped_nil _ _).mono ?_
  rintro e w4 ⟨rfl, rfl⟩
  go_wp2
  go_ret
  exact ⟨_, rfl, Or.inl ⟨rfl, rfl⟩, bs3, hd3, hr3, hb3, (hf.mono (fun _ _ h => h.elim)).trans hf3 (fun _ _ h => h)⟩
theorem pFormat_bad {w : World} {A B n : Nat} {cache : Value} {calls writes : Int} (h : DiskAt w A B n cache calls writes) (hn : n < 8 ∨ 400 < n) :
    Calls Tryz.prog 40 #[.pointer (some ⟨A, 0, none⟩)] w fun e w' => ∃ v, e = .returned v ∧ ErrAt w' v 7 ∧ Fr (fun _ => False) w w' := by
  go_enter Tryz.func40, Tryz.ntmps40
  go_wp2_with fail
  refine (sFormat_bad h hn).mono ?_
  rintro e w2 ⟨v, rfl, hv, hf⟩
  go_wp2
  go_ret
  exact ⟨_, rfl, hv, hf⟩
theorem pFormat_ok {w : World} {A B n : Nat} {calls writes : Int} {bs : List Value} (h : DiskAt w A B n (.slice none 0 0) calls writes) (hr : RowsAt w B n bs) (h0 : 0 ≤ calls) (h1 : calls < 100000000) (h2 : 0 ≤ writes) (h3 : writes < 100000000) (hn8 : 8 ≤ n) (hn : n ≤ 400) :
    Calls Tryz.prog 40 #[.pointer (some ⟨A, 0, none⟩)] w fun e w' => ∃ v, e = .returned v ∧ ErrAt w' v 0 ∧ ∃ bs', DiskAt w' A B n (.slice none 0 0) (calls + (n + 4)) (writes + (n + 1)) ∧ RowsAt w' B n bs' ∧ bs' = emptyB n ∧ Fr (fun b => b = A ∨ b = B) w w' := by
  go_enter Tryz.func40, Tryz.ntmps40
  go_wp2_with fail
  refine (sFormat_ok h hr h0 h1 h2 h3 hn8 hn).mono ?_
  rintro e w2 ⟨v, rfl, hv, hf⟩
  go_wp2
  go_ret
  exact ⟨_, rfl, hv, hf⟩

end Go.Proofs.YteebjgfalllbjaaGreatDoor
namespace Go.Proofs.YteebjgfalllbjaaGreatDoor
open Go.RowKit

/-- What the work of journal.Find sees: its four boxes, the journal, the device. -/
structure FdS (w : World) (X1 X2 X3 X4 V J A B n : Nat) (tv fv : Value) (calls writes : Int) (bs : List Value) : Prop where
  x1 : w.heap[X1]? = some (.cells #[.pointer (some ⟨V, 0, none⟩)] 155 (0, 0))
  x2 : w.heap[X2]? = some (.cells #[.pointer (some ⟨J, 0, none⟩)] 87 (0, 0))
  x3 : w.heap[X3]? = some (.cells #[tv] 127 (0, 0))
  x4 : w.heap[X4]? = some (.cells #[fv] 162 (0, 0))
  s : RdS w J V A B n calls writes 0 bs
section
variable {w w' : World} {X1 X2 X3 X4 V J A B n : Nat} {tv fv : Value} {calls writes calls' : Int} {bs : List Value}
theorem FdS.c1 (h : FdS w X1 X2 X3 X4 V J A B n tv fv calls writes bs) : w.cell? ⟨X1, 0, none⟩ = some (.pointer (some ⟨V, 0, none⟩)) := (cell_of_row w X1 0 _ _ _ h.x1).trans rfl
theorem FdS.c2 (h : FdS w X1 X2 X3 X4 V J A B n tv fv calls writes bs) : w.cell? ⟨X2, 0, none⟩ = some (.pointer (some ⟨J, 0, none⟩)) := (cell_of_row w X2 0 _ _ _ h.x2).trans rfl
theorem FdS.fr {S : Nat → Prop} (h : FdS w X1 X2 X3 X4 V J A B n tv fv calls writes bs) (hf : Fr S w w') (h1 : ¬ S X1) (h2 : ¬ S X2) (h3 : ¬ S X3) (h4 : ¬ S X4) (hV : ¬ S V) (hB : ¬ S B) (hJ : ¬ S J) (hd : DiskAt w' A B n (.slice none 0 0) calls' writes) : FdS w' X1 X2 X3 X4 V J A B n tv fv calls' writes bs :=
  ⟨hf.keep h.x1 h1, hf.keep h.x2 h2, hf.keep h.x3 h3, hf.keep h.x4 h4, h.s.fr hf hV hB hJ hd⟩
theorem FdS.frz (h : FdS w X1 X2 X3 X4 V J A B n tv fv calls writes bs) (hf : Fr (fun _ => False) w w') : FdS w' X1 X2 X3 X4 V J A B n tv fv calls writes bs :=
  h.fr hf id id id id id id id (h.s.d.fr hf id)
/-- The boxes are no part of the device. -/
theorem FdS.ne (h : FdS w X1 X2 X3 X4 V J A B n tv fv calls writes bs) : X1 ≠ A ∧ X2 ≠ A ∧ X3 ≠ A ∧ X4 ≠ A ∧ V ≠ A ∧ B ≠ A ∧ J ≠ A ∧ X1 ≠ J ∧ X2 ≠ J ∧ X3 ≠ J ∧ X4 ≠ J := by
  have hd := h.s.d
  have hj := h.s.j
  refine ⟨?_, ?_, ?_, ?_, h.s.v.ne hd, ?_, ?_, ?_, ?_, ?_, ?_⟩ <;> intro e
  · rw [← e] at hd; have := hd.symm.trans h.x1; simp [dcells] at this
  · rw [← e] at hd; have := hd.symm.trans h.x2; simp [dcells] at this
  · rw [← e] at hd; have := hd.symm.trans h.x3; simp [dcells] at this
  · rw [← e] at hd; have := hd.symm.trans h.x4; simp [dcells] at this
  · rw [← e] at hd; have := hd.symm.trans h.s.r.1; simp [dcells] at this
  · rw [← e] at hd; have := hd.symm.trans hj; simp [dcells] at this
  · rw [← e] at hj; have := hj.symm.trans h.x1; simp at this
  · rw [← e] at hj; have := hj.symm.trans h.x2; simp at this
  · rw [← e] at hj; have := hj.symm.trans h.x3; simp at this
  · rw [← e] at hj; have := hj.symm.trans h.x4; simp at this
end
set_option maxRecDepth 100000 in
set_option maxHeartbeats 4000000 in
theorem Find1_bad {w : World} {X1 X2 X3 X4 V J A B n : Nat} {tv fv : Value} {calls writes : Int} {bs : List Value} (h : FdS w X1 X2 X3 X4 V J A B n tv fv calls writes bs) (h0 : 0 ≤ calls) (h1 : calls < 90000000) (hn8 : 8 ≤ n) (hn : n ≤ 400)
    (hz : bs.take 128 = zB) :
    Calls Tryz.prog 111 #[.pointer (some ⟨X1, 0, none⟩), .pointer (some ⟨X2, 0, none⟩), .pointer (some ⟨X3, 0, none⟩), .pointer (some ⟨X4, 0, none⟩)] w fun e w' => e = .returned (.iface 59 (.int .i64 6)) ∧ DiskAt w' A B n (.slice none 0 0) (calls + 1) writes ∧ Fr (fun b => b = A) w w' := by
  obtain ⟨n1, n2, n3, n4, nV, nB, nJ, _⟩ := h.ne
  obtain ⟨bq, hbq⟩ : ∃ bq, bq = true := ⟨_, rfl⟩
  have hq : ∀ w, (binOp .neq 130 (.agg ((bs.drop (0 * 128)).take 128).toArray) (.agg (headB n).toArray)).run Tryz.prog w = .ok (.bool bq) w := by
    intro w; rw [hbq, Nat.zero_mul, List.drop_zero, hz]; exact neq_zero n w
  go_enter Tryz.func111, Tryz.ntmps111
  go_wp2_with fail
  have hlift : Tryz.prog.follows .mixedOrders = true := by kernel_rfl
  obtain ⟨W, HW⟩ : ∃ W, Hid (W = w.drew) := ⟨_, rfl⟩
  have hfW : Fr (fun _ => False) w W := by rw [HW.out]; exact (Fr.refl _ _).drew
  have hhW := h.frz hfW
  have hFW : Fr (fun b => b = A) w W := hfW.mono (fun _ _ h => h.elim)
  let S : World → Prop := fun w' => w'.cell? ⟨X1, 0, none⟩ = some (.pointer (some ⟨V, 0, none⟩))
  have hS : S W := hhW.c1
  refine wp_region_held (S := S) hlift ?_
  change wpAnyH _ _ _ _ S _ _ _ (World.drew _)
  rw [← HW.out]
  clear HW
  refine wpAnyH_take (S := S) (i := 0) (oi := ⟨some 5, .load 155 (.tmp 0), _, _, _, none⟩) (v := .pointer (some ⟨V, 0, none⟩)) rfl (by kernel_rfl) (by kernel_rfl) (by kernel_rfl) (fun _ _ _ h => h) (Or.inl ⟨rfl, fun w' hs => exec_load 155 (.tmp 0) rfl ⟨X1, 0, none⟩ rfl (run_loadAt_one hs Tryz.underlying155 rfl)⟩) hS ?_
  simp only [Act.put, List.setIfInBounds_toArray, List.set_cons_zero, List.set_cons_succ]
  refine wpAnyH_take (S := S) (i := 2) (oi := ⟨some 7, .load 155 (.tmp 0), _, _, _, none⟩) (v := .pointer (some ⟨V, 0, none⟩)) rfl (by kernel_rfl) (by kernel_rfl) (by kernel_rfl) (fun _ _ _ h => h) (Or.inl ⟨rfl, fun w' hs => exec_load 155 (.tmp 0) rfl ⟨X1, 0, none⟩ rfl (run_loadAt_one hs Tryz.underlying155 rfl)⟩) hS ?_
  simp only [Act.put, List.setIfInBounds_toArray, List.set_cons_zero, List.set_cons_succ]
  refine wpAnyH_all (rs := [1]) (by kernel_rfl) (by simp) ?_
  intro i1 hi1
  obtain rfl : i1 = 1 := by simpa using hi1
  refine wpOp_call (o := ⟨some 6, .call { callee := .value (.func 112), args := #[.tmp 5, .const (.int .i64 0)], argTypes := _ }, _, _, _, none⟩) (f := 112) (args := #[.pointer (some ⟨V, 0, none⟩), .int .i64 0]) rfl rfl (by kernel_rfl) ?_
  refine (Load_ok hhW.s.v hhW.s.d hhW.s.r h0 (by omega) 0 (by omega)).mono ?_
  rintro e w2 ⟨rfl, hd2, hf2⟩
  have hh2 : FdS w2 X1 X2 X3 X4 V J A B n tv fv (calls + 1) writes bs := hhW.fr hf2 n1 n2 n3 n4 nV nB nJ hd2
  have hF2 : Fr (fun b => b = A) w w2 := hFW.trans hf2 (fun _ _ h => h)
  refine ⟨_, rfl, hh2.c1, ?_⟩
  simp only [Act.put, List.setIfInBounds_toArray, List.set_cons_zero, List.set_cons_succ]
  refine wpAnyH_all (rs := [3]) (by kernel_rfl) (by simp) ?_
  intro i3 hi3
  obtain rfl : i3 = 3 := by simpa using hi3
  refine wpOp_call (o := ⟨some 8, .call { callee := .value (.func 110), args := #[.tmp 7], argTypes := _ }, _, _, _, none⟩) (f := 110) (args := #[.pointer (some ⟨V, 0, none⟩)]) rfl rfl (by kernel_rfl) ?_
  refine (vBlocks_ok hh2.s.v).mono ?_
  rintro e w' ⟨rfl, rfl⟩
  refine ⟨_, rfl, hh2.c1, ?_⟩
  simp only [Act.put, List.setIfInBounds_toArray, List.set_cons_zero, List.set_cons_succ]
  refine wpAnyH_all (rs := [4]) (by kernel_rfl) (by simp) ?_
  intro i4 hi4
  obtain rfl : i4 = 4 := by simpa using hi4
  refine wpOp_call (o := ⟨some 9, .call { callee := .value (.func 113), args := #[.tmp 8], argTypes := _ }, _, _, _, none⟩) (f := 113) (args := #[.int .i64 n]) rfl rfl (by kernel_rfl) ?_
  refine (Head_ok _ n hn).mono ?_
  rintro e w3 ⟨rfl, hf3⟩
  have hh3 := hh2.frz hf3
  have hF3 : Fr (fun b => b = A) w w3 := hF2.trans hf3 (fun _ _ h => h.elim)
  have hS3 : S w3 := hh3.c1
  refine ⟨_, rfl, hh3.c1, ?_⟩
  simp only [Act.put, List.setIfInBounds_toArray, List.set_cons_zero, List.set_cons_succ]
  refine wpAnyH_take (S := S) (i := 5) (oi := ⟨some 10, .binOp .neq 130 (.tmp 6) (.tmp 9) 130, _, _, _, none⟩) (v := .bool bq) rfl (by kernel_rfl) (by kernel_rfl) (by kernel_rfl) (fun _ _ _ h => h) (Or.inl ⟨rfl, fun w' _ => exec_neq_block rfl rfl rfl (hq w')⟩) hS3 ?_
  simp only [Act.put, List.setIfInBounds_toArray, List.set_cons_zero, List.set_cons_succ]
  refine wpAnyH_done (by kernel_rfl) ?_ _
  clear hS hS3
  subst hbq
  go_wp2
  go_ret
  exact ⟨rfl, hh3.s.d, hF3⟩
set_option maxRecDepth 100000 in
set_option maxHeartbeats 4000000 in
theorem Find1_ok {recs : List (List Value)} {w : World} {X1 X2 X3 X4 V J A B n : Nat} {tv fv : Value} {calls writes : Int} {bs : List Value} (h : FdS w X1 X2 X3 X4 V J A B n tv fv calls writes bs) (h0 : 0 ≤ calls) (h1 : calls < 90000000) (hn8 : 8 ≤ n) (hn : n ≤ 400) (hbs : bs = layB n recs) (hrl : recs.length < n) (hrec : ∀ r ∈ recs, RecOk r)
    (RP : Nat → World → Prop) (SR : Nat → Prop) (hR : ∀ w', Fr (fun b => b = A) w w' → RP 0 w') (hP : ∀ i W W', RP i W → Fr (fun b => b = A ∨ b = J) W W' → RP i W') (hSR : ¬ SR A ∧ ¬ SR J ∧ ¬ SR V ∧ ¬ SR B ∧ ¬ SR X2 ∧ ¬ SR X3 ∧ ¬ SR X4)
    (hH : ∀ i r W, recs[i]? = some r → RP i W → W.heap[X3]? = some (.cells #[tv] 127 (0, 0)) → W.heap[X4]? = some (.cells #[fv] 162 (0, 0)) → Calls Tryz.prog 115 #[.agg r.toArray, .pointer (some ⟨X3, 0, none⟩), .pointer (some ⟨X4, 0, none⟩)] W fun e w' => e = .returned (.bool true) ∧ RP (i + 1) w' ∧ Fr SR W w') :
    Calls Tryz.prog 111 #[.pointer (some ⟨X1, 0, none⟩), .pointer (some ⟨X2, 0, none⟩), .pointer (some ⟨X3, 0, none⟩), .pointer (some ⟨X4, 0, none⟩)] w fun e w' => e = .returned .nilIface ∧ ∃ calls', calls ≤ calls' ∧ calls' ≤ calls + 1 + n ∧ RdS w' J V A B n calls' writes recs.length (layB n recs) ∧ RP recs.length w' ∧ Fr (fun b => b = A ∨ b = J ∨ SR b) w w' := by
  obtain ⟨n1, n2, n3, n4, nV, nB, nJ, m1, m2, m3, m4⟩ := h.ne
  obtain ⟨bq, hbq⟩ : ∃ bq, bq = false := ⟨_, rfl⟩
  have hq : ∀ w, (binOp .neq 130 (.agg ((bs.drop (0 * 128)).take 128).toArray) (.agg (headB n).toArray)).run Tryz.prog w = .ok (.bool bq) w := by
    intro w; rw [hbq, Nat.zero_mul, List.drop_zero, hbs, layB_head]; exact neq_head n w
  go_enter Tryz.func111, Tryz.ntmps111
  go_wp2_with fail
  have hlift : Tryz.prog.follows .mixedOrders = true := by kernel_rfl
  obtain ⟨W, HW⟩ : ∃ W, Hid (W = w.drew) := ⟨_, rfl⟩
  have hfW : Fr (fun _ => False) w W := by rw [HW.out]; exact (Fr.refl _ _).drew
  have hhW := h.frz hfW
  have hFW : Fr (fun b => b = A) w W := hfW.mono (fun _ _ h => h.elim)
  let S : World → Prop := fun w' => w'.cell? ⟨X1, 0, none⟩ = some (.pointer (some ⟨V, 0, none⟩))
  have hS : S W := hhW.c1
  refine wp_region_held (S := S) hlift ?_
  change wpAnyH _ _ _ _ S _ _ _ (World.drew _)
  rw [← HW.out]
  clear HW
  refine wpAnyH_take (S := S) (i := 0) (oi := ⟨some 5, .load 155 (.tmp 0), _, _, _, none⟩) (v := .pointer (some ⟨V, 0, none⟩)) rfl (by kernel_rfl) (by kernel_rfl) (by kernel_rfl) (fun _ _ _ h => h) (Or.inl ⟨rfl, fun w' hs => exec_load 155 (.tmp 0) rfl ⟨X1, 0, none⟩ rfl (run_loadAt_one hs Tryz.underlying155 rfl)⟩) hS ?_
  simp only [Act.put, List.setIfInBounds_toArray, List.set_cons_zero, List.set_cons_succ]
  refine wpAnyH_take (S := S) (i := 2) (oi := ⟨some 7, .load 155 (.tmp 0), _, _, _, none⟩) (v := .pointer (some ⟨V, 0, none⟩)) rfl (by kernel_rfl) (by kernel_rfl) (by kernel_rfl) (fun _ _ _ h => h) (Or.inl ⟨rfl, fun w' hs => exec_load 155 (.tmp 0) rfl ⟨X1, 0, none⟩ rfl (run_loadAt_one hs Tryz.underlying155 rfl)⟩) hS ?_
  simp only [Act.put, List.setIfInBounds_toArray, List.set_cons_zero, List.set_cons_succ]
  refine wpAnyH_all (rs := [1]) (by kernel_rfl) (by simp) ?_
  intro i1 hi1
  obtain rfl : i1 = 1 := by simpa using hi1
  refine wpOp_call (o := ⟨some 6, .call { callee := .value (.func 112), args := #[.tmp 5, .const (.int .i64 0)], argTypes := _ }, _, _, _, none⟩) (f := 112) (args := #[.pointer (some ⟨V, 0, none⟩), .int .i64 0]) rfl rfl (by kernel_rfl) ?_
  refine (Load_ok hhW.s.v hhW.s.d hhW.s.r h0 (by omega) 0 (by omega)).mono ?_
  rintro e w2 ⟨rfl, hd2, hf2⟩
  have hh2 : FdS w2 X1 X2 X3 X4 V J A B n tv fv (calls + 1) writes bs := hhW.fr hf2 n1 n2 n3 n4 nV nB nJ hd2
  have hF2 : Fr (fun b => b = A) w w2 := hFW.trans hf2 (fun _ _ h => h)
  refine ⟨_, rfl, hh2.c1, ?_⟩
  simp only [Act.put, List.setIfInBounds_toArray, List.set_cons_zero, List.set_cons_succ]
  refine wpAnyH_all (rs := [3]) (by kernel_rfl) (by simp) ?_
  intro i3 hi3
  obtain rfl : i3 = 3 := by simpa using hi3
  refine wpOp_call (o := ⟨some 8, .call { callee := .value (.func 110), args := #[.tmp 7], argTypes := _ }, _, _, _, none⟩) (f := 110) (args := #[.pointer (some ⟨V, 0, none⟩)]) rfl rfl (by kernel_rfl) ?_
  refine (vBlocks_ok hh2.s.v).mono ?_
  rintro e w' ⟨rfl, rfl⟩
  refine ⟨_, rfl, hh2.c1, ?_⟩
  simp only [Act.put, List.setIfInBounds_toArray, List.set_cons_zero, List.set_cons_succ]
  refine wpAnyH_all (rs := [4]) (by kernel_rfl) (by simp) ?_
  intro i4 hi4
  obtain rfl : i4 = 4 := by simpa using hi4
  refine wpOp_call (o := ⟨some 9, .call { callee := .value (.func 113), args := #[.tmp 8], argTypes := _ }, _, _, _, none⟩) (f := 113) (args := #[.int .i64 n]) rfl rfl (by kernel_rfl) ?_
  refine (Head_ok _ n hn).mono ?_
  rintro e w3 ⟨rfl, hf3⟩
  have hh3 := hh2.frz hf3
  have hF3 : Fr (fun b => b = A) w w3 := hF2.trans hf3 (fun _ _ h => h.elim)
  have hS3 : S w3 := hh3.c1
  refine ⟨_, rfl, hh3.c1, ?_⟩
  simp only [Act.put, List.setIfInBounds_toArray, List.set_cons_zero, List.set_cons_succ]
  refine wpAnyH_take (S := S) (i := 5) (oi := ⟨some 10, .binOp .neq 130 (.tmp 6) (.tmp 9) 130, _, _, _, none⟩) (v := .bool bq) rfl (by kernel_rfl) (by kernel_rfl) (by kernel_rfl) (fun _ _ _ h => h) (Or.inl ⟨rfl, fun w' _ => exec_neq_block rfl rfl rfl (hq w')⟩) hS3 ?_
  simp only [Act.put, List.setIfInBounds_toArray, List.set_cons_zero, List.set_cons_succ]
  refine wpAnyH_done (by kernel_rfl) ?_ _
  clear hS hS3
  subst hbq
  have c2 := hh3.c2
  have HR3 : RP 0 w3 := hR w3 hF3
  have hSR' := hSR
  obtain ⟨q1, q2, q3, q4, q5, q6, q7⟩ := hSR
  subst hbs
  have HJ := jread_ok (t1 := X3) (t2 := X4) RP SR hh3.s (by omega) (by omega) hn8 hn hrl hrec HR3 hP ⟨q1, q2, q3, q4⟩ (fun i r W hr hRP hf => hH i r W hr hRP (hf.keep hh3.x3 (by rintro (e | e | e); exact n3 e; exact m3 e; exact q6 e)) (hf.keep hh3.x4 (by rintro (e | e | e); exact n4 e; exact m4 e; exact q7 e)))
  go_wp2_with fail
  refine HJ.mono ?_
  rintro e w4 ⟨rfl, cl, g1, g2, g3, g4, g5⟩
  have hF4 : Fr (fun b => b = A ∨ b = J ∨ SR b) w w4 := (hF3.mono (fun _ _ h => .inl h)).trans g5 (fun _ _ h => h)
  go_wp2
  go_ret
  exact ⟨rfl, cl, by omega, by omega, g3, g4, hF4⟩
end Go.Proofs.YteebjgfalllbjaaGreatDoor
namespace Go.Proofs.YteebjgfalllbjaaGreatDoor
open Go.RowKit
set_option maxRecDepth 100000 in
set_option maxHeartbeats 1000000 in
theorem Try_any {w : World} {f : FuncId} {caps : Array Value} {Q : Value → World → Prop} (hcf : ∀ w, (callFunc f caps).run Tryz.prog w = .ok (.enter f caps) w)
    (hC : Calls Tryz.prog f caps (w.alloc (.cells #[.nilIface] 36)) fun e w' => ∃ v, e = .returned v ∧ v.oneCell' = true ∧ w'.heap[w.heap.size]? = some (.cells #[.nilIface] 36 (0, 0)) ∧ Q v (w'.setCell ⟨w.heap.size, 0, none⟩ v)) :
    Calls Tryz.prog 92 #[.func (.func f) #[] caps] w fun e w' => ∃ v, e = .returned v ∧ Q v w' := by
  have hmf : ∀ (fn : Fn) (first cap : Array Value) (w : World), (Instr.makeFunc fn first cap).run Tryz.prog w = .ok (.func fn first cap) w := fun _ _ _ _ => rfl
  go_enter_defers Tryz.func92, Tryz.ntmps92
  go_wp2_with fail
  refine hC.mono ?_
  rintro e w2 ⟨v, rfl, hv, hE, hQ⟩
  have cE : w2.cell? ⟨w.heap.size, 0, none⟩ = some .nilIface := by rw [cell_of_row w2 w.heap.size 0 _ _ _ hE]; rfl
  have fE : w2.frozen? ⟨w.heap.size, 0, none⟩ = false := frozen_of_row w2 w.heap.size 0 _ _ hE
  have hst := run_storeAt_one (P := Tryz.prog) (w := w2) (a := ⟨w.heap.size, 0, none⟩) (t := 36) (v := v) cE fE (by kernel_rfl) hv
  go_wp2_with (first | (refine wpList_store 36 (w' := w2.setCell ⟨w.heap.size, 0, none⟩ v) _ _ rfl rfl ?_ ?_; exact hst))
  refine leaves_cons (f := 139) (args := #[.pointer (some ⟨w.heap.size, 0, none⟩)]) (by simp) (by simp [go_sem]) ?_
  refine (Try1_idle ⟨w.heap.size, 0, none⟩ _).mono ?_
  rintro e u' w'' ⟨rfl, rfl, rfl⟩
  have cE' : (w2.setCell ⟨w.heap.size, 0, none⟩ v).cell? ⟨w.heap.size, 0, none⟩ = some v := World.cell?_setCell_same _ _ _ cE
  simp [Leaves, settle, results, Tryz.results92, go_sem, cE']
  exact hQ
end Go.Proofs.YteebjgfalllbjaaGreatDoor
