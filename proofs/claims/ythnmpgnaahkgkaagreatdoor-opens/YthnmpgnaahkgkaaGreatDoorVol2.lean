import Derived.Test.YthnmpgnaahkgkaaGreatDoorFind
namespace Go.Proofs.YthnmpgnaahkgkaaGreatDoor
open Go.RowKit

theorem Held.alloc {w : World} {X V A B n : Nat} {cache : Value} {calls writes : Int} {bs : List Value} (h : Held w X V A B n cache calls writes bs) (o : Obj) : Held (w.alloc o) X V A B n cache calls writes bs :=
  ⟨by rw [heap_alloc_lt _ _ _ (lt_of_heap h.x)]; exact h.x, by unfold VolAt; rw [heap_alloc_lt _ _ _ (lt_of_heap h.v)]; exact h.v, h.d.alloc _, by rw [heap_alloc_lt _ _ _ (lt_of_heap h.r.1)]; exact h.r.1, h.r.2⟩
theorem Held.set {w : World} {X V A B n : Nat} {cache : Value} {calls writes : Int} {bs : List Value} (h : Held w X V A B n cache calls writes bs) (p : Addr) (u : Value) (hp : X ≠ p.block ∧ V ≠ p.block ∧ A ≠ p.block ∧ B ≠ p.block) : Held (w.setCell p u) X V A B n cache calls writes bs :=
  ⟨by rw [heap_setCell_ne _ _ _ _ hp.1]; exact h.x, by unfold VolAt; rw [heap_setCell_ne _ _ _ _ hp.2.1]; exact h.v, h.d.setCell _ _ hp.2.2.1, by rw [heap_setCell_ne _ _ _ _ hp.2.2.2]; exact h.r.1, h.r.2⟩

set_option maxRecDepth 100000 in
set_option maxHeartbeats 1000000 in
theorem TryLay_ok {w : World} {X V A B n : Nat} {calls writes : Int} {bs : List Value} (h : Held w X V A B n (.slice none 0 0) calls writes bs) (h0 : 0 ≤ calls) (h1 : calls < 100000000) (h2 : 0 ≤ writes) (h3 : writes < 100000000) (hn8 : 8 ≤ n) (hn : n ≤ 400) :
    Calls Tryz.prog 77 #[.func (.func 78) #[] #[.pointer (some ⟨X, 0, none⟩)]] w fun e w' => e = .returned .nilIface ∧ ∃ bs', Held w' X V A B n (.slice none 0 0) (calls + (n + 4)) (writes + (n + 1)) bs' ∧ bs'.take 128 = headB n ∧ Fr (fun b => b = A ∨ b = B) w w' := by
  have hmf : ∀ (fn : Fn) (first cap : Array Value) (w : World), (Instr.makeFunc fn first cap).run Tryz.prog w = .ok (.func fn first cap) w := fun _ _ _ _ => rfl
  have hXl := lt_of_heap h.x
  have hVl := lt_of_heap h.v
  have hAl := lt_of_heap h.d
  have hBl := lt_of_heap h.r.1
  go_enter_defers Tryz.func77, Tryz.ntmps77
  go_wp2_with fail
  refine (Lay1_ok (h.alloc _) h0 h1 h2 h3 hn8 hn).mono ?_
  rintro e w2 ⟨rfl, bs2, hh2, hbs2, hf2⟩
  have hE : w2.heap[w.heap.size]? = some (.cells #[.nilIface] 68 (0, 0)) := hf2.keep (heap_alloc_at w _) (by omega)
  have cE : w2.cell? ⟨w.heap.size, 0, none⟩ = some .nilIface := by rw [cell_of_row w2 w.heap.size 0 _ _ _ hE]; rfl
  have fE : w2.frozen? ⟨w.heap.size, 0, none⟩ = false := frozen_of_row w2 w.heap.size 0 _ _ hE
  have hF : Fr (fun b => b = A ∨ b = B) w w2 := ((Fr.refl _ _).alloc _).trans hf2 (fun _ _ h => h)
  go_wp2
  refine leaves_cons (f := 90) (args := #[.pointer (some ⟨w.heap.size, 0, none⟩)]) (by simp) (by simp [go_sem]) ?_
  refine (Try1_idle ⟨w.heap.size, 0, none⟩ _).mono ?_
  rintro e u' w'' ⟨rfl, rfl, rfl⟩
  have cE' : (w2.setCell ⟨w.heap.size, 0, none⟩ .nilIface).cell? ⟨w.heap.size, 0, none⟩ = some .nilIface := World.cell?_setCell_same _ _ _ cE
  simp [Leaves, settle, results, Tryz.results77, go_sem, cE']
  exact ⟨bs2, hh2.set _ _ ⟨by simp; omega, by simp; omega, by simp; omega, by simp; omega⟩, hbs2, hF.setCell _ (fun hh => by simp at hh) _⟩

set_option maxRecDepth 100000 in
set_option maxHeartbeats 1000000 in
theorem TryFind_ok {w : World} {X V A B n : Nat} {calls writes : Int} {bs : List Value} (h : Held w X V A B n (.slice none 0 0) calls writes bs) (h0 : 0 ≤ calls) (h1 : calls < 100000000) (hn8 : 8 ≤ n) (hn : n ≤ 400)
    (b : Bool) (hq : ∀ w, (binOp .neq 153 (.agg (bs.take 128).toArray) (.agg (headB n).toArray)).run Tryz.prog w = .ok (.bool b) w) :
    Calls Tryz.prog 77 #[.func (.func 86) #[] #[.pointer (some ⟨X, 0, none⟩)]] w fun e w' => e = .returned (ferr b) ∧ Held w' X V A B n (.slice none 0 0) (calls + 1) writes bs ∧ Fr (fun b => b = A) w w' := by
  have hmf : ∀ (fn : Fn) (first cap : Array Value) (w : World), (Instr.makeFunc fn first cap).run Tryz.prog w = .ok (.func fn first cap) w := fun _ _ _ _ => rfl
  have hXl := lt_of_heap h.x
  have hVl := lt_of_heap h.v
  have hAl := lt_of_heap h.d
  have hBl := lt_of_heap h.r.1
  go_enter_defers Tryz.func77, Tryz.ntmps77
  go_wp2_with fail
  refine (Find1_ok (h.alloc _) h0 h1 hn8 hn b hq).mono ?_
  rintro e w2 ⟨he, hh2, hf2⟩
  obtain ⟨v, HV⟩ : ∃ v, Hid (v = ferr b) := ⟨_, rfl⟩
  rw [← HV.out] at he
  subst he
  have hv1 : v.oneCell' = true := by rw [HV.out]; cases b <;> rfl
  have hE : w2.heap[w.heap.size]? = some (.cells #[.nilIface] 68 (0, 0)) := hf2.keep (heap_alloc_at w _) (by omega)
  have cE : w2.cell? ⟨w.heap.size, 0, none⟩ = some .nilIface := by rw [cell_of_row w2 w.heap.size 0 _ _ _ hE]; rfl
  have fE : w2.frozen? ⟨w.heap.size, 0, none⟩ = false := frozen_of_row w2 w.heap.size 0 _ _ hE
  have hF : Fr (fun b => b = A) w w2 := ((Fr.refl _ _).alloc _).trans hf2 (fun _ _ h => h)
  have hst := run_storeAt_one (P := Tryz.prog) (v := v) (t := 68) cE fE (by kernel_rfl) hv1
  clear hq
  go_wp2_with (refine wpList_store 68 (w' := w2.setCell ⟨w.heap.size, 0, none⟩ v) (.tmp 2) (.tmp 5) rfl rfl ?_ ?_; exact hst)
  refine leaves_cons (f := 90) (args := #[.pointer (some ⟨w.heap.size, 0, none⟩)]) (by simp) (by simp [go_sem]) ?_
  refine (Try1_idle ⟨w.heap.size, 0, none⟩ _).mono ?_
  rintro e u' w'' ⟨rfl, rfl, rfl⟩
  have cE' : (w2.setCell ⟨w.heap.size, 0, none⟩ v).cell? ⟨w.heap.size, 0, none⟩ = some v := World.cell?_setCell_same _ _ _ cE
  simp [Leaves, settle, results, Tryz.results77, go_sem, cE']
  exact ⟨HV.out, hh2.set _ _ ⟨by simp; omega, by simp; omega, by simp; omega, by simp; omega⟩, hF.setCell _ (fun hh => by simp at hh) _⟩

set_option maxRecDepth 100000 in
theorem Lay_ok {w : World} {V A B n : Nat} {calls writes : Int} {bs : List Value} (hv : VolAt w V A n) (hd : DiskAt w A B n (.slice none 0 0) calls writes) (hr : RowsAt w B n bs) (h0 : 0 ≤ calls) (h1 : calls < 100000000) (h2 : 0 ≤ writes) (h3 : writes < 100000000) (hn8 : 8 ≤ n) (hn : n ≤ 400) :
    Calls Tryz.prog 64 #[.pointer (some ⟨V, 0, none⟩)] w fun e w' => e = .returned .nilIface ∧ ∃ bs', DiskAt w' A B n (.slice none 0 0) (calls + (n + 4)) (writes + (n + 1)) ∧ RowsAt w' B n bs' ∧ bs'.take 128 = headB n ∧ Fr (fun b => b = A ∨ b = B) w w' := by
  have hmf : ∀ (fn : Fn) (first cap : Array Value) (w : World), (Instr.makeFunc fn first cap).run Tryz.prog w = .ok (.func fn first cap) w := fun _ _ _ _ => rfl
  have hh : Held (w.alloc (.cells #[.pointer (some ⟨V, 0, none⟩)] 124)) w.heap.size V A B n (.slice none 0 0) calls writes bs :=
    ⟨heap_alloc_at _ _, by unfold VolAt; rw [heap_alloc_lt _ _ _ (lt_of_heap hv)]; exact hv, hd.alloc _, by rw [heap_alloc_lt _ _ _ (lt_of_heap hr.1)]; exact hr.1, hr.2⟩
  go_enter Tryz.func64, Tryz.ntmps64
  go_wp2_with fail
  refine (TryLay_ok hh h0 h1 h2 h3 hn8 hn).mono ?_
  rintro e w2 ⟨rfl, bs2, hh2, hbs2, hf2⟩
  go_wp2
  go_ret
  exact ⟨rfl, bs2, hh2.d, hh2.r, hbs2, ((Fr.refl _ _).alloc _).trans hf2 (fun _ _ h => h)⟩

set_option maxRecDepth 100000 in
theorem Find_ok {w : World} {V A B n : Nat} {calls writes : Int} {bs : List Value} (hv : VolAt w V A n) (hd : DiskAt w A B n (.slice none 0 0) calls writes) (hr : RowsAt w B n bs) (h0 : 0 ≤ calls) (h1 : calls < 100000000) (hn8 : 8 ≤ n) (hn : n ≤ 400)
    (b : Bool) (hq : ∀ w, (binOp .neq 153 (.agg (bs.take 128).toArray) (.agg (headB n).toArray)).run Tryz.prog w = .ok (.bool b) w) :
    Calls Tryz.prog 70 #[.pointer (some ⟨V, 0, none⟩)] w fun e w' => e = .returned (ferr b) ∧ VolAt w' V A n ∧ DiskAt w' A B n (.slice none 0 0) (calls + 1) writes ∧ RowsAt w' B n bs ∧ Fr (fun b => b = A) w w' := by
  have hmf : ∀ (fn : Fn) (first cap : Array Value) (w : World), (Instr.makeFunc fn first cap).run Tryz.prog w = .ok (.func fn first cap) w := fun _ _ _ _ => rfl
  have hh : Held (w.alloc (.cells #[.pointer (some ⟨V, 0, none⟩)] 124)) w.heap.size V A B n (.slice none 0 0) calls writes bs :=
    ⟨heap_alloc_at _ _, by unfold VolAt; rw [heap_alloc_lt _ _ _ (lt_of_heap hv)]; exact hv, hd.alloc _, by rw [heap_alloc_lt _ _ _ (lt_of_heap hr.1)]; exact hr.1, hr.2⟩
  go_enter Tryz.func70, Tryz.ntmps70
  go_wp2_with fail
  refine (TryFind_ok hh h0 h1 hn8 hn b hq).mono ?_
  rintro e w2 ⟨rfl, hh2, hf2⟩
  clear hq
  go_wp2
  go_ret
  exact ⟨rfl, hh2.v, hh2.d, hh2.r, ((Fr.refl _ _).alloc _).trans hf2 (fun _ _ h => h)⟩

theorem New_bad {w : World} {A B n : Nat} {cache : Value} {calls writes : Int} (h : DiskAt w A B n cache calls writes) (hn : n < 8 ∨ 400 < n) :
    Calls Tryz.prog 63 #[.iface 39 (.pointer (some ⟨A, 0, none⟩))] w fun e w' => e = .returned (.tuple #[.pointer none, .iface 70 (.int .i64 7)]) ∧ Fr (fun _ => False) w w' := by
  rcases hn with hn | hn
  · have hn' : (n : Int) < 8 := by omega
    go_enter Tryz.func63, Tryz.ntmps63
    go_wp2_with fail
    refine (count_ok h).mono ?_
    rintro e w2 ⟨rfl, hf⟩
    go_wp2
    go_ret2
    exact ⟨rfl, hf⟩
  · have hn' : ¬ (n : Int) < 8 := by omega
    have hn'' : (400 : Int) < n := by omega
    have hd : decide ((n : Int) < 8) = false := by simpa using hn'
    go_enter Tryz.func63, Tryz.ntmps63
    go_wp2_with fail
    refine (count_ok h).mono ?_
    rintro e w2 ⟨rfl, hf⟩
    go_wp2
    go_ret2
    exact ⟨rfl, hf⟩
theorem New_ok {w : World} {A B n : Nat} {cache : Value} {calls writes : Int} (h : DiskAt w A B n cache calls writes) (hn8 : 8 ≤ n) (hn : n ≤ 400) :
    Calls Tryz.prog 63 #[.iface 39 (.pointer (some ⟨A, 0, none⟩))] w fun e w' => ∃ V, e = .returned (.tuple #[.pointer (some ⟨V, 0, none⟩), .nilIface]) ∧ VolAt w' V A n ∧ w.heap.size ≤ V ∧ Fr (fun _ => False) w w' := by
  have hn' : ¬ (n : Int) < 8 := by omega
  have hn'' : ¬ (400 : Int) < n := by omega
  have hd : decide ((n : Int) < 8) = false := by simpa using hn'
  have hd2 : decide ((400 : Int) < n) = false := by simpa using hn''
  go_enter Tryz.func63, Tryz.ntmps63
  go_wp2_with fail
  refine (count_ok h).mono ?_
  rintro e w2 ⟨rfl, hf⟩
  go_wp2
  go_ret2
  exact ⟨w2.heap.size, rfl, heap_alloc_at _ _, hf.size, hf.alloc _⟩

theorem wrapped_nil (s : ByteArray) (w : World) : Calls Tryz.prog 65 #[.string s, .nilIface] w fun e w' => e = .returned .nilIface ∧ w' = w := by
  go_enter Tryz.func65, Tryz.ntmps65
  go_wp2
  go_ret
  exact ⟨rfl, rfl⟩
theorem wrapped_err (s : ByteArray) (k : Int) (w : World) : Calls Tryz.prog 65 #[.string s, .iface 70 (.int .i64 k)] w fun e w' => e = .returned (.iface 155 (.pointer (some ⟨w.heap.size, 0, none⟩))) ∧ w' = w.alloc (.cells #[.string s, .iface 70 (.int .i64 k)] 157) := by
  go_enter Tryz.func65, Tryz.ntmps65
  go_wp2
  go_ret
  exact ⟨rfl, rfl⟩
end Go.Proofs.YthnmpgnaahkgkaaGreatDoor
