import Derived.Test.YthnmpgnaahkgkaaGreatDoorVol2
namespace Go.Proofs.YthnmpgnaahkgkaaGreatDoor
open Go.RowKit

/-- An error of the program: nil (0), or a fault that wraps a number. -/
def ErrAt (w : World) (v : Value) (k : Int) : Prop := (v = .nilIface ∧ k = 0) ∨ (∃ g s, v = .iface 155 (.pointer (some ⟨g, 0, none⟩)) ∧ w.heap[g]? = some (.cells #[.string s, .iface 70 (.int .i64 k)] 157 (0, 0)) ∧ k ≠ 0)
theorem ErrAt.one {w : World} {v : Value} {k : Int} (h : ErrAt w v k) : v.oneCell' = true := by
  rcases h with ⟨rfl, _⟩ | ⟨g, s, rfl, _⟩ <;> rfl

theorem sFormat_bad {w : World} {A B n : Nat} {cache : Value} {calls writes : Int} (h : DiskAt w A B n cache calls writes) (hn : n < 8 ∨ 400 < n) :
    Calls Tryz.prog 38 #[.iface 39 (.pointer (some ⟨A, 0, none⟩))] w fun e w' => ∃ v, e = .returned v ∧ ErrAt w' v 7 ∧ Fr (fun _ => False) w w' := by
  go_enter Tryz.func38, Tryz.ntmps38
  go_wp2_with fail
  refine (New_bad h hn).mono ?_
  rintro e w2 ⟨rfl, hf⟩
  go_wp2_with fail
  refine (wrapped_err _ 7 _).mono ?_
  rintro e w3 ⟨rfl, rfl⟩
  go_wp2
  go_ret
  exact ⟨_, rfl, Or.inr ⟨_, _, rfl, heap_alloc_at _ _, by decide⟩, hf.alloc _⟩
theorem sFormat_ok {w : World} {A B n : Nat} {calls writes : Int} {bs : List Value} (h : DiskAt w A B n (.slice none 0 0) calls writes) (hr : RowsAt w B n bs) (h0 : 0 ≤ calls) (h1 : calls < 100000000) (h2 : 0 ≤ writes) (h3 : writes < 100000000) (hn8 : 8 ≤ n) (hn : n ≤ 400) :
    Calls Tryz.prog 38 #[.iface 39 (.pointer (some ⟨A, 0, none⟩))] w fun e w' => ∃ v, e = .returned v ∧ ErrAt w' v 0 ∧ ∃ bs', DiskAt w' A B n (.slice none 0 0) (calls + (n + 4)) (writes + (n + 1)) ∧ RowsAt w' B n bs' ∧ bs'.take 128 = headB n ∧ Fr (fun b => b = A ∨ b = B) w w' := by
  go_enter Tryz.func38, Tryz.ntmps38
  go_wp2_with fail
  refine (New_ok h hn8 hn).mono ?_
  rintro e w2 ⟨V, rfl, hv, hVl, hf⟩
  go_wp2_with fail
  refine (Lay_ok hv (h.fr hf id) ⟨hf.keep hr.1 id, hr.2⟩ h0 h1 h2 h3 hn8 hn).mono ?_
  rintro e w3 ⟨rfl, bs3, hd3, hr3, hb3, hf3⟩
  go_wp2_with fail
  refine (wrapped_nil _ _).mono ?_
  rintro e w4 ⟨rfl, rfl⟩
  go_wp2
  go_ret
  exact ⟨_, rfl, Or.inl ⟨rfl, rfl⟩, bs3, hd3, hr3, hb3, (hf.mono (fun _ _ h => h.elim)).trans hf3 (fun _ _ h => h)⟩
theorem pFormat_bad {w : World} {A B n : Nat} {cache : Value} {calls writes : Int} (h : DiskAt w A B n cache calls writes) (hn : n < 8 ∨ 400 < n) :
    Calls Tryz.prog 26 #[.pointer (some ⟨A, 0, none⟩)] w fun e w' => ∃ v, e = .returned v ∧ ErrAt w' v 7 ∧ Fr (fun _ => False) w w' := by
  go_enter Tryz.func26, Tryz.ntmps26
  go_wp2_with fail
  refine (sFormat_bad h hn).mono ?_
  rintro e w2 ⟨v, rfl, hv, hf⟩
  go_wp2
  go_ret
  exact ⟨_, rfl, hv, hf⟩
theorem pFormat_ok {w : World} {A B n : Nat} {calls writes : Int} {bs : List Value} (h : DiskAt w A B n (.slice none 0 0) calls writes) (hr : RowsAt w B n bs) (h0 : 0 ≤ calls) (h1 : calls < 100000000) (h2 : 0 ≤ writes) (h3 : writes < 100000000) (hn8 : 8 ≤ n) (hn : n ≤ 400) :
    Calls Tryz.prog 26 #[.pointer (some ⟨A, 0, none⟩)] w fun e w' => ∃ v, e = .returned v ∧ ErrAt w' v 0 ∧ ∃ bs', DiskAt w' A B n (.slice none 0 0) (calls + (n + 4)) (writes + (n + 1)) ∧ RowsAt w' B n bs' ∧ bs'.take 128 = headB n ∧ Fr (fun b => b = A ∨ b = B) w w' := by
  go_enter Tryz.func26, Tryz.ntmps26
  go_wp2_with fail
  refine (sFormat_ok h hr h0 h1 h2 h3 hn8 hn).mono ?_
  rintro e w2 ⟨v, rfl, hv, hf⟩
  go_wp2
  go_ret
  exact ⟨_, rfl, hv, hf⟩

/-- What Open answers: the engine and the error's number. -/
theorem sOpen_pause {w : World} {d f : Value} (p : Int) (hp : p < 1 ∨ 64 < p) :
    Calls Tryz.prog 40 #[d, .int .i64 p, f] w fun e w' => ∃ v, e = .returned (.tuple #[.pointer none, v]) ∧ ErrAt w' v 8 ∧ Fr (fun _ => False) w w' := by
  rcases hp with hp | hp
  · go_enter Tryz.func40, Tryz.ntmps40
    go_wp2_with fail
    refine (wrapped_err _ 8 _).mono ?_
    rintro e w3 ⟨rfl, rfl⟩
    go_wp2
    go_ret2
    exact ⟨_, rfl, Or.inr ⟨_, _, rfl, heap_alloc_at _ _, by decide⟩, (Fr.refl _ _).alloc _⟩
  · have hp' : ¬ p < 1 := by omega
    have hd : decide (p < 1) = false := by simpa using hp'
    go_enter Tryz.func40, Tryz.ntmps40
    go_wp2_with fail
    refine (wrapped_err _ 8 _).mono ?_
    rintro e w3 ⟨rfl, rfl⟩
    go_wp2
    go_ret2
    exact ⟨_, rfl, Or.inr ⟨_, _, rfl, heap_alloc_at _ _, by decide⟩, (Fr.refl _ _).alloc _⟩
theorem sOpen_bad {w : World} {A B n : Nat} {cache f : Value} {calls writes : Int} (h : DiskAt w A B n cache calls writes) (hn : n < 8 ∨ 400 < n) (p : Int) (hp1 : 1 ≤ p) (hp2 : p ≤ 64) :
    Calls Tryz.prog 40 #[.iface 39 (.pointer (some ⟨A, 0, none⟩)), .int .i64 p, f] w fun e w' => ∃ v, e = .returned (.tuple #[.pointer none, v]) ∧ ErrAt w' v 7 ∧ Fr (fun _ => False) w w' := by
  have hp' : ¬ p < 1 := by omega
  have hd : decide (p < 1) = false := by simpa using hp'
  have hd2 : decide (64 < p) = false := by simp; omega
  go_enter Tryz.func40, Tryz.ntmps40
  go_wp2_with fail
  refine (New_bad h hn).mono ?_
  rintro e w2 ⟨rfl, hf⟩
  go_wp2_with fail
  refine (wrapped_err _ 7 _).mono ?_
  rintro e w3 ⟨rfl, rfl⟩
  go_wp2
  go_ret2
  exact ⟨_, rfl, Or.inr ⟨_, _, rfl, heap_alloc_at _ _, by decide⟩, hf.alloc _⟩
theorem sOpen_none {w : World} {A B n : Nat} {f : Value} {calls writes : Int} {bs : List Value} (h : DiskAt w A B n (.slice none 0 0) calls writes) (hr : RowsAt w B n bs) (h0 : 0 ≤ calls) (h1 : calls < 100000000) (hn8 : 8 ≤ n) (hn : n ≤ 400) (hz : bs.take 128 = zB) (p : Int) (hp1 : 1 ≤ p) (hp2 : p ≤ 64) :
    Calls Tryz.prog 40 #[.iface 39 (.pointer (some ⟨A, 0, none⟩)), .int .i64 p, f] w fun e w' => ∃ v, e = .returned (.tuple #[.pointer none, v]) ∧ ErrAt w' v 6 ∧ DiskAt w' A B n (.slice none 0 0) (calls + 1) writes ∧ RowsAt w' B n bs ∧ Fr (fun b => b = A) w w' := by
  have hp' : ¬ p < 1 := by omega
  have hd : decide (p < 1) = false := by simpa using hp'
  have hd2 : decide (64 < p) = false := by simp; omega
  go_enter Tryz.func40, Tryz.ntmps40
  go_wp2_with fail
  refine (New_ok h hn8 hn).mono ?_
  rintro e w2 ⟨V, rfl, hv, hVl, hf⟩
  go_wp2_with fail
  refine (Find_ok hv (h.fr hf id) ⟨hf.keep hr.1 id, hr.2⟩ h0 h1 hn8 hn true (by rw [hz]; exact neq_zero n)).mono ?_
  rintro e w3 ⟨rfl, hv3, hd3, hr3, hf3⟩
  have hfe : ferr true = .iface 70 (.int .i64 6) := rfl
  go_wp2_with fail
  refine (wrapped_err _ 6 _).mono ?_
  rintro e w4 ⟨rfl, rfl⟩
  go_wp2
  go_ret2
  exact ⟨_, rfl, Or.inr ⟨_, _, rfl, heap_alloc_at _ _, by decide⟩, hd3.alloc _, ⟨by rw [heap_alloc_lt _ _ _ (lt_of_heap hr3.1)]; exact hr3.1, hr3.2⟩, ((hf.mono (fun _ _ h => h.elim)).trans hf3 (fun _ _ h => h)).alloc _⟩
theorem sOpen_ok {w : World} {A B n : Nat} {q : Addr} {calls writes : Int} {bs : List Value} (h : DiskAt w A B n (.slice none 0 0) calls writes) (hr : RowsAt w B n bs) (h0 : 0 ≤ calls) (h1 : calls < 100000000) (hn8 : 8 ≤ n) (hn : n ≤ 400) (hz : bs.take 128 = headB n) (p : Int) (hp1 : 1 ≤ p) (hp2 : p ≤ 64) :
    Calls Tryz.prog 40 #[.iface 39 (.pointer (some ⟨A, 0, none⟩)), .int .i64 p, .func (.func 41) #[.pointer (some q)] #[]] w fun e w' => ∃ x, e = .returned (.tuple #[.pointer (some ⟨x, 0, none⟩), .nilIface]) ∧ w.heap.size ≤ x ∧ DiskAt w' A B n (.slice none 0 0) (calls + 1) writes ∧ RowsAt w' B n bs ∧ Fr (fun b => b = A) w w' := by
  have hp' : ¬ p < 1 := by omega
  have hd : decide (p < 1) = false := by simpa using hp'
  have hd2 : decide (64 < p) = false := by simp; omega
  go_enter Tryz.func40, Tryz.ntmps40
  go_wp2_with fail
  refine (New_ok h hn8 hn).mono ?_
  rintro e w2 ⟨V, rfl, hv, hVl, hf⟩
  go_wp2_with fail
  refine (Find_ok hv (h.fr hf id) ⟨hf.keep hr.1 id, hr.2⟩ h0 h1 hn8 hn false (by rw [hz]; exact neq_head n)).mono ?_
  rintro e w3 ⟨rfl, hv3, hd3, hr3, hf3⟩
  have hfe : ferr false = .nilIface := rfl
  go_wp2
  go_ret2
  exact ⟨_, rfl, Nat.le_trans hf.size hf3.size, hd3.alloc _, ⟨by rw [heap_alloc_lt _ _ _ (lt_of_heap hr3.1)]; exact hr3.1, hr3.2⟩, ((hf.mono (fun _ _ h => h.elim)).trans hf3 (fun _ _ h => h)).alloc _⟩

/-- plain.Open: every way, by the pause, the size, what lies on block 0. -/
theorem pOpen_pause {w : World} {A q : Addr} (p : Int) (hp : p < 1 ∨ 64 < p) :
    Calls Tryz.prog 31 #[.pointer (some A), .int .i64 p, .pointer (some q)] w fun e w' => ∃ v, e = .returned (.tuple #[.pointer none, v]) ∧ ErrAt w' v 8 ∧ Fr (fun _ => False) w w' := by
  have hmf : ∀ (fn : Fn) (first cap : Array Value) (w : World), (Instr.makeFunc fn first cap).run Tryz.prog w = .ok (.func fn first cap) w := fun _ _ _ _ => rfl
  go_enter Tryz.func31, Tryz.ntmps31
  go_wp2_with fail
  refine (sOpen_pause p hp).mono ?_
  rintro e w2 ⟨v, rfl, hv, hf⟩
  go_wp2
  go_ret2
  exact ⟨_, rfl, hv, hf⟩
theorem pOpen_bad {w : World} {A B n : Nat} {cache : Value} {q : Addr} {calls writes : Int} (h : DiskAt w A B n cache calls writes) (hn : n < 8 ∨ 400 < n) (p : Int) (hp1 : 1 ≤ p) (hp2 : p ≤ 64) :
    Calls Tryz.prog 31 #[.pointer (some ⟨A, 0, none⟩), .int .i64 p, .pointer (some q)] w fun e w' => ∃ v, e = .returned (.tuple #[.pointer none, v]) ∧ ErrAt w' v 7 ∧ Fr (fun _ => False) w w' := by
  have hmf : ∀ (fn : Fn) (first cap : Array Value) (w : World), (Instr.makeFunc fn first cap).run Tryz.prog w = .ok (.func fn first cap) w := fun _ _ _ _ => rfl
  go_enter Tryz.func31, Tryz.ntmps31
  go_wp2_with fail
  refine (sOpen_bad h hn p hp1 hp2).mono ?_
  rintro e w2 ⟨v, rfl, hv, hf⟩
  go_wp2
  go_ret2
  exact ⟨_, rfl, hv, hf⟩
theorem pOpen_none {w : World} {A B n : Nat} {q : Addr} {calls writes : Int} {bs : List Value} (h : DiskAt w A B n (.slice none 0 0) calls writes) (hr : RowsAt w B n bs) (h0 : 0 ≤ calls) (h1 : calls < 100000000) (hn8 : 8 ≤ n) (hn : n ≤ 400) (hz : bs.take 128 = zB) (p : Int) (hp1 : 1 ≤ p) (hp2 : p ≤ 64) :
    Calls Tryz.prog 31 #[.pointer (some ⟨A, 0, none⟩), .int .i64 p, .pointer (some q)] w fun e w' => ∃ v, e = .returned (.tuple #[.pointer none, v]) ∧ ErrAt w' v 6 ∧ DiskAt w' A B n (.slice none 0 0) (calls + 1) writes ∧ RowsAt w' B n bs ∧ Fr (fun b => b = A) w w' := by
  have hmf : ∀ (fn : Fn) (first cap : Array Value) (w : World), (Instr.makeFunc fn first cap).run Tryz.prog w = .ok (.func fn first cap) w := fun _ _ _ _ => rfl
  go_enter Tryz.func31, Tryz.ntmps31
  go_wp2_with fail
  refine (sOpen_none h hr h0 h1 hn8 hn hz p hp1 hp2).mono ?_
  rintro e w2 ⟨v, rfl, hv, hf⟩
  go_wp2
  go_ret2
  exact ⟨_, rfl, hv, hf⟩
theorem pOpen_ok {w : World} {A B n : Nat} {q : Addr} {calls writes : Int} {bs : List Value} (h : DiskAt w A B n (.slice none 0 0) calls writes) (hr : RowsAt w B n bs) (h0 : 0 ≤ calls) (h1 : calls < 100000000) (hn8 : 8 ≤ n) (hn : n ≤ 400) (hz : bs.take 128 = headB n) (p : Int) (hp1 : 1 ≤ p) (hp2 : p ≤ 64) :
    Calls Tryz.prog 31 #[.pointer (some ⟨A, 0, none⟩), .int .i64 p, .pointer (some q)] w fun e w' => ∃ x, e = .returned (.tuple #[.pointer (some ⟨x, 0, none⟩), .nilIface]) ∧ w.heap.size ≤ x ∧ DiskAt w' A B n (.slice none 0 0) (calls + 1) writes ∧ RowsAt w' B n bs ∧ Fr (fun b => b = A) w w' := by
  have hmf : ∀ (fn : Fn) (first cap : Array Value) (w : World), (Instr.makeFunc fn first cap).run Tryz.prog w = .ok (.func fn first cap) w := fun _ _ _ _ => rfl
  go_enter Tryz.func31, Tryz.ntmps31
  go_wp2_with fail
  refine (sOpen_ok h hr h0 h1 hn8 hn hz p hp1 hp2).mono ?_
  rintro e w2 ⟨x, rfl, hx, hf⟩
  go_wp2
  go_ret2
  exact ⟨_, rfl, hx, hf⟩
end Go.Proofs.YthnmpgnaahkgkaaGreatDoor
