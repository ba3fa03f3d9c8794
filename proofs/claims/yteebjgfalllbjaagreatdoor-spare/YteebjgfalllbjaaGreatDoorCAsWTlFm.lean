import Derived.Test.YteebjgfalllbjaaGreatDoorCWhJrAs
import Derived.Test.YteebjgfalllbjaaGreatDoorCTryLayEq
namespace Go.Proofs.YteebjgfalllbjaaGreatDoor
open Go.RowKit Go.Extern.Stop Go.Stop Go.Extern

set_option maxRecDepth 100000 in
set_option maxHeartbeats 4000000 in
theorem as_ok (g tb : Nat) (a : Addr) (k : Int) (old : Value) (w : World) (ha : w.cell? a = some (.pointer (some ⟨tb, 0, none⟩))) (hal : a.block < w.heap.size)
    (hg : w.cell? ⟨g, 1, none⟩ = some (.iface 59 (.int .i64 k))) (ht : w.cell? ⟨tb, 0, none⟩ = some old) (hf : w.frozen? ⟨tb, 0, none⟩ = false) :
    Calls Tryz.prog 71 #[.iface 117 (.pointer (some ⟨g, 0, none⟩)), .iface 99 (.pointer (some ⟨tb, 0, none⟩)), .agg #[.pointer (some ⟨4, 99, none⟩), .pointer (some a), .int .u64 150], .iface 198 (.agg #[.pointer (some ⟨4, 59, none⟩)])] w
      fun ev w' => ev = .returned (.bool true) ∧ w'.cell? ⟨tb, 0, none⟩ = some (.int .i64 k) ∧ Fr (· = tb) w w' := by
  have h66 := @run_callFunc_extern Tryz.prog 68 _ (fun args => ReflectliteValue.unpack (args.getD 0 (.tuple #[]))) Tryz.func68 (by kernel_rfl) (by kernel_rfl) (by kernel_rfl) (by kernel_rfl)
  have h83 := @run_callFunc_extern Tryz.prog 106 _ ReflectliteType.typeOf Tryz.func106 (by kernel_rfl) (by kernel_rfl) (by kernel_rfl) (by kernel_rfl)
  have h138 := @run_callFunc_extern Tryz.prog 217 _ (ReflectliteType.relation "AssignableTo" ReflectliteType.assignableTo) Tryz.func217 (by kernel_rfl) (by kernel_rfl) (by kernel_rfl) (by kernel_rfl)
  have h84 := @run_callFunc_extern Tryz.prog 107 _ (ReflectliteValue.method (ReflectliteValue.valueError "reflectlite.Value.Elem" 0) ReflectliteValue.elem) Tryz.func107 (by kernel_rfl) (by kernel_rfl) (by kernel_rfl) (by kernel_rfl)
  have h85 := @run_callFunc_extern Tryz.prog 108 _ ReflectliteValue.set Tryz.func108 (by kernel_rfl) (by kernel_rfl) (by kernel_rfl) (by kernel_rfl)
  have f1 := rl_typeOfF
  have f2 := rl_typeOfE
  have f3 := rl_methodAssignable
  have f4 := rl_assignF
  have f5 := rl_assignE
  have f6 := rl_assertAs
  have f7 := rl_assertUnwrap
  have f8 := rl_methodUnwrap
  have f9 := rl_valueOfE
  have hgl : g < w.heap.size := World.block_lt_of_cell? w _ hg
  have htl : tb < w.heap.size := World.block_lt_of_cell? w _ ht
  have hg1 : (w.alloc (.cells #[.pointer (some ⟨4, 99, none⟩), .pointer (some a), .int .u64 150] 144)).cell? ⟨g, 1, none⟩ = some (.iface 59 (.int .i64 k)) := by rw [World.cell?_alloc_lt _ _ ⟨g, 1, none⟩ hgl]; exact hg
  have el := rl_elemVP a ⟨tb, 0, none⟩ (w.alloc (.cells #[.pointer (some ⟨4, 99, none⟩), .pointer (some a), .int .u64 150] 144)) (by rw [World.cell?_alloc_lt _ _ a hal]; exact ha)
  have st := rl_setE ⟨tb, 0, none⟩ ⟨w.heap.size + 1, 0, none⟩ k old ((w.alloc (.cells #[.pointer (some ⟨4, 99, none⟩), .pointer (some a), .int .u64 150] 144)).alloc (.cells #[.int .i64 k] 59))
    (by rw [World.cell?_alloc_at _ _ _ _ (by simp)]; rfl)
    (by rw [World.cell?_alloc_lt _ _ ⟨tb, 0, none⟩ (by simp; omega), World.cell?_alloc_lt _ _ ⟨tb, 0, none⟩ htl]; exact ht)
    (by rw [World.frozen?_alloc_old _ _ ⟨tb, 0, none⟩ (by simp; omega), World.frozen?_alloc_old _ _ ⟨tb, 0, none⟩ (Nat.ne_of_lt htl)]; exact hf)
  go_enter Tryz.func71, Tryz.ntmps71
  go_wp2
  refine wp_loop_rounds 2 ?_
  rw [rounds_succ]
  go_wp2
  rw [rounds_succ]
  go_wp2
  go_ret
  refine ⟨rfl, ?_, ?_⟩
  · rw [World.cell?_alloc_lt _ _ _ (by simp; omega), World.cell?_alloc_lt _ _ _ (by simp; omega)]
    exact World.cell?_setCell_same _ _ _ ht
  · exact ((Fr.set1 w tb 0 _).alloc _).alloc _

set_option maxRecDepth 100000 in
set_option maxHeartbeats 4000000 in
theorem As_ok (g tb : Nat) (k : Int) (old : Value) (w : World) (hG : w.cell? ⟨0, 0, none⟩ = some (.iface 198 (.agg #[.pointer (some ⟨4, 36, none⟩)])))
    (hg : w.cell? ⟨g, 1, none⟩ = some (.iface 59 (.int .i64 k))) (ht : w.cell? ⟨tb, 0, none⟩ = some old) (hf : w.frozen? ⟨tb, 0, none⟩ = false) :
    Calls Tryz.prog 45 #[.iface 117 (.pointer (some ⟨g, 0, none⟩)), .iface 99 (.pointer (some ⟨tb, 0, none⟩))] w
      fun ev w' => ev = .returned (.bool true) ∧ w'.cell? ⟨tb, 0, none⟩ = some (.int .i64 k) ∧ Fr (· = tb) w w' := by
  have h66 := @run_callFunc_extern Tryz.prog 68 _ (fun args => ReflectliteValue.unpack (args.getD 0 (.tuple #[]))) Tryz.func68 (by kernel_rfl) (by kernel_rfl) (by kernel_rfl) (by kernel_rfl)
  have h67 := @run_callFunc_extern Tryz.prog 69 _ (ReflectliteValue.methodAny (ReflectliteValue.valueError "reflectlite.Value.Type" 0) (fun t _ _ _ => ReflectliteType.toType t)) Tryz.func69 (by kernel_rfl) (by kernel_rfl) (by kernel_rfl) (by kernel_rfl)
  have h68 := @run_callFunc_extern Tryz.prog 70 _ (ReflectliteValue.method (ReflectliteValue.valueError "reflectlite.Value.IsNil" 0) ReflectliteValue.isNil) Tryz.func70 (by kernel_rfl) (by kernel_rfl) (by kernel_rfl) (by kernel_rfl)
  have h122 := @run_callFunc_extern Tryz.prog 201 _ (ReflectliteType.abiMethod fun t => do pure (.int .u8 (← Rtype.kind t))) Tryz.func201 (by kernel_rfl) (by kernel_rfl) (by kernel_rfl) (by kernel_rfl)
  have h140 := @run_callFunc_extern Tryz.prog 219 _ (ReflectliteType.method ReflectliteType.elem) Tryz.func219 (by kernel_rfl) (by kernel_rfl) (by kernel_rfl) (by kernel_rfl)
  have h141 := @run_callFunc_extern Tryz.prog 220 _ (ReflectliteType.relation "Implements" ReflectliteType.implements_) Tryz.func220 (by kernel_rfl) (by kernel_rfl) (by kernel_rfl) (by kernel_rfl)
  have f1 := rl_valueOfP
  have f2 := rl_typeP
  have f3 := rl_methodKind
  have f4 := rl_kindP
  have f5 := rl_kindE
  have f6 := rl_methodElem
  have f7 := rl_methodImplements
  have f8 := rl_elemP
  have f9 := rl_implementsE
  have hgl : g < w.heap.size := World.block_lt_of_cell? w _ hg
  have htl : tb < w.heap.size := World.block_lt_of_cell? w _ ht
  have hGl : 0 < w.heap.size := World.block_lt_of_cell? w _ hG
  have n8 := rl_isNilP ⟨w.heap.size, 0, none⟩ ⟨tb, 0, none⟩ ((w.alloc (.cells #[.pointer (some ⟨tb, 0, none⟩)] 99)).alloc (.cells #[.pointer (some ⟨4, 99, none⟩), .pointer (some ⟨w.heap.size, 0, none⟩), .int .u64 150] 144)) (by simp)
  have hG2 : ((w.alloc (.cells #[.pointer (some ⟨tb, 0, none⟩)] 99)).alloc (.cells #[.pointer (some ⟨4, 99, none⟩), .pointer (some ⟨w.heap.size, 0, none⟩), .int .u64 150] 144)).cell? ⟨0, 0, none⟩ = some (.iface 198 (.agg #[.pointer (some ⟨4, 36, none⟩)])) := by
    rw [World.cell?_alloc_lt _ _ ⟨0, 0, none⟩ (by simp), World.cell?_alloc_lt _ _ ⟨0, 0, none⟩ hGl]; exact hG
  have cc : ∀ (q : Addr) (v : Value), w.cell? q = some v → ((w.alloc (.cells #[.pointer (some ⟨tb, 0, none⟩)] 99)).alloc (.cells #[.pointer (some ⟨4, 99, none⟩), .pointer (some ⟨w.heap.size, 0, none⟩), .int .u64 150] 144)).cell? q = some v := fun q v hq => by
    have hql := World.block_lt_of_cell? w _ hq
    rw [World.cell?_alloc_lt _ _ q (by simp; omega), World.cell?_alloc_lt _ _ q hql]; exact hq
  have HC : Hid (∀ (q : Addr) (v : Value), w.cell? q = some v → ((w.alloc (.cells #[.pointer (some ⟨tb, 0, none⟩)] 99)).alloc (.cells #[.pointer (some ⟨4, 99, none⟩), .pointer (some ⟨w.heap.size, 0, none⟩), .int .u64 150] 144)).cell? q = some v) := cc
  clear cc
  go_enter Tryz.func45, Tryz.ntmps45
  go_wp2_with fail
  refine (as_ok g tb ⟨w.heap.size, 0, none⟩ k old _ ?_ ?_ ?_ ?_ ?_).mono ?_
  · simp
  · simp; omega
  · exact HC.out _ _ hg
  · exact HC.out _ _ ht
  · rw [World.frozen?_alloc_old _ _ ⟨tb, 0, none⟩ (by simp; omega), World.frozen?_alloc_old _ _ ⟨tb, 0, none⟩ (Nat.ne_of_lt htl)]; exact hf
  rintro e w2 ⟨rfl, hc2, hf2⟩
  go_wp2
  go_ret
  exact ⟨rfl, hc2, ((Fr.refl _ _).alloc _ |>.alloc _).trans hf2 (fun _ _ h => h)⟩

theorem Told_nil (w : World) : Calls Tryz.prog 29 #[.nilIface] w fun e w' => e = .returned (.int .i64 0) ∧ w' = w := by
  go_enter Tryz.func29, Tryz.ntmps29
  go_wp2
  go_ret
  exact ⟨rfl, rfl⟩
theorem Told_err (g : Nat) (k : Int) (w : World) (hG : w.cell? ⟨0, 0, none⟩ = some (.iface 198 (.agg #[.pointer (some ⟨4, 36, none⟩)])))
    (hg : w.cell? ⟨g, 1, none⟩ = some (.iface 59 (.int .i64 k))) :
    Calls Tryz.prog 29 #[.iface 117 (.pointer (some ⟨g, 0, none⟩))] w fun e w' => e = .returned (.int .i64 k) ∧ Fr (fun _ => False) w w' := by
  have hgl : g < w.heap.size := World.block_lt_of_cell? w _ hg
  have hGl : 0 < w.heap.size := World.block_lt_of_cell? w _ hG
  go_enter Tryz.func29, Tryz.ntmps29
  go_wp2_with fail
  refine (As_ok g w.heap.size k (.int .i64 0) _ ?_ ?_ ?_ ?_).mono ?_
  · rw [World.cell?_alloc_lt _ _ ⟨0, 0, none⟩ hGl]; exact hG
  · rw [World.cell?_alloc_lt _ _ ⟨g, 1, none⟩ hgl]; exact hg
  · simp
  · simp
  rintro e w2 ⟨rfl, hc2, hf2⟩
  go_wp2
  go_ret
  exact ⟨rfl, ((Fr.refl _ _).alloc _).trans hf2 (fun k hk h => by omega)⟩
end Go.Proofs.YteebjgfalllbjaaGreatDoor
namespace Go.Proofs.YteebjgfalllbjaaGreatDoor
open Go.RowKit

/-- An error of the program: nil (0), or a fault that wraps a number. -/
def ErrAt (w : World) (v : Value) (k : Int) : Prop := (v = .nilIface ∧ k = 0) ∨ (∃ g s, v = .iface 117 (.pointer (some ⟨g, 0, none⟩)) ∧ w.heap[g]? = some (.cells #[.string s, .iface 59 (.int .i64 k)] 119 (0, 0)) ∧ k ≠ 0)
theorem ErrAt.one {w : World} {v : Value} {k : Int} (h : ErrAt w v k) : v.oneCell' = true := by
  rcases h with ⟨rfl, _⟩ | ⟨g, s, rfl, _⟩ <;> rfl
theorem ErrAt.fr {S : Nat → Prop} {w w' : World} {v : Value} {k : Int} (h : ErrAt w v k) (hf : Fr S w w') (hS : ∀ b c, w.heap[b]? = some (.cells c 119 (0, 0)) → ¬ S b) : ErrAt w' v k := by
  rcases h with h | ⟨g, s, e, hg, hk⟩
  · exact .inl h
  · exact .inr ⟨g, s, e, hf.keep hg (hS g _ hg), hk⟩
theorem num_ok (k : Int) (w : World) : Calls Tryz.prog 80 #[.int .i64 k] w fun e w' => e = .returned (.int .i64 k) ∧ w' = w := by
  go_enter Tryz.func80, Tryz.ntmps80
  go_wp2
  go_ret
  exact ⟨rfl, rfl⟩
def GOk (w : World) : Prop := w.cell? ⟨0, 0, none⟩ = some (.iface 198 (.agg #[.pointer (some ⟨4, 36, none⟩)]))
theorem Told_any {w : World} {v : Value} {k : Int} (h : ErrAt w v k) (hG : GOk w) : Calls Tryz.prog 29 #[v] w fun e w' => e = .returned (.int .i64 k) ∧ Fr (fun _ => False) w w' := by
  rcases h with ⟨rfl, rfl⟩ | ⟨g, s, rfl, hg, hk⟩
  · refine (Told_nil w).mono ?_
    rintro e w' ⟨rfl, rfl⟩
    exact ⟨rfl, Fr.refl _ _⟩
  · exact Told_err g k w hG (by rw [cell_of_row w g 1 _ _ _ hg]; rfl)
theorem GOk.fr {S : Nat → Prop} {w w' : World} (h : GOk w) (hf : Fr S w w') (hn : ¬ S 0) : GOk w' := hf.cell h hn
end Go.Proofs.YteebjgfalllbjaaGreatDoor
namespace Go.Proofs.YteebjgfalllbjaaGreatDoor
open Go.RowKit
theorem Held.alloc {w : World} {X V A B n : Nat} {cache : Value} {calls writes : Int} {bs : List Value} (h : Held w X V A B n cache calls writes bs) (o : Obj) : Held (w.alloc o) X V A B n cache calls writes bs :=
  ⟨by rw [heap_alloc_lt _ _ _ (lt_of_heap h.x)]; exact h.x, by unfold VolAt; rw [heap_alloc_lt _ _ _ (lt_of_heap h.v)]; exact h.v, h.d.alloc _, by rw [heap_alloc_lt _ _ _ (lt_of_heap h.r.1)]; exact h.r.1, h.r.2⟩
theorem Held.set {w : World} {X V A B n : Nat} {cache : Value} {calls writes : Int} {bs : List Value} (h : Held w X V A B n cache calls writes bs) (p : Addr) (u : Value) (hp : X ≠ p.block ∧ V ≠ p.block ∧ A ≠ p.block ∧ B ≠ p.block) : Held (w.setCell p u) X V A B n cache calls writes bs :=
  ⟨by rw [heap_setCell_ne _ _ _ _ hp.1]; exact h.x, by unfold VolAt; rw [heap_setCell_ne _ _ _ _ hp.2.1]; exact h.v, h.d.setCell _ _ hp.2.2.1, by rw [heap_setCell_ne _ _ _ _ hp.2.2.2]; exact h.r.1, h.r.2⟩

set_option maxRecDepth 100000 in
set_option maxHeartbeats 1000000 in
theorem TryLay_ok {w : World} {X V A B n : Nat} {calls writes : Int} {bs : List Value} (h : Held w X V A B n (.slice none 0 0) calls writes bs) (h0 : 0 ≤ calls) (h1 : calls < 100000000) (h2 : 0 ≤ writes) (h3 : writes < 100000000) (hn8 : 8 ≤ n) (hn : n ≤ 400) :
    Calls Tryz.prog 92 #[.func (.func 136) #[] #[.pointer (some ⟨X, 0, none⟩)]] w fun e w' => e = .returned .nilIface ∧ ∃ bs', Held w' X V A B n (.slice none 0 0) (calls + (n + 4)) (writes + (n + 1)) bs' ∧ bs' = emptyB n ∧ Fr (fun b => b = A ∨ b = B) w w' := by
  have hmf : ∀ (fn : Fn) (first cap : Array Value) (w : World), (Instr.makeFunc fn first cap).run Tryz.prog w = .ok (.func fn first cap) w := fun _ _ _ _ => rfl
  have hXl := lt_of_heap h.x
  have hVl := lt_of_heap h.v
  have hAl := lt_of_heap h.d
  have hBl := lt_of_heap h.r.1
  go_enter_defers Tryz.func92, Tryz.ntmps92
  go_wp2_with fail
  refine (Lay1_ok (h.alloc _) h0 h1 h2 h3 hn8 hn).mono ?_
  rintro e w2 ⟨rfl, bs2, hh2, hbs2, hf2⟩
  have hE : w2.heap[w.heap.size]? = some (.cells #[.nilIface] 36 (0, 0)) := hf2.keep (heap_alloc_at w _) (by omega)
  have cE : w2.cell? ⟨w.heap.size, 0, none⟩ = some .nilIface := by rw [cell_of_row w2 w.heap.size 0 _ _ _ hE]; rfl
  have fE : w2.frozen? ⟨w.heap.size, 0, none⟩ = false := frozen_of_row w2 w.heap.size 0 _ _ hE
  have hF : Fr (fun b => b = A ∨ b = B) w w2 := ((Fr.refl _ _).alloc _).trans hf2 (fun _ _ h => h)
  go_wp2
  refine leaves_cons (f := 139) (args := #[.pointer (some ⟨w.heap.size, 0, none⟩)]) (by simp) (by simp [go_sem]) ?_
  refine (Try1_idle ⟨w.heap.size, 0, none⟩ _).mono ?_
  rintro e u' w'' ⟨rfl, rfl, rfl⟩
  have cE' : (w2.setCell ⟨w.heap.size, 0, none⟩ .nilIface).cell? ⟨w.heap.size, 0, none⟩ = some .nilIface := World.cell?_setCell_same _ _ _ cE
  simp [Leaves, settle, results, Tryz.results92, go_sem, cE']
  exact ⟨bs2, hh2.set _ _ ⟨by simp; omega, by simp; omega, by simp; omega, by simp; omega⟩, hbs2, hF.setCell _ (fun hh => by simp at hh) _⟩

set_option maxRecDepth 100000 in
theorem Lay_ok {w : World} {V A B n : Nat} {calls writes : Int} {bs : List Value} (hv : VolAt w V A n) (hd : DiskAt w A B n (.slice none 0 0) calls writes) (hr : RowsAt w B n bs) (h0 : 0 ≤ calls) (h1 : calls < 100000000) (h2 : 0 ≤ writes) (h3 : writes < 100000000) (hn8 : 8 ≤ n) (hn : n ≤ 400) :
    Calls Tryz.prog 88 #[.pointer (some ⟨V, 0, none⟩)] w fun e w' => e = .returned .nilIface ∧ ∃ bs', DiskAt w' A B n (.slice none 0 0) (calls + (n + 4)) (writes + (n + 1)) ∧ RowsAt w' B n bs' ∧ bs' = emptyB n ∧ Fr (fun b => b = A ∨ b = B) w w' := by
  have hmf : ∀ (fn : Fn) (first cap : Array Value) (w : World), (Instr.makeFunc fn first cap).run Tryz.prog w = .ok (.func fn first cap) w := fun _ _ _ _ => rfl
  have hh : Held (w.alloc (.cells #[.pointer (some ⟨V, 0, none⟩)] 155)) w.heap.size V A B n (.slice none 0 0) calls writes bs :=
    ⟨heap_alloc_at _ _, by unfold VolAt; rw [heap_alloc_lt _ _ _ (lt_of_heap hv)]; exact hv, hd.alloc _, by rw [heap_alloc_lt _ _ _ (lt_of_heap hr.1)]; exact hr.1, hr.2⟩
  go_enter Tryz.func88, Tryz.ntmps88
  go_wp2_with fail
  refine (TryLay_ok hh h0 h1 h2 h3 hn8 hn).mono ?_
  rintro e w2 ⟨rfl, bs2, hh2, hbs2, hf2⟩
  go_wp2
  go_ret
  exact ⟨rfl, bs2, hh2.d, hh2.r, hbs2, ((Fr.refl _ _).alloc _).trans hf2 (fun _ _ h => h)⟩

theorem New_bad {w : World} {A B n : Nat} {cache : Value} {calls writes : Int} (h : DiskAt w A B n cache calls writes) (hn : n < 8 ∨ 400 < n) :
    Calls Tryz.prog 72 #[.iface 31 (.pointer (some ⟨A, 0, none⟩))] w fun e w' => e = .returned (.tuple #[.pointer none, .iface 59 (.int .i64 7)]) ∧ Fr (fun _ => False) w w' := by
  rcases hn with hn | hn
  · have hn' : (n : Int) < 8 := by omega
    go_enter Tryz.func72, Tryz.ntmps72
    go_wp2_with fail
    refine (count_ok h).mono ?_
    rintro e w2 ⟨rfl, hf⟩
    go_wp2
    go_ret2
    exact ⟨rfl, hf⟩
  · have hn' : ¬ (n : Int) < 8 := by omega
    have hn'' : (400 : Int) < n := by omega
    have hd : decide ((n : Int) < 8) = false := by simpa using hn'
    go_enter Tryz.func72, Tryz.ntmps72
    go_wp2_with fail
    refine (count_ok h).mono ?_
    rintro e w2 ⟨rfl, hf⟩
    go_wp2
    go_ret2
    exact ⟨rfl, hf⟩
theorem New_ok {w : World} {A B n : Nat} {cache : Value} {calls writes : Int} (h : DiskAt w A B n cache calls writes) (hn8 : 8 ≤ n) (hn : n ≤ 400) :
    Calls Tryz.prog 72 #[.iface 31 (.pointer (some ⟨A, 0, none⟩))] w fun e w' => ∃ V, e = .returned (.tuple #[.pointer (some ⟨V, 0, none⟩), .nilIface]) ∧ VolAt w' V A n ∧ w.heap.size ≤ V ∧ Fr (fun _ => False) w w' := by
  have hn' : ¬ (n : Int) < 8 := by omega
  have hn'' : ¬ (400 : Int) < n := by omega
  have hd : decide ((n : Int) < 8) = false := by simpa using hn'
  have hd2 : decide ((400 : Int) < n) = false := by simpa using hn''
  go_enter Tryz.func72, Tryz.ntmps72
  go_wp2_with fail
  refine (count_ok h).mono ?_
  rintro e w2 ⟨rfl, hf⟩
  go_wp2
  go_ret2
  exact ⟨w2.heap.size, rfl, heap_alloc_at _ _, hf.size, hf.alloc _⟩

theorem wrapped_nil (s : ByteArray) (w : World) : Calls Tryz.prog 41 #[.string s, .nilIface] w fun e w' => e = .returned .nilIface ∧ w' = w := by
  go_enter Tryz.func41, Tryz.ntmps41
  go_wp2
  go_ret
  exact ⟨rfl, rfl⟩
theorem wrapped_err (s : ByteArray) (k : Int) (w : World) : Calls Tryz.prog 41 #[.string s, .iface 59 (.int .i64 k)] w fun e w' => e = .returned (.iface 117 (.pointer (some ⟨w.heap.size, 0, none⟩))) ∧ w' = w.alloc (.cells #[.string s, .iface 59 (.int .i64 k)] 119) := by
  go_enter Tryz.func41, Tryz.ntmps41
  go_wp2
  go_ret
  exact ⟨rfl, rfl⟩
theorem sFormat_bad {w : World} {A B n : Nat} {cache : Value} {calls writes : Int} (h : DiskAt w A B n cache calls writes) (hn : n < 8 ∨ 400 < n) :
    Calls Tryz.prog 56 #[.iface 31 (.pointer (some ⟨A, 0, none⟩))] w fun e w' => ∃ v, e = .returned v ∧ ErrAt w' v 7 ∧ Fr (fun _ => False) w w' := by
  go_enter Tryz.func56, Tryz.ntmps56
  go_wp2_with fail
  refine (New_bad h hn).mono ?_
  rintro e w2 ⟨rfl, hf⟩
  go_wp2_with fail
  refine (wrapped_err _ 7 _).mono ?_
  rintro e w3 ⟨rfl, rfl⟩
  go_wp2
  go_ret
  exact ⟨_, rfl, Or.inr ⟨_, _, rfl, heap_alloc_at _ _, by decide⟩, hf.alloc _⟩
theorem sFormat_ok {w : World} {A B n : Nat} {calls writes : Int} {bs : List Value} (h : DiskAt w A B n (.slice none 0 0) calls writes) (hr : RowsAt w B n bs) (h0 : 0 ≤ calls) (h1 : calls < 100000000) (h2 : 0 ≤ writes) (h3 : writes < 100000000) (hn8 : 8 ≤ n) (hn : n ≤ 400) :
    Calls Tryz.prog 56 #[.iface 31 (.pointer (some ⟨A, 0, none⟩))] w fun e w' => ∃ v, e = .returned v ∧ ErrAt w' v 0 ∧ ∃ bs', DiskAt w' A B n (.slice none 0 0) (calls + (n + 4)) (writes + (n + 1)) ∧ RowsAt w' B n bs' ∧ bs' = emptyB n ∧ Fr (fun b => b = A ∨ b = B) w w' := by
  go_enter Tryz.func56, Tryz.ntmps56
  go_wp2_with fail
  refine (New_ok h hn8 hn).mono ?_
  rintro e w2 ⟨V, rfl, hv, hVl, hf⟩
  go_wp2_with fail
  refine (Lay_ok hv (h.fr hf id) ⟨hf.keep hr.1 id, hr.2⟩ h0 h1 h2 h3 hn8 hn).mono ?_
  rintro e w3 ⟨rfl, bs3, hd3, hr3, hb3, hf3⟩
  go_wp2_with fail
  refine (wrapped_nil _ _).mono ?_
  rintro e w4 ⟨rfl, rfl⟩
  go_wp2
  go_ret
  exact ⟨_, rfl, Or.inl ⟨rfl, rfl⟩, bs3, hd3, hr3, hb3, (hf.mono (fun _ _ h => h.elim)).trans hf3 (fun _ _ h => h)⟩
theorem pFormat_bad {w : World} {A B n : Nat} {cache : Value} {calls writes : Int} (h : DiskAt w A B n cache calls writes) (hn : n < 8 ∨ 400 < n) :
    Calls Tryz.prog 40 #[.pointer (some ⟨A, 0, none⟩)] w fun e w' => ∃ v, e = .returned v ∧ ErrAt w' v 7 ∧ Fr (fun _ => False) w w' := by
  go_enter Tryz.func40, Tryz.ntmps40
  go_wp2_with fail
  refine (sFormat_bad h hn).mono ?_
  rintro e w2 ⟨v, rfl, hv, hf⟩
  go_wp2
  go_ret
  exact ⟨_, rfl, hv, hf⟩
theorem pFormat_ok {w : World} {A B n : Nat} {calls writes : Int} {bs : List Value} (h : DiskAt w A B n (.slice none 0 0) calls writes) (hr : RowsAt w B n bs) (h0 : 0 ≤ calls) (h1 : calls < 100000000) (h2 : 0 ≤ writes) (h3 : writes < 100000000) (hn8 : 8 ≤ n) (hn : n ≤ 400) :
    Calls Tryz.prog 40 #[.pointer (some ⟨A, 0, none⟩)] w fun e w' => ∃ v, e = .returned v ∧ ErrAt w' v 0 ∧ ∃ bs', DiskAt w' A B n (.slice none 0 0) (calls + (n + 4)) (writes + (n + 1)) ∧ RowsAt w' B n bs' ∧ bs' = emptyB n ∧ Fr (fun b => b = A ∨ b = B) w w' := by
  go_enter Tryz.func40, Tryz.ntmps40
  go_wp2_with fail
  refine (sFormat_ok h hr h0 h1 h2 h3 hn8 hn).mono ?_
  rintro e w2 ⟨v, rfl, hv, hf⟩
  go_wp2
  go_ret
  exact ⟨_, rfl, hv, hf⟩

end Go.Proofs.YteebjgfalllbjaaGreatDoor
