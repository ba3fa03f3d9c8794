import Derived.Test.YteebjgfalllbjaaGreatDoorCVfVgVc
import Derived.Test.YteebjgfalllbjaaGreatDoorCApiReadBs
import Derived.Lib.Walk
import Derived.Lib.BitFns
import Derived.Test.YteebjgfalllbjaaGreatDoorCRjLsLk
import Derived.Test.YteebjgfalllbjaaGreatDoorCVbNeIx
import Derived.Test.YteebjgfalllbjaaGreatDoorCNtRoRp
namespace Go.Proofs.YteebjgfalllbjaaGreatDoor
open Go.RowKit
def ST.moved (s : ST) (reply : Int) : ST × Bool := if s.state = 1 then s.running reply else if s.state = 2 then s.undoing reply else (s, false)
def AS.moves (a : AS) (reply : Int) : Bool := decide (reply = 0 ∨ (reply = 2 ∧ a.S.1 = 1))
def AS.next (a : AS) (reply : Int) : SP := if a.S.1 = 1 ∧ reply = 0 then (if a.S.2 = a.st.length then (3, 0) else (1, a.S.2 + 1)) else backS a.S.2
def AS.go (a : AS) (reply : Int) : AS := ⟨a.id, a.st, a.next reply, 0, 0⟩
def waitD (p : Int) (n : Nat) : Int := if waitR p n > p then p else waitR p n
def AS.vain (a : AS) (clock pause : Int) : AS := ⟨a.id, a.st, a.S, a.tries + 1, clock + waitD pause a.tries.toNat⟩
def AS.open (a : AS) : Prop := a.S.1 = 1 ∨ a.S.1 = 2
instance (a : AS) : Decidable a.open := inferInstanceAs (Decidable (_ ∨ _))
structure AS.Ok (a : AS) (clock : Int) : Prop where
 s : a.S.1 = 1 ∨ a.S.1 = 2 ∨ a.S.1 = 3 ∨ a.S.1 = 4
 p : a.open → 1 ≤ a.S.2 ∧ a.S.2 ≤ a.st.length
 l1 : 1 ≤ a.st.length
 l6 : a.st.length ≤ 6
 t0 : 0 ≤ a.tries
 t1 : a.tries ≤ clock
def AS.left (a : AS) : Nat := if a.S.1 = 1 then 2 * a.st.length - a.S.2.toNat else if a.S.1 = 2 then a.S.2.toNat else 0
theorem told_moved (a : AS) {clock : Int} (h : a.Ok clock) (reply : Int) : a.told.moved reply = if a.open ∧ a.moves reply = true then ((a.go reply).told, true) else (a.told, false) := by
 obtain ⟨id, st, ⟨s1, s2⟩, tries, due⟩ := a
 have hs : s1 = 1 ∨ s1 = 2 ∨ s1 = 3 ∨ s1 = 4 := h.s
 clear h
 rcases hs with rfl | rfl | rfl | rfl
 ·by_cases h0 : reply = 0
  ·subst h0
   by_cases h2 : s2 = st.length <;> simp [ST.moved, ST.running, AS.told, AS.open, AS.moves, AS.go, AS.next, ST.at, h2]
  ·by_cases h2 : reply = 2
   ·subst h2
    by_cases h1 : s2 = 1 <;> simp [ST.moved, ST.running, AS.told, AS.open, AS.moves, AS.go, AS.next, ST.at, ST.back, backS, h1]
   ·simp [ST.moved, ST.running, AS.told, AS.open, AS.moves, h0, h2]
 ·by_cases h0 : reply = 0
  ·subst h0
   by_cases h1 : s2 = 1 <;> simp [ST.moved, ST.undoing, AS.told, AS.open, AS.moves, AS.go, AS.next, ST.at, ST.back, backS, h1]
  ·simp [ST.moved, ST.undoing, AS.told, AS.open, AS.moves, h0]
 ·simp [ST.moved, AS.told, AS.open]
 ·simp [ST.moved, AS.told, AS.open]
theorem AS.Ok.vain {a : AS} {clock pause : Int} (h : a.Ok (clock - 1)) : (a.vain clock pause).Ok clock := ⟨h.s, h.p, h.l1, h.l6, by have := h.t0; show 0 ≤ a.tries + 1; omega, by have := h.t1; show a.tries + 1 ≤ clock; omega⟩
theorem AS.Ok.go {a : AS} {clock reply c : Int} (h : a.Ok c) (h0 : 0 ≤ clock) (ho : a.open) (hm : a.moves reply = true) : (a.go reply).Ok clock ∧ (a.go reply).left + 1 ≤ a.left := by
 obtain ⟨id, st, ⟨s1, s2⟩, tries, due⟩ := a
 have hs : s1 = 1 ∨ s1 = 2 := ho
 have hp : 1 ≤ s2 ∧ s2 ≤ st.length := h.p ho
 have hl1 := h.l1
 have hl6 := h.l6
 have hm' : reply = 0 ∨ (reply = 2 ∧ s1 = 1) := of_decide_eq_true hm
 simp only at hl1 hl6
 have key : ∀ S : SP, (S.1 = 1 ∨ S.1 = 2 ∨ S.1 = 3 ∨ S.1 = 4) → ((S.1 = 1 ∨ S.1 = 2) → 1 ≤ S.2 ∧ S.2 ≤ st.length) → AS.Ok ⟨id, st, S, 0, 0⟩ clock := fun S g1 g2 => ⟨g1, g2, hl1, hl6, Int.le_refl 0, h0⟩
 rcases hs with rfl | rfl
 ·by_cases hr : reply = 0
  ·subst hr
   by_cases h2 : s2 = st.length
   ·have e : AS.go ⟨id, st, (1, s2), tries, due⟩ 0 = ⟨id, st, (3, 0), 0, 0⟩ := by simp [AS.go, AS.next, h2]
    rw [e]
    refine ⟨key _ (by simp) (by simp), ?_⟩
    simp [AS.left]; omega
   ·have e : AS.go ⟨id, st, (1, s2), tries, due⟩ 0 = ⟨id, st, (1, s2 + 1), 0, 0⟩ := by simp [AS.go, AS.next, h2]
    rw [e]
    refine ⟨key _ (by simp) (fun _ => by simp only; omega), ?_⟩
    simp [AS.left]; omega
  ·by_cases h1 : s2 = 1
   ·have e : AS.go ⟨id, st, (1, s2), tries, due⟩ reply = ⟨id, st, (4, 0), 0, 0⟩ := by simp [AS.go, AS.next, backS, h1, hr]
    rw [e]
    refine ⟨key _ (by simp) (by simp), ?_⟩
    simp [AS.left]; omega
   ·have e : AS.go ⟨id, st, (1, s2), tries, due⟩ reply = ⟨id, st, (2, s2 - 1), 0, 0⟩ := by simp [AS.go, AS.next, backS, h1, hr]
    rw [e]
    refine ⟨key _ (by simp) (fun _ => by simp only; omega), ?_⟩
    simp [AS.left]; omega
 ·by_cases h1 : s2 = 1
  ·have e : AS.go ⟨id, st, (2, s2), tries, due⟩ reply = ⟨id, st, (4, 0), 0, 0⟩ := by simp [AS.go, AS.next, backS, h1]
   rw [e]
   refine ⟨key _ (by simp) (by simp), ?_⟩
   simp [AS.left]; omega
  ·have e : AS.go ⟨id, st, (2, s2), tries, due⟩ reply = ⟨id, st, (2, s2 - 1), 0, 0⟩ := by simp [AS.go, AS.next, backS, h1]
   rw [e]
   refine ⟨key _ (by simp) (fun _ => by simp only; omega), ?_⟩
   simp [AS.left]; omega
theorem AS.Ok.left1 {a : AS} {c : Int} (h : a.Ok c) (ho : a.open) : 1 ≤ a.left := by
 obtain ⟨id, st, ⟨s1, s2⟩, tries, due⟩ := a
 have hs : s1 = 1 ∨ s1 = 2 := ho
 have hp : 1 ≤ s2 ∧ s2 ≤ st.length := h.p ho
 rcases hs with rfl | rfl <;> simp [AS.left] <;> omega
def blen (p : Nat) : Nat := if p < 2 then 1 else if p < 4 then 2 else if p < 8 then 3 else if p < 16 then 4 else if p < 32 then 5 else if p < 64 then 6 else 7
theorem blen_le (p : Nat) : blen p ≤ 7 := by
 unfold blen
 repeat' split
 all_goals omega
theorem wait_small : ∀ p < 65, ∀ n < 8, 1 ≤ p → (min (2 ^ (min n (blen p))) p : Nat) = waitD (p : Int) n ∧ (p : Int) ≤ waitR p 7 := by decide
theorem wait_bl (p : Nat) (h1 : 1 ≤ p) (h2 : p ≤ 64) (n : Nat) : (min (2 ^ (min n (blen p))) p : Nat) = waitD (p : Int) n := by
 by_cases hn : n < 8
 ·exact (wait_small p (by omega) n hn h1).1
 ·have h7 := wait_small p (by omega) 7 (by omega) h1
  have e1 : min n (blen p) = min 7 (blen p) := by have := blen_le p; omega
  have e2 : waitR (p : Int) n = waitR p 7 := by
   have := waitR_stop (p : Int) 7 h7.2 (n - 7)
   rwa [show 7 + (n - 7) = n by omega] at this
  rw [e1, h7.1]
  unfold waitD
  rw [e2]
end Go.Proofs.YteebjgfalllbjaaGreatDoor
namespace Go.Proofs.YteebjgfalllbjaaGreatDoor
open Go.RowKit
set_option maxRecDepth 100000 in
set_option maxHeartbeats 4000000 in
theorem Len64_ok (w : World) (p : Int) (h1 : 1 ≤ p) (h2 : p ≤ 64) : Calls Tryz.prog 180 #[.int .u64 p] w fun e w' => e = .returned (.int .i64 (Lib.bitLen p.toNat)) ∧ w' = w := by
 have h0 : 0 ≤ p := by omega
 have h3 : p < 256 := by omega
 go_enter Tryz.func180, Tryz.ntmps180
 go_wp2
 rename_i hsz
 have e1 : ((Lib.len8tab[p.toNat]'(by omega)).toNat : Int) = Lib.len8 p := by
  unfold Lib.len8
  rw [getElem?_pos Lib.len8tab p.toNat (by omega)]
  rfl
 have e2 := Lib.len8_of p h0 (by omega)
 have e3 := Lib.bitLen_le8' p h0 (by omega)
 all_goals (go_ret; refine ⟨congrArg Ending.returned (congrArg (Value.int IntKind.i64) ?_), rfl⟩)
 rw [e1, e2]
 unfold wrap64
 omega
set_option maxRecDepth 100000 in
theorem bitsLen_ok (w : World) (p : Int) (h1 : 1 ≤ p) (h2 : p ≤ 64) : Calls Tryz.prog 172 #[.int .u64 p] w fun e w' => e = .returned (.int .i64 (Lib.bitLen p.toNat)) ∧ w' = w := by
 have HL := Len64_ok w p h1 h2
 have e0 : p % 18446744073709551616 = p := by omega
 go_enter Tryz.func172, Tryz.ntmps172
 go_wp2_with fail
 refine HL.mono ?_
 rintro e w' ⟨rfl, rfl⟩
 go_wp2
 go_ret
 exact ⟨rfl, rfl⟩
end Go.Proofs.YteebjgfalllbjaaGreatDoor
namespace Go.Proofs.YteebjgfalllbjaaGreatDoor
open Go.RowKit
theorem exec_cuint {ρ : Operand → Value} {o : Oper} {x : Operand} {a : Int} (ho : o.op = .convert 3 185 x) (hx : ρ x = .int .i64 a) (h0 : 0 ≤ a) (h1 : a < 18446744073709551616) (w : World) : (execOp ρ o).run Tryz.prog w = .ok (.value (.int .u64 a)) w := by
 have e : a % 18446744073709551616 = a := by omega
 simp only [execOp, ho, hx]
 have : (execOp ρ o).run Tryz.prog w = .ok (.value (.int .u64 (a % 18446744073709551616))) w := by simp only [execOp, ho, hx]; kernel_rfl
 rw [e] at this
 simpa only [execOp, ho, hx] using this
theorem exec_min {ρ : Operand → Value} {o : Oper} {x y : Operand} {a b : Int} {ts : Array TypeId} (ho : o.op = .call { callee := .builtin .min, args := #[x, y], argTypes := ts }) (hx : ρ x = .int .i64 a) (hy : ρ y = .int .i64 b) (w : World) : (execOp ρ o).run Tryz.prog w = .ok (.value (.int .i64 (min a b))) w := by
 simp only [execOp, ho]
 simp [hx, hy, go_sem]
theorem exec_shl1 {ρ : Operand → Value} {o : Oper} {x y : Operand} {m : Nat} (ho : o.op = .binOp .shl 3 x y 3) (hx : ρ x = .int .i64 1) (hy : ρ y = .int .i64 m) (hm : m ≤ 7) (w : World) : (execOp ρ o).run Tryz.prog w = .ok (.value (.int .i64 (2 ^ m : Nat))) w := by
 simp only [execOp, ho, hx, hy]
 obtain h | h | h | h | h | h | h | h : m = 0 ∨ m = 1 ∨ m = 2 ∨ m = 3 ∨ m = 4 ∨ m = 5 ∨ m = 6 ∨ m = 7 := by omega
 all_goals subst h; kernel_rfl
def ST.off (s : ST) (clock pause : Int) (m : Nat) : ST := ⟨s.id, s.state, s.step, s.steps, s.tries + 1, clock + min ((2 ^ m : Nat) : Int) pause⟩
set_option maxRecDepth 100000 in
set_option maxHeartbeats 4000000 in
theorem putOff_ok (w : World) (id state step steps due : Int) (tries m : Nat) (clock pause : Int) (h1 : 1 ≤ pause) (h2 : pause ≤ 64) (hm : ((m : Nat) : Int) = min (tries : Int) (Lib.bitLen pause.toNat : Nat)) (ht : tries ≤ 1000000) (hc0 : 0 ≤ clock) (hc1 : clock ≤ 1000000) : Calls Tryz.prog 163 #[.agg (ST.cs ⟨id, state, step, steps, (tries : Nat), due⟩).toArray, .int .i64 clock, .int .i64 pause] w fun e w' => e = .returned (.agg (ST.cs (ST.off ⟨id, state, step, steps, (tries : Nat), due⟩ clock pause m)).toArray) ∧ Fr (fun _ => False) w w' := by
 have hlift : Tryz.prog.follows .mixedOrders = true := by kernel_rfl
 have e3 := Lib.bitLen_le8' pause (by omega) (by omega)
 have hbl : Lib.bitLen pause.toNat ≤ 7 := by
  have h7 := Lib.bitLenAux_le 64 pause.toNat 7 (by omega)
  exact h7
 have hm7 : m ≤ 7 := by omega
 have e1 : wrap64 ((tries : Int) + 1) = (tries : Int) + 1 := wrap64_id (by omega)
 have hp2 : ((2 ^ m : Nat) : Int) ≤ 128 := by
  have := Nat.pow_le_pow_right (show 0 < 2 by omega) hm7
  have h128 : (2 : Nat) ^ 7 = 128 := rfl
  omega
 have hp3 : (0 : Int) ≤ ((2 ^ m : Nat) : Int) := Int.natCast_nonneg _
 have e2 : wrap64 (clock + min ((2 ^ m : Nat) : Int) pause) = clock + min ((2 ^ m : Nat) : Int) pause := wrap64_id (by omega)
 have hrow : ((w.alloc (.cells #[.int .i64 id, .int .i64 state, .int .i64 step, .int .i64 steps, .int .i64 (tries : Nat), .int .i64 due] 138)).alloc (.cells #[.int .i64 0, .int .i64 0, .int .i64 0, .int .i64 0, .int .i64 0, .int .i64 0] 138)).heap[w.heap.size]? = some (.cells #[.int .i64 id, .int .i64 state, .int .i64 step, .int .i64 steps, .int .i64 (tries : Nat), .int .i64 due] 138 (0, 0)) := by
  rw [heap_alloc_lt _ _ _ (by simp)]; exact heap_alloc_at _ _
 have hrow1 : ((w.alloc (.cells #[.int .i64 id, .int .i64 state, .int .i64 step, .int .i64 steps, .int .i64 (tries : Nat), .int .i64 due] 138)).alloc (.cells #[.int .i64 0, .int .i64 0, .int .i64 0, .int .i64 0, .int .i64 0, .int .i64 0] 138)).heap[w.heap.size + 1]? = some (.cells #[.int .i64 0, .int .i64 0, .int .i64 0, .int .i64 0, .int .i64 0, .int .i64 0] 138 (0, 0)) := heap_alloc2_new w _ _
 have hfa : Fr (fun _ => False) w ((w.alloc (.cells #[.int .i64 id, .int .i64 state, .int .i64 step, .int .i64 steps, .int .i64 (tries : Nat), .int .i64 due] 138)).alloc (.cells #[.int .i64 0, .int .i64 0, .int .i64 0, .int .i64 0, .int .i64 0, .int .i64 0] 138)) := ((Fr.refl _ _).alloc _).alloc _
 unfold ST.cs
 go_enter Tryz.func163, Tryz.ntmps163
 go_wp2_with fail
 obtain ⟨W, HW⟩ : ∃ W, Hid (W = ((w.alloc (.cells #[.int .i64 id, .int .i64 state, .int .i64 step, .int .i64 steps, .int .i64 (tries : Nat), .int .i64 due] 138)).alloc (.cells #[.int .i64 0, .int .i64 0, .int .i64 0, .int .i64 0, .int .i64 0, .int .i64 0] 138)).drew) := ⟨_, rfl⟩
 have hfW : Fr (fun _ => False) ((w.alloc (.cells #[.int .i64 id, .int .i64 state, .int .i64 step, .int .i64 steps, .int .i64 (tries : Nat), .int .i64 due] 138)).alloc (.cells #[.int .i64 0, .int .i64 0, .int .i64 0, .int .i64 0, .int .i64 0, .int .i64 0] 138)) W := by rw [HW.out]; exact (Fr.refl _ _).drew
 let S : World → Prop := fun w' => w'.cell? ⟨w.heap.size, 4, none⟩ = some (.int .i64 (tries : Nat))
 have hS : S W := (cell_of_row _ _ 4 _ _ _ (hfW.keep hrow (fun h => h))).trans rfl
 refine wp_region_held (S := S) hlift ?_
 change wpAnyH _ _ _ _ S _ _ _ (World.drew _)
 rw [← HW.out]
 clear HW
 refine tkE (S := S) (i := 0) (oi := ⟨some 8, .fieldAddr 138 (.tmp 3) 4, _, _, _, none⟩) (v := .pointer (some ⟨w.heap.size, 4, none⟩)) rfl hS ?_
 simp only [Act.put, lsE, lsZ, lsS]
 refine tkY (S := S) (i := 1) (oi := ⟨some 9, .load 3 (.tmp 8), _, _, _, none⟩) (v := .int .i64 (tries : Nat)) rfl (Or.inl ⟨rfl, fun w' hs => exec_load 3 (.tmp 8) rfl ⟨w.heap.size, 4, none⟩ rfl (run_loadAt_one hs Tryz.underlying3 rfl)⟩) hS ?_
 simp only [Act.put, lsE, lsZ, lsS]
 refine tkE (S := S) (i := 2) (oi := ⟨some 10, .move (.tmp 2), _, _, _, none⟩) (v := .int .i64 pause) rfl hS ?_
 simp only [Act.put, lsE, lsZ, lsS]
 refine tkY (S := S) (i := 3) (oi := ⟨some 11, .convert 3 185 (.tmp 10), _, _, _, none⟩) (v := .int .u64 pause) rfl (Or.inl ⟨rfl, fun w' _ => exec_cuint rfl rfl (by omega) (by omega) w'⟩) hS ?_
 simp only [Act.put, lsE, lsZ, lsS]
 refine wpAnyH_all (rs := [4]) (by kernel_rfl) (by simp) ?_
 intro i4 hi4
 obtain rfl : i4 = 4 := by simpa using hi4
 refine wpOp_call (o := ⟨some 12, .call { callee := .value (.func 172), args := #[(.tmp 11)], argTypes := _ }, _, _, _, none⟩) (f := 172) (args := #[.int .u64 pause]) rfl rfl (by kernel_rfl) ?_
 refine (bitsLen_ok W pause h1 h2).mono ?_
 rintro e w2 ⟨rfl, rfl⟩
 refine ⟨_, rfl, hS, ?_⟩
 simp only [Act.put, lsE, lsZ, lsS]
 refine wpAnyH_all (rs := [5]) (by kernel_rfl) (by simp) ?_
 intro i5 hi5
 obtain rfl : i5 = 5 := by simpa using hi5
 refine wpOp_value (o := ⟨some 13, .call { callee := .builtin .min, args := #[.tmp 9, .tmp 12], argTypes := _ }, _, _, _, none⟩) (v := .int .i64 (m : Nat)) (w' := w2) rfl rfl (by rw [hm]; exact exec_min rfl rfl rfl w2) ⟨hS, ?_⟩
 simp only [Act.put, lsE, lsZ, lsS]
 refine tkY (S := S) (i := 6) (oi := ⟨some 14, .binOp .shl 3 (.const (.int .i64 1)) (.tmp 13) 3, _, _, _, none⟩) (v := .int .i64 (2 ^ m : Nat)) rfl (Or.inl ⟨rfl, fun w' _ => exec_shl1 rfl rfl rfl hm7 w'⟩) hS ?_
 simp only [Act.put, lsE, lsZ, lsS]
 refine tkE (S := S) (i := 7) (oi := ⟨some 7, .assign (.tmp 14), _, _, _, none⟩) (v := .int .i64 (2 ^ m : Nat)) rfl hS ?_
 simp only [Act.put, lsE, lsZ, lsS]
 refine wpAnyH_done (by kernel_rfl) ?_ _
 generalize hq : (2 ^ m : Nat) = q at *
 have hrow' := hfW.keep hrow (fun h => h)
 have hrow1' := hfW.keep hrow1 (fun h => h)
 have hFW := hfa.trans hfW (fun _ _ h => h)
 have c4 : w2.cell? ⟨w.heap.size, 4, none⟩ = some (.int .i64 (tries : Nat)) := hS
 clear hrow hrow1 hfW hfa hS
 have fz : w2.frozen? ⟨w.heap.size, 4, none⟩ = false := frozen_of_row w2 _ 4 _ _ hrow'
 have fz5 : (w2.setCell ⟨w.heap.size, 4, none⟩ (.int .i64 ((tries : Int) + 1))).frozen? ⟨w.heap.size, 5, none⟩ = false := frozen_of_row _ _ 5 _ _ (heap_setCell_at w2 w.heap.size 4 _ _ (.int .i64 ((tries : Int) + 1)) hrow')
 have c5 : (w2.setCell ⟨w.heap.size, 4, none⟩ (.int .i64 ((tries : Int) + 1))).cell? ⟨w.heap.size, 5, none⟩ = some (.int .i64 due) := (cell_of_row _ _ 5 _ _ _ (heap_setCell_at w2 w.heap.size 4 _ _ (.int .i64 ((tries : Int) + 1)) hrow')).trans rfl
 have hB0 := heap_setCell_at _ w.heap.size 5 _ _ (.int .i64 (clock + min (q : Int) pause)) (heap_setCell_at w2 w.heap.size 4 _ _ (.int .i64 ((tries : Int) + 1)) hrow')
 have hB1 : ((w2.setCell ⟨w.heap.size, 4, none⟩ (.int .i64 ((tries : Int) + 1))).setCell ⟨w.heap.size, 5, none⟩ (.int .i64 (clock + min (q : Int) pause))).heap[w.heap.size + 1]? = _ := (heap_setCell_ne _ _ _ _ (by simp)).trans ((heap_setCell_ne _ _ _ _ (by simp)).trans hrow1')
 have hFB : Fr (fun _ => False) w ((w2.setCell ⟨w.heap.size, 4, none⟩ (.int .i64 ((tries : Int) + 1))).setCell ⟨w.heap.size, 5, none⟩ (.int .i64 (clock + min (q : Int) pause))) := (hFW.setCell _ (fun h => by simp at h) _).setCell _ (fun h => by simp at h) _
 obtain ⟨WB, HWB⟩ : ∃ WB, Hid (WB = ((w2.setCell ⟨w.heap.size, 4, none⟩ (.int .i64 ((tries : Int) + 1))).setCell ⟨w.heap.size, 5, none⟩ (.int .i64 (clock + min (q : Int) pause)))) := ⟨_, rfl⟩
 rw [← HWB.out] at hB0 hB1 hFB
 have hB0' : WB.heap[w.heap.size]? = some (.cells (ST.cs ⟨id, state, step, steps, (tries : Int) + 1, clock + min (q : Int) pause⟩).toArray 138 (0, 0)) := hB0
 have hrg : WB.rangeAt w.heap.size 0 (ST.cs ⟨id, state, step, steps, (tries : Int) + 1, clock + min (q : Int) pause⟩) := fun j v hv => (cell_of_row WB _ (0 + j) _ _ _ hB0').trans (by simpa using hv)
 have hst := run_store6 (ty := 138) (cs := [.int .i64 0, .int .i64 0, .int .i64 0, .int .i64 0, .int .i64 0, .int .i64 0]) hB1 rfl (ST.len ⟨id, state, step, steps, (tries : Int) + 1, clock + min (q : Int) pause⟩) (ST.one _) stand_size
 have hRE := setRow_heap WB (w.heap.size + 1) _ (ST.cs ⟨id, state, step, steps, (tries : Int) + 1, clock + min (q : Int) pause⟩).toArray 138 (0, 0) hB1
 have hFE : Fr (fun _ => False) w (WB.setRow (w.heap.size + 1) (ST.cs ⟨id, state, step, steps, (tries : Int) + 1, clock + min (q : Int) pause⟩).toArray) := hFB.setRow _ (fun h => by omega) _
 obtain ⟨WE, HWE⟩ : ∃ WE, Hid (WE = WB.setRow (w.heap.size + 1) (ST.cs ⟨id, state, step, steps, (tries : Int) + 1, clock + min (q : Int) pause⟩).toArray) := ⟨_, rfl⟩
 rw [← HWE.out] at hst hRE hFE
 clear HWE hB0 hB0' hB1 hFB hrow' hrow1' hFW
 simp only [ST.cs] at hrg hst
 rw [HWB.out] at hrg hst
 go_wp2_with (first | (refine wpList_load_mid rfl 138 _ rfl w.heap.size 0 ?_ _ _ hrg Tryz.underlying138 rfl ?_ ?_; rfl; exact stand_size) | (refine wpList_store 138 (w' := WE) _ _ rfl rfl ?_ ?_; exact hst))
 exact bodyPost_ret (results_cell_row Tryz.results163 _ _ (w.heap.size + 1) 138 _ (0, 0) _ rfl hRE Tryz.underlying138 rfl stand_size) rfl ⟨by rw [← hq]; rfl, hFE⟩
end Go.Proofs.YteebjgfalllbjaaGreatDoor
