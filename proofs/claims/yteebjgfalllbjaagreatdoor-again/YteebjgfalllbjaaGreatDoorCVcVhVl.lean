import Derived.Test.YteebjgfalllbjaaGreatDoorCVaVbNe
import Derived.Test.YteebjgfalllbjaaGreatDoorCVeVfVg
import Derived.Test.YteebjgfalllbjaaGreatDoorCApiReadBs
import Derived.Lib.Walk
import Derived.Lib.BitFns
namespace Go.Proofs.YteebjgfalllbjaaGreatDoor
open Go.RowKit
/-- A call of the partner. -/
structure CL where
  saga : Int
  step : Int
  back : Bool
  data : ByteArray
def CL.cs (c : CL) : List Value := [.int .i64 c.saga, .int .i64 c.step, .bool c.back, .string c.data]
end Go.Proofs.YteebjgfalllbjaaGreatDoor
namespace Go.Proofs.YteebjgfalllbjaaGreatDoor
open Go.RowKit
/-- Where a reply moves a stand. -/
def ST.moved (s : ST) (reply : Int) : ST × Bool := if s.state = 1 then s.running reply else if s.state = 2 then s.undoing reply else (s, false)
def AS.moves (a : AS) (reply : Int) : Bool := decide (reply = 0 ∨ (reply = 2 ∧ a.S.1 = 1))
def AS.next (a : AS) (reply : Int) : SP := if a.S.1 = 1 ∧ reply = 0 then (if a.S.2 = a.st.length then (3, 0) else (1, a.S.2 + 1)) else backS a.S.2
def AS.go (a : AS) (reply : Int) : AS := ⟨a.id, a.st, a.next reply, 0, 0⟩
def waitD (p : Int) (n : Nat) : Int := if waitR p n > p then p else waitR p n
def AS.vain (a : AS) (clock pause : Int) : AS := ⟨a.id, a.st, a.S, a.tries + 1, clock + waitD pause a.tries.toNat⟩
def AS.open (a : AS) : Prop := a.S.1 = 1 ∨ a.S.1 = 2
instance (a : AS) : Decidable a.open := inferInstanceAs (Decidable (_ ∨ _))
/-- A saga stands where one may, at a clock. -/
structure AS.Ok (a : AS) (clock : Int) : Prop where
  s : a.S.1 = 1 ∨ a.S.1 = 2 ∨ a.S.1 = 3 ∨ a.S.1 = 4
  p : a.open → 1 ≤ a.S.2 ∧ a.S.2 ≤ a.st.length
  l1 : 1 ≤ a.st.length
  l6 : a.st.length ≤ 6
  t0 : 0 ≤ a.tries
  t1 : a.tries ≤ clock
/-- How many moves are left to a saga. -/
def AS.left (a : AS) : Nat := if a.S.1 = 1 then 2 * a.st.length - a.S.2.toNat else if a.S.1 = 2 then a.S.2.toNat else 0
theorem told_moved (a : AS) {clock : Int} (h : a.Ok clock) (reply : Int) : a.told.moved reply = if a.open ∧ a.moves reply = true then ((a.go reply).told, true) else (a.told, false) := by
  obtain ⟨id, st, ⟨s1, s2⟩, tries, due⟩ := a
  have hs : s1 = 1 ∨ s1 = 2 ∨ s1 = 3 ∨ s1 = 4 := h.s
  clear h
  rcases hs with rfl | rfl | rfl | rfl
  · by_cases h0 : reply = 0
    · subst h0
      by_cases h2 : s2 = st.length <;> simp [ST.moved, ST.running, AS.told, AS.open, AS.moves, AS.go, AS.next, ST.at, h2]
    · by_cases h2 : reply = 2
      · subst h2
        by_cases h1 : s2 = 1 <;> simp [ST.moved, ST.running, AS.told, AS.open, AS.moves, AS.go, AS.next, ST.at, ST.back, backS, h1]
      · simp [ST.moved, ST.running, AS.told, AS.open, AS.moves, h0, h2]
  · by_cases h0 : reply = 0
    · subst h0
      by_cases h1 : s2 = 1 <;> simp [ST.moved, ST.undoing, AS.told, AS.open, AS.moves, AS.go, AS.next, ST.at, ST.back, backS, h1]
    · simp [ST.moved, ST.undoing, AS.told, AS.open, AS.moves, h0]
  · simp [ST.moved, AS.told, AS.open]
  · simp [ST.moved, AS.told, AS.open]
theorem AS.Ok.vain {a : AS} {clock pause : Int} (h : a.Ok (clock - 1)) : (a.vain clock pause).Ok clock := ⟨h.s, h.p, h.l1, h.l6, by have := h.t0; show 0 ≤ a.tries + 1; omega, by have := h.t1; show a.tries + 1 ≤ clock; omega⟩
theorem AS.Ok.go {a : AS} {clock reply c : Int} (h : a.Ok c) (h0 : 0 ≤ clock) (ho : a.open) (hm : a.moves reply = true) : (a.go reply).Ok clock ∧ (a.go reply).left + 1 ≤ a.left := by
  obtain ⟨id, st, ⟨s1, s2⟩, tries, due⟩ := a
  have hs : s1 = 1 ∨ s1 = 2 := ho
  have hp : 1 ≤ s2 ∧ s2 ≤ st.length := h.p ho
  have hl1 := h.l1
  have hl6 := h.l6
  have hm' : reply = 0 ∨ (reply = 2 ∧ s1 = 1) := of_decide_eq_true hm
  simp only at hl1 hl6
  have key : ∀ S : SP, (S.1 = 1 ∨ S.1 = 2 ∨ S.1 = 3 ∨ S.1 = 4) → ((S.1 = 1 ∨ S.1 = 2) → 1 ≤ S.2 ∧ S.2 ≤ st.length) → AS.Ok ⟨id, st, S, 0, 0⟩ clock := fun S g1 g2 => ⟨g1, g2, hl1, hl6, Int.le_refl 0, h0⟩
  rcases hs with rfl | rfl
  · by_cases hr : reply = 0
    · subst hr
      by_cases h2 : s2 = st.length
      · have e : AS.go ⟨id, st, (1, s2), tries, due⟩ 0 = ⟨id, st, (3, 0), 0, 0⟩ := by simp [AS.go, AS.next, h2]
        rw [e]
        refine ⟨key _ (by simp) (by simp), ?_⟩
        simp [AS.left]; omega
      · have e : AS.go ⟨id, st, (1, s2), tries, due⟩ 0 = ⟨id, st, (1, s2 + 1), 0, 0⟩ := by simp [AS.go, AS.next, h2]
        rw [e]
        refine ⟨key _ (by simp) (fun _ => by simp only; omega), ?_⟩
        simp [AS.left]; omega
    · by_cases h1 : s2 = 1
      · have e : AS.go ⟨id, st, (1, s2), tries, due⟩ reply = ⟨id, st, (4, 0), 0, 0⟩ := by simp [AS.go, AS.next, backS, h1, hr]
        rw [e]
        refine ⟨key _ (by simp) (by simp), ?_⟩
        simp [AS.left]; omega
      · have e : AS.go ⟨id, st, (1, s2), tries, due⟩ reply = ⟨id, st, (2, s2 - 1), 0, 0⟩ := by simp [AS.go, AS.next, backS, h1, hr]
        rw [e]
        refine ⟨key _ (by simp) (fun _ => by simp only; omega), ?_⟩
        simp [AS.left]; omega
  · by_cases h1 : s2 = 1
    · have e : AS.go ⟨id, st, (2, s2), tries, due⟩ reply = ⟨id, st, (4, 0), 0, 0⟩ := by simp [AS.go, AS.next, backS, h1]
      rw [e]
      refine ⟨key _ (by simp) (by simp), ?_⟩
      simp [AS.left]; omega
    · have e : AS.go ⟨id, st, (2, s2), tries, due⟩ reply = ⟨id, st, (2, s2 - 1), 0, 0⟩ := by simp [AS.go, AS.next, backS, h1]
      rw [e]
      refine ⟨key _ (by simp) (fun _ => by simp only; omega), ?_⟩
      simp [AS.left]; omega
theorem AS.Ok.left1 {a : AS} {c : Int} (h : a.Ok c) (ho : a.open) : 1 ≤ a.left := by
  obtain ⟨id, st, ⟨s1, s2⟩, tries, due⟩ := a
  have hs : s1 = 1 ∨ s1 = 2 := ho
  have hp : 1 ≤ s2 ∧ s2 ≤ st.length := h.p ho
  rcases hs with rfl | rfl <;> simp [AS.left] <;> omega
/-- The bits of a pause. -/
def blen (p : Nat) : Nat := if p < 2 then 1 else if p < 4 then 2 else if p < 8 then 3 else if p < 16 then 4 else if p < 32 then 5 else if p < 64 then 6 else 7
theorem blen_le (p : Nat) : blen p ≤ 7 := by
  unfold blen
  repeat' split
  all_goals omega
theorem wait_small : ∀ p < 65, ∀ n < 8, 1 ≤ p → (min (2 ^ (min n (blen p))) p : Nat) = waitD (p : Int) n ∧ (p : Int) ≤ waitR p 7 := by decide
theorem wait_bl (p : Nat) (h1 : 1 ≤ p) (h2 : p ≤ 64) (n : Nat) : (min (2 ^ (min n (blen p))) p : Nat) = waitD (p : Int) n := by
  by_cases hn : n < 8
  · exact (wait_small p (by omega) n hn h1).1
  · have h7 := wait_small p (by omega) 7 (by omega) h1
    have e1 : min n (blen p) = min 7 (blen p) := by have := blen_le p; omega
    have e2 : waitR (p : Int) n = waitR p 7 := by
      have := waitR_stop (p : Int) 7 h7.2 (n - 7)
      rwa [show 7 + (n - 7) = n by omega] at this
    rw [e1, h7.1]
    unfold waitD
    rw [e2]
end Go.Proofs.YteebjgfalllbjaaGreatDoor
namespace Go.Proofs.YteebjgfalllbjaaGreatDoor
open Go.RowKit
set_option maxRecDepth 100000 in
set_option maxHeartbeats 4000000 in
theorem Len64_ok (w : World) (p : Int) (h1 : 1 ≤ p) (h2 : p ≤ 64) : Calls Tryz.prog 180 #[.int .u64 p] w fun e w' => e = .returned (.int .i64 (Lib.bitLen p.toNat)) ∧ w' = w := by
  have h0 : 0 ≤ p := by omega
  have h3 : p < 256 := by omega
  go_enter Tryz.func180, Tryz.ntmps180
  go_wp2
  rename_i hsz
  have e1 : ((Lib.len8tab[p.toNat]'(by omega)).toNat : Int) = Lib.len8 p := by
    unfold Lib.len8
    rw [getElem?_pos Lib.len8tab p.toNat (by omega)]
    rfl
  have e2 := Lib.len8_of p h0 (by omega)
  have e3 := Lib.bitLen_le8' p h0 (by omega)
  all_goals (go_ret; refine ⟨congrArg Ending.returned (congrArg (Value.int IntKind.i64) ?_), rfl⟩)
  rw [e1, e2]
  unfold wrap64
  omega
set_option maxRecDepth 100000 in
theorem bitsLen_ok (w : World) (p : Int) (h1 : 1 ≤ p) (h2 : p ≤ 64) : Calls Tryz.prog 172 #[.int .u64 p] w fun e w' => e = .returned (.int .i64 (Lib.bitLen p.toNat)) ∧ w' = w := by
  have HL := Len64_ok w p h1 h2
  have e0 : p % 18446744073709551616 = p := by omega
  go_enter Tryz.func172, Tryz.ntmps172
  go_wp2_with fail
  refine HL.mono ?_
  rintro e w' ⟨rfl, rfl⟩
  go_wp2
  go_ret
  exact ⟨rfl, rfl⟩
end Go.Proofs.YteebjgfalllbjaaGreatDoor
