import Derived.Test.YteebjgfalllbjaaGreatDoorCRjLsLk
import Derived.Test.YteebjgfalllbjaaGreatDoorCLmLnLp
namespace Go.Proofs.YteebjgfalllbjaaGreatDoor
open Go.RowKit
def RS.moves (r : RS) (reply : Int) : Bool := decide (reply = 0 ∨ (reply = 2 ∧ r.S.1 = 1))
def backS (s2 : Int) : SP := if s2 = 1 then (4, 0) else (2, s2 - 1)
def RS.next (r : RS) (reply : Int) : SP := if r.S.1 = 1 ∧ reply = 0 then (if r.S.2 = r.st.length then (3, 0) else (1, r.S.2 + 1)) else backS r.S.2
set_option maxRecDepth 100000 in
theorem wrap64_id {x : Int} (h : -9223372036854775808 ≤ x ∧ x < 9223372036854775808) : wrap64 x = x := by unfold wrap64; omega
end Go.Proofs.YteebjgfalllbjaaGreatDoor
namespace Go.Proofs.YteebjgfalllbjaaGreatDoor
open Go.RowKit
/-- The wait, doubled so often as it is below the pause. -/
def waitR (p : Int) : Nat → Int
  | 0 => 1
  | n + 1 => if waitR p n < p then 2 * waitR p n else waitR p n
def RS.vain (r : RS) (clock pause : Int) : RS := { r with tries := r.tries + 1, due := clock + (if waitR pause r.tries.toNat > pause then pause else waitR pause r.tries.toNat) }
theorem waitR_stop (p : Int) (n : Nat) (h : p ≤ waitR p n) (k : Nat) : waitR p (n + k) = waitR p n := by
  induction k with
  | zero => rfl
  | succ k ih => rw [← Nat.add_assoc, waitR, ih, if_neg (by omega)]
end Go.Proofs.YteebjgfalllbjaaGreatDoor
namespace Go.Proofs.YteebjgfalllbjaaGreatDoor
open Go.RowKit
/-- A saga behind a reply that was written down. -/
def RS.turn (r : RS) (reply : Int) (M : Nat) : RS := { r with S := r.next reply, tries := 0, due := 0, ma := some ⟨M, 0, none⟩, mc := 1, may := [r.next reply] }
end Go.Proofs.YteebjgfalllbjaaGreatDoor
