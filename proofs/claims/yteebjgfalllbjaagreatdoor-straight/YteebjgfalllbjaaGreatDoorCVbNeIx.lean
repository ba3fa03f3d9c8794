import Derived.Test.YteebjgfalllbjaaGreatDoorCWiGd0Va
import Derived.Test.YteebjgfalllbjaaGreatDoorCLnLpOwn
import Derived.Test.YteebjgfalllbjaaGreatDoorCOhWriteFlush
import Derived.OrdersHeld
namespace Go.Proofs.YteebjgfalllbjaaGreatDoor
open Go.RowKit
def waitR (p : Int) : Nat → Int
 | 0 => 1
 | n + 1 => if waitR p n < p then 2 * waitR p n else waitR p n
def RS.vain (r : RS) (clock pause : Int) : RS := { r with tries := r.tries + 1, due := clock + (if waitR pause r.tries.toNat > pause then pause else waitR pause r.tries.toNat) }
theorem waitR_stop (p : Int) (n : Nat) (h : p ≤ waitR p n) (k : Nat) : waitR p (n + k) = waitR p n := by
 induction k with
 | zero => rfl
 | succ k ih => rw [← Nat.add_assoc, waitR, ih, if_neg (by omega)]
end Go.Proofs.YteebjgfalllbjaaGreatDoor
namespace Go.Proofs.YteebjgfalllbjaaGreatDoor
open Go.RowKit
def RS.turn (r : RS) (reply : Int) (M : Nat) : RS := { r with S := r.next reply, tries := 0, due := 0, ma := some ⟨M, 0, none⟩, mc := 1, may := [r.next reply] }
end Go.Proofs.YteebjgfalllbjaaGreatDoor
namespace Go.Proofs.YteebjgfalllbjaaGreatDoor
open Go.RowKit
theorem index_rows (B n a : Nat) (h : a < n) (w : World) : (Instr.indexAt 93 (.slice (some ⟨B, 0, none⟩) n n) (.int .i64 a)).run Tryz.prog w = .ok (.pointer (some ⟨B, a * 128, none⟩)) w := by
 have h' : (a : Int) < n := by omega
 go_simp
end Go.Proofs.YteebjgfalllbjaaGreatDoor
