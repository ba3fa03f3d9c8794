import Derived.Test.YthnmpgnaahkgkaaGreatDoorFlush
import Derived.OrdersHeld
namespace Go.Proofs.YthnmpgnaahkgkaaGreatDoor
open Go.RowKit
theorem index_rows (B n a : Nat) (h : a < n) (w : World) : (Instr.indexAt 59 (.slice (some ⟨B, 0, none⟩) n n) (.int .i64 a)).run Tryz.prog w = .ok (.pointer (some ⟨B, a * 128, none⟩)) w := by
  have h' : (a : Int) < n := by omega
  go_simp
end Go.Proofs.YthnmpgnaahkgkaaGreatDoor
