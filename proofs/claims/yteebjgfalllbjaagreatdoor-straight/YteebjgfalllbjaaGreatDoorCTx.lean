import Derived.Test.YteebjgfalllbjaaGreatDoorCCmClNs
import Derived.Laws.IdiomStrings
namespace Go.Proofs.YteebjgfalllbjaaGreatDoor
open Go.RowKit

set_option maxRecDepth 100000 in
set_option maxHeartbeats 1000000 in
theorem text_ok (w : World) (g o : Nat) (l : List UInt8) (k : Nat) (hl : l.length = 8) (hk : k < 256) (hc : ∀ j (hj : j < l.length), w.cell? ⟨g, o + j, none⟩ = some (.int .u8 (l[j].toNat : Int))) :
  Calls Tryz.prog 166 #[.slice (some ⟨g, o, none⟩) 8 8, .int .u8 k] w fun e w' => e = .returned (.string ⟨(l.take k).toArray⟩) ∧ w' = w := by
 have hcv : ∀ c, (convert 85 9 (.slice (some ⟨g, o, none⟩) (l.take k).length c)).run Tryz.prog w = .ok (.string ⟨(l.take k).toArray⟩) w := fun c =>
  run_convert_bytes_back w 85 9 5 ⟨g, o, none⟩ c (l.take k) Tryz.underlying85 Tryz.underlying5 Tryz.underlying9 (fun j hj => by
   have h' : j < l.length := by rw [List.length_take] at hj; omega
   have := hc j h'
   rcases Nat.eq_zero_or_pos j with rfl | hj0
   ·simpa [Addr.add] using this
   ·have hne : ¬ j = 0 := by omega
    simpa [Addr.add, hne] using this)
 rw [List.length_take, hl] at hcv
 by_cases h8 : (k : Int) ≤ 8
 ·have e : min k 8 = k := by omega
  rw [e] at hcv
  go_enter Tryz.func166, Tryz.ntmps166
  go_wp2
  go_ret
  exact ⟨rfl, rfl⟩
 ·have e : min k 8 = 8 := by omega
  rw [e] at hcv
  go_enter Tryz.func166, Tryz.ntmps166
  go_wp2
  go_ret
  exact ⟨rfl, rfl⟩
end Go.Proofs.YteebjgfalllbjaaGreatDoor
