import Derived.Test.YthnmpgnaahkgkaaGreatDoorUp
import Derived.BigQuiet
namespace Go.Proofs.YthnmpgnaahkgkaaGreatDoor
open Go.RowKit

/-- The steps of a script, as they lie behind a slice that came in. -/
def Lies (w : World) (ao : Option Addr) (l : List OR) : Prop := ∀ i o, l[i]? = some o → ∃ g off, ao = some ⟨g, off, none⟩ ∧ w.rangeAt g (off + i * 6) o.cs

def SmP (w : World) (n : Nat) (e : Ending) (w' : World) : Prop := ∃ r, e = .returned (.bool r) ∧ (r = true → n ≤ 16384) ∧ Fr (fun _ => False) w w'
set_option maxRecDepth 100000 in
set_option maxHeartbeats 2000000 in
theorem small_ok {w : World} {ao : Option Addr} {cap : Nat} {l : List OR} (hl : Lies w ao l) :
    Calls Tryz.prog 8 #[.slice ao l.length cap] w fun e w' => SmP w l.length e w' := by
  by_cases hbig : 16384 < l.length
  · have hbig' : (16384 : Int) < l.length := by omega
    go_enter Tryz.func8, Tryz.ntmps8
    go_wp2
    go_ret
    exact ⟨false, rfl, (fun h => by cases h), Fr.refl _ _⟩
  have hbig' : ¬ (16384 : Int) < l.length := by omega
  have HL : Hid (Lies w ao l) := hl
  clear hl
  go_enter Tryz.func8, Tryz.ntmps8
  go_wp2
  go_loopw [3, 4] (fun m c wr => ∃ (i : Nat) (n : Int), i ≤ l.length ∧ m = .int .i64 n ∧ c = .int .i64 i ∧ Hid (Fr (fun _ => False) w wr)) (fun _ c _ => l.length - (intOf c).toNat)
  case atStart => exact ⟨0, l.length, Nat.zero_le _, rfl, rfl, Fr.refl _ _⟩
  case round =>
    obtain ⟨i, n, hi, rfl, rfl, HR⟩ := hrel
    by_cases hlt : i < l.length
    · have hlt' : (i : Int) < l.length := by omega
      obtain ⟨o, ho⟩ : ∃ o, l[i]? = some o := ⟨_, List.getElem?_eq_getElem hlt⟩
      obtain ⟨g, off, rfl, hr⟩ := HL.out i o ho
      have c4 : wr.cell? ⟨g, off + i * 6 + 4, none⟩ = some (.string o.S) := HR.out.cell (hr 4 _ rfl) id
      have c5 : wr.cell? ⟨g, off + i * 6 + 5, none⟩ = some (.string o.T) := HR.out.cell (hr 5 _ rfl) id
      clear hr
      obtain ⟨n2, ew⟩ : ∃ n2, IntKind.i64.wrap (IntKind.i64.wrap (n + (o.S.size : Int)) + (o.T.size : Int)) = n2 := ⟨_, rfl⟩
      go_wp2
      go_still (by kernel_rfl)

      clear ew
      by_cases hgt : 16384 < n2
      · go_wp2
        go_ret
        exact ⟨false, rfl, (fun h => by cases h), HR.out.drew⟩
      · go_wp2
        go_roundw
        case rel => exact ⟨i + 1, n2, by omega, rfl, by go_num, HR.out.drew⟩
        case measure => simp [intOf]; omega
    · have hlt' : ¬ (i : Int) < l.length := by omega
      go_wp2
      go_ret
      exact ⟨true, rfl, (fun _ => by omega), HR.out⟩
end Go.Proofs.YthnmpgnaahkgkaaGreatDoor
