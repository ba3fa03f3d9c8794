import Derived.Test.YteebjgfalllbjaaGreatDoorCKeKrKs
import Derived.ChangeSlices
import Derived.ChangeShapes
namespace Go.Proofs.YteebjgfalllbjaaGreatDoor
open Go.ChangeShapes Go.WideShapes Go.RowKit
theorem cells_intK : Tryz.prog.cellsOf 3 = 1 := by kernel_rfl
set_option maxRecDepth 100000 in
/-- A list of numbers that came in. -/
theorem open_list {H : Type} {enc : TypeId × Value → H} {W : World} {base : Nat} {v : Value} {d : DataW H} {ps : List MemPlace} (hv : Value.okWide Tryz.prog W .any base 24 v) (h : DataW.Trod enc Tryz.prog W 0 (fun _ => true) true 24 v d ps) :
    ∃ (la : Option Addr) (cap : Nat) (zs : List Int), v = .slice la zs.length cap ∧ IntsAt W la zs ∧ ∀ z ∈ zs, I64 z := by
  obtain ⟨a0, len0, cap0, rfl⟩ := okWide_slice Tryz.underlying24 hv
  obtain ⟨fuel, h⟩ := h
  rcases open_ints Tryz.underlying24 Tryz.underlying3 cells_intK h with ⟨h1, _⟩ | ⟨a, len, cap, zs, h1, hb, hl, hm, hzl, _, hc, hw⟩
  · simp [Value.cells] at h1
    obtain ⟨rfl, rfl, rfl⟩ := h1
    exact ⟨none, 0, [], rfl, fun i z hz => by simp at hz, fun z hz => by cases hz⟩
  · simp [Value.cells] at h1
    obtain ⟨rfl, rfl, rfl⟩ := h1
    have hzl' : zs.length = cap0 := by simpa using hzl
    have hlen : (zs.take len0).length = len0 := by rw [List.length_take]; omega
    refine ⟨some a, cap0, zs.take len0, by rw [hlen], fun i z hz => ?_, fun z hz => i64_wf (hw z (List.mem_of_mem_take hz))⟩
    have hi := (List.getElem?_eq_some_iff.1 hz).1
    rw [hlen] at hi
    have hz' : zs[i]? = some z := by rw [List.getElem?_take, if_pos hi] at hz; exact hz
    have hcell := hc i (by omega)
    have h0 := hc 0 (by omega)
    have hsp : a.spot = none := by
      have := World.cell?_spot h0
      simpa [Addr.add] using this
    obtain ⟨ab, ao, asp⟩ := a
    simp only at hsp
    subst hsp
    refine ⟨ab, ao, rfl, ?_⟩
    have e : zs.getD i 0 = z := by rw [List.getD_eq_getElem?_getD, hz']; rfl
    rw [e] at hcell
    rcases Nat.eq_zero_or_pos i with rfl | hi0
    · simpa [Addr.add] using hcell
    · simpa [Addr.add, show ¬ i = 0 by omega] using hcell
end Go.Proofs.YteebjgfalllbjaaGreatDoor
