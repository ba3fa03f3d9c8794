import Derived.Test.YthnmpgnaahkgkaaGreatDoorTop
import Derived.Deep.Slices
import Derived.ProofKit
namespace Go.Proofs.YthnmpgnaahkgkaaGreatDoor
open Go.ChangeShapes Go.WideShapes Go.RowKit Go.Deep

theorem cells_Op : Tryz.prog.cellsOf 27 = 6 := by kernel_rfl
theorem cells_int : Tryz.prog.cellsOf 3 = 1 := by kernel_rfl
theorem cells_string : Tryz.prog.cellsOf 9 = 1 := by kernel_rfl
theorem wf_i64 {n : Int} (h : (Lit.int .i64 n).wf = true) : i64ok n := by
  simp only [Lit.wf, Bool.and_eq_true, decide_eq_true_eq] at h
  exact h
section
variable {H : Type} {enc : TypeId × Value → H} {W : World}
set_option maxRecDepth 100000 in
/-- One step of a script, from its six cells. -/
theorem open_op {fuel : Nat} {a : Addr} {cs : List Value} {x : DataW H × List MemPlace} (h1 : W.cells? 0 a 6 = some cs) (h2 : DataW.trod enc Tryz.prog W 0 (fun _ => true) true fuel 27 cs = some x) :
    ∃ o : OR, o.ok ∧ ∀ j v, o.cs[j]? = some v → W.cell? (a.add j) = some v := by
  obtain ⟨_, hlen, hcell⟩ := World.cells?_some h1
  obtain ⟨xs, k, hk, hxy, _, hxl, hf⟩ := DataW.trod_struct Tryz.underlying27 h2
  match cs, hlen with
  | [v0, v1, v2, v3, v4, v5], _ =>
    have g0 := hf 0 (⟨ "Kind", 3, 0, false, "", "", 0⟩ : Field) rfl
    have g1 := hf 1 (⟨ "X", 3, 1, false, "", "", 8⟩ : Field) rfl
    have g2 := hf 2 (⟨ "A", 3, 2, false, "", "", 16⟩ : Field) rfl
    have g3 := hf 3 (⟨ "B", 3, 3, false, "", "", 24⟩ : Field) rfl
    have g4 := hf 4 (⟨ "S", 9, 4, false, "", "", 32⟩ : Field) rfl
    have g5 := hf 5 (⟨ "T", 9, 5, false, "", "", 48⟩ : Field) rfl
    simp only [cells_int, cells_string] at g0 g1 g2 g3 g4 g5
    have l6 : xs.length = 6 := hxl
    rw [List.getElem?_eq_getElem (by omega)] at g0 g1 g2 g3 g4 g5
    obtain ⟨z0, e0, _, w0⟩ := DataW.trod_int Tryz.underlying3 g0
    obtain ⟨z1, e1, _, w1⟩ := DataW.trod_int Tryz.underlying3 g1
    obtain ⟨z2, e2, _, w2⟩ := DataW.trod_int Tryz.underlying3 g2
    obtain ⟨z3, e3, _, w3⟩ := DataW.trod_int Tryz.underlying3 g3
    obtain ⟨s4, e4, _, _⟩ := DataW.trod_string Tryz.underlying9 g4
    obtain ⟨s5, e5, _, _⟩ := DataW.trod_string Tryz.underlying9 g5
    simp at e0 e1 e2 e3 e4 e5
    subst e0 e1 e2 e3 e4 e5
    refine ⟨⟨z0, z1, z2, z3, s4, s5⟩, ⟨wf_i64 w0, wf_i64 w1, wf_i64 w2, wf_i64 w3⟩, ?_⟩
    intro j v hv
    have hj : j < 6 := by
      have := (List.getElem?_eq_some_iff.1 hv).1
      simpa [OR.cs] using this
    rw [hcell j hj]
    exact hv
set_option maxRecDepth 100000 in
/-- The script that came in. -/
theorem open_ops {base : Nat} {v : Value} {d : DataW H} {ps : List MemPlace} (hv : Value.okWide Tryz.prog W .any base 22 v) (h : DataW.Trod enc Tryz.prog W 0 (fun _ => true) true 22 v d ps) :
    ∃ (ao : Option Addr) (cap : Nat) (l : List OR), v = .slice ao l.length cap ∧ Lies W ao l ∧ ∀ o ∈ l, o.ok := by
  obtain ⟨a0, len0, cap0, rfl⟩ := okWide_slice Tryz.underlying22 hv
  obtain ⟨fuel, h⟩ := h
  rcases open_slice Tryz.underlying22 h with ⟨h1, _⟩ | ⟨a, len, cap, m, n, D, Pl, h1, hb, hl, hm, hmm, _, hx⟩
  · simp [Value.cells] at h1
    obtain ⟨rfl, rfl, rfl⟩ := h1
    exact ⟨none, 0, [], rfl, fun i o ho => by simp at ho, fun o ho => absurd ho (by simp)⟩
  · simp [Value.cells] at h1
    obtain ⟨rfl, rfl, rfl⟩ := h1
    have hlm : len0 ≤ m := by rw [hmm]; simp; exact hl
    have each : ∀ i, i < len0 → ∃ o : OR, o.ok ∧ ∀ j v, o.cs[j]? = some v → W.cell? ((a.add (i * 6)).add j) = some v := by
      intro i hi
      obtain ⟨cs', c1, c2⟩ := hx i (by omega)
      rw [cells_Op] at c1
      exact open_op c1 c2
    have : Inhabited OR := ⟨⟨0, 0, 0, 0, ⟨#[]⟩, ⟨#[]⟩⟩⟩
    obtain ⟨f, hf⟩ := choose_lt each
    refine ⟨some a, cap0, (List.range len0).map f, by simp, ?_, ?_⟩
    · intro i o ho
      simp only [List.getElem?_map, Option.map_eq_some_iff] at ho
      obtain ⟨i', hi', rfl⟩ := ho
      have hi0 : i < len0 ∧ i' = i := by
        have := List.getElem?_eq_some_iff.1 hi'
        obtain ⟨q1, q2⟩ := this
        simp at q1 q2
        exact ⟨q1, q2.symm⟩
      obtain ⟨hi0, rfl⟩ := hi0
      have h00 := (hf 0 (by omega)).2 0 _ rfl
      have hsp : a.spot = none := by
        have := World.cell?_spot h00
        simpa [Addr.add] using this
      obtain ⟨g, off, spot⟩ := a
      simp only at hsp
      subst hsp
      refine ⟨g, off, rfl, fun j u hu => ?_⟩
      have := (hf i' hi0).2 j u hu
      rw [Addr.add_mid, Addr.add_mid] at this
      exact this
    · intro o ho
      simp only [List.mem_map, List.mem_range] at ho
      obtain ⟨i, hi, rfl⟩ := ho
      exact (hf i hi).1
end
end Go.Proofs.YthnmpgnaahkgkaaGreatDoor
