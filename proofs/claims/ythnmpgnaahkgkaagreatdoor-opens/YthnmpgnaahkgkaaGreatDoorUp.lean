import Derived.Test.YthnmpgnaahkgkaaGreatDoorSp
import Derived.BigQuiet
namespace Go.Proofs.YthnmpgnaahkgkaaGreatDoor
open Go.RowKit

/-- A step of a script. -/
structure OR where
  K : Int
  X : Int
  a : Int
  b : Int
  S : ByteArray
  T : ByteArray
def OR.cs (o : OR) : List Value := [.int .i64 o.K, .int .i64 o.X, .int .i64 o.a, .int .i64 o.b, .string o.S, .string o.T]
def i64ok (z : Int) : Prop := -9223372036854775808 ≤ z ∧ z ≤ 9223372036854775807
def OR.ok (o : OR) : Prop := i64ok o.K ∧ i64ok o.X ∧ i64ok o.a ∧ i64ok o.b
def ocells (l : List OR) : List Value := l.flatMap OR.cs
theorem OR.len (o : OR) : o.cs.length = 6 := rfl
theorem OR.one (o : OR) : ∀ v ∈ o.cs, v.oneCell' = true := by
  intro v hv
  simp only [OR.cs, List.mem_cons, List.not_mem_nil, or_false] at hv
  rcases hv with rfl | rfl | rfl | rfl | rfl | rfl <;> rfl
theorem ocells_len : ∀ l : List OR, (ocells l).length = l.length * 6
  | [] => rfl
  | o :: r => by
    have e : ocells (o :: r) = o.cs ++ ocells r := by simp [ocells]
    rw [e, List.length_append, ocells_len r, o.len]; simp; omega
theorem ocells_at : ∀ (l : List OR) (i : Nat) (o : OR), l[i]? = some o → ((ocells l).drop (i * 6)).take 6 = o.cs
  | [], i, o, h => by simp at h
  | p :: r, 0, o, h => by
    simp at h; subst h
    have e : ocells (p :: r) = p.cs ++ ocells r := by simp [ocells]
    rw [e, Nat.zero_mul, List.drop_zero, List.take_append_of_le_length (by rw [p.len]; exact Nat.le_refl _), List.take_of_length_le (by rw [p.len]; exact Nat.le_refl _)]
  | p :: r, i + 1, o, h => by
    have e : ocells (p :: r) = p.cs ++ ocells r := by simp [ocells]
    rw [e, List.drop_append, List.drop_of_length_le (by rw [p.len]; omega)]
    have e2 : (i + 1) * 6 - p.cs.length = i * 6 := by rw [p.len]; omega
    rw [e2]
    simpa using ocells_at r i o (by simpa using h)
theorem ocells_append (l r : List OR) : ocells (l ++ r) = ocells l ++ ocells r := by simp [ocells]
theorem range_ops {w : World} {bb g cap : Nat} {l : List OR} (h : w.ownsRow bb 27 6 (.slice (some ⟨g, 0, none⟩) l.length cap) l.length (ocells l)) {i : Nat} {o : OR} (hi : l[i]? = some o) : w.rangeAt g (i * 6) o.cs := by
  intro j v hv
  have hc := h.cells (g := g) rfl (i * 6 + j) v
  rw [← ocells_at l i o hi, List.getElem?_take] at hv
  split at hv
  · rw [List.getElem?_drop] at hv
    have := hc hv
    rwa [Addr.add_mid, Nat.zero_add] at this
  · cases hv

theorem step_any {w : World} {b0 W0 s : Nat} {qs : List DR} (h : Inv w b0 W0 s qs) (hs : s < 90000) (hG : GOk w) (hg : 0 < b0) (o : OR) (ho : o.ok) (hk : o.K < 7 ∨ o.K = 10 ∨ o.K = 11) :
    Calls Tryz.prog 10 #[.pointer (some ⟨W0, 0, none⟩), .agg o.cs.toArray] w fun e w' => OwnPost w b0 W0 s e w' := by
  obtain ⟨K, X, a, b, S, T⟩ := o
  obtain ⟨_, ⟨hX1, hX2⟩, ⟨ha1, ha2⟩, ⟨hb1, hb2⟩⟩ := ho
  simp only at hk hX1 hX2 ha1 ha2 hb1 hb2
  show Calls Tryz.prog 10 #[.pointer (some ⟨W0, 0, none⟩), .agg (opv K X a b S T)] w _
  by_cases h1 : 1 ≤ K ∧ K ≤ 6
  · exact step_own h hs K X a b S T h1.1 h1.2
  by_cases hq : 0 < qs.length
  · rcases hk with hk | rfl | rfl
    · exact step_low h K X a b S T (.inl (by omega))
    · exact step_fmt h hs hG hg X a b S T hX1 hX2 ha1 ha2 hb1 hb2 hq
    · exact step_open h hs hG hg X a b S T hX1 hX2 ha1 ha2 hb1 hb2 hq
  · have hn : qs = [] := List.eq_nil_of_length_eq_zero (by omega)
    rcases hk with hk | rfl | rfl
    · exact step_low h K X a b S T (.inl (by omega))
    · exact step_low h 10 X a b S T (.inr ⟨by omega, hn⟩)
    · exact step_low h 11 X a b S T (.inr ⟨by omega, hn⟩)

theorem op_size : (Tryz.prog.info? 27).map (·.size) = some 6 := by kernel_rfl
theorem inv_start (w : World) : Inv (w.alloc (.cells #[.slice none 0 0, .slice none 0 0, .slice none 0 0, .slice none 0 0, .slice none 0 0] 34)) w.heap.size w.heap.size 0 [] := by
  exact ⟨_, _, _, _, _, 0, 0, 0, [], [], [], [], ⟨heap_alloc_at _ _, World.ownsRow_nil _ _ _ _, World.ownsRow_nil _ _ _ _, World.ownsRow_nil _ _ _ _, World.ownsRow_nil _ _ _ _, World.ownsRow_nil _ _ _ _, (fun b hb => by simp [Value.ownBlock] at hb), (fun v hv => absurd hv (by simp)), (fun v hv => absurd hv (by simp)), Nat.le_refl _⟩, Nat.le_refl _, Nat.le_refl _, Nat.le_refl _, Nat.le_refl _, (fun q hq => absurd hq (by simp)), List.Pairwise.nil⟩

set_option maxRecDepth 100000 in
set_option maxHeartbeats 2000000 in
theorem upTo_ok {w : World} {bb : Nat} {v : Value} {l : List OR} (hv : w.ownsRow bb 27 6 v l.length (ocells l)) (hall : ∀ o ∈ l, o.ok ∧ (o.K < 7 ∨ o.K = 10 ∨ o.K = 11)) (hlen : l.length ≤ 16384) (hG : GOk w) (hg : 0 < w.heap.size) :
    Calls Tryz.prog 9 #[v] w fun e w' => e = .returned (.int .i64 (-1)) ∧ Below w.heap.size w w' := by
  obtain ⟨ao, cap, rfl⟩ := own_form hv
  have hI0 : Hid (∃ qs, Inv (w.alloc (.cells #[.slice none 0 0, .slice none 0 0, .slice none 0 0, .slice none 0 0, .slice none 0 0] 34)) w.heap.size w.heap.size 0 qs ∧ Below w.heap.size w (w.alloc (.cells #[.slice none 0 0, .slice none 0 0, .slice none 0 0, .slice none 0 0, .slice none 0 0] 34))) :=
    ⟨[], inv_start w, (Below.refl _ _).alloc (Nat.le_refl _) _⟩
  have HV : Hid (w.ownsRow bb 27 6 (.slice ao l.length cap) l.length (ocells l)) := hv
  have HA : Hid (∀ o ∈ l, o.ok ∧ (o.K < 7 ∨ o.K = 10 ∨ o.K = 11)) := hall
  have HG : Hid (GOk w) := hG
  clear hv hall hG
  obtain ⟨W0, HW0⟩ : ∃ W0, Hid (W0 = w.heap.size) := ⟨_, rfl⟩
  go_enter Tryz.func9, Tryz.ntmps9
  go_wp2
  go_loopw [4] (fun c wr => ∃ i : Nat, i ≤ l.length ∧ c = .int .i64 i ∧ Hid (∃ qs, Inv wr w.heap.size w.heap.size i qs ∧ Below w.heap.size w wr)) (fun c _ => l.length - (intOf c).toNat)
  case atStart => exact ⟨0, Nat.zero_le _, rfl, hI0⟩
  case round =>
    obtain ⟨i, hi, rfl, HR⟩ := hrel
    by_cases hlt : i < l.length
    · have hlt' : (i : Int) < l.length := by omega
      obtain ⟨o, ho⟩ : ∃ o, l[i]? = some o := ⟨_, List.getElem?_eq_getElem hlt⟩
      obtain ⟨g, cap', hv2, _, hgl⟩ := HV.out.form (by omega)
      simp only [Value.slice.injEq, true_and] at hv2
      obtain ⟨rfl, rfl⟩ := hv2
      obtain ⟨qs, hI, hB⟩ := HR.out
      have hr : wr.rangeAt g (i * 6) o.cs := fun j u hu => by
        rw [hB.cell (p := ⟨g, i * 6 + j, none⟩) hgl]; exact range_ops HV.out ho j u hu
      obtain ⟨hok, hkk⟩ := HA.out o (List.mem_of_getElem? ho)
      have HS := step_any hI (by omega) (HG.out.below hB hg) hg o hok hkk
      clear hI hok hkk
      go_wp2_with (first | (refine wpList_load_mid rfl 27 (.tmp 17) rfl g (i * 6) ?_ o.cs _ hr Tryz.underlying27 rfl ?_ ?_; rfl; (rw [op_size, o.len])))
      refine HS.mono ?_
      rintro e w2 ⟨qs', rfl, hI2, hB2⟩
      have HN : Hid (∃ qs, Inv w2 w.heap.size w.heap.size (i + 1) qs ∧ Below w.heap.size w w2) := ⟨qs', hI2, hB.trans hB2⟩
      clear HR hB hr HS hI2 hB2
      go_wp2
      go_roundw
      case rel => exact ⟨i + 1, by omega, by go_num, HN⟩
      case measure => simp [intOf]; omega
    · have hlt' : ¬ (i : Int) < l.length := by omega
      go_wp2
      go_ret
      obtain ⟨qs, _, hB⟩ := HR.out
      exact ⟨rfl, hB⟩
end Go.Proofs.YthnmpgnaahkgkaaGreatDoor
