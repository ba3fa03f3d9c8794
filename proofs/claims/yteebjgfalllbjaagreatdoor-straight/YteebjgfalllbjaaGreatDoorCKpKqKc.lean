import Derived.Test.YteebjgfalllbjaaGreatDoorCEaTnKb
import Derived.Test.YteebjgfalllbjaaGreatDoorCAs2
import Derived.Test.YteebjgfalllbjaaGreatDoorCAsTlLm
namespace Go.Proofs.YteebjgfalllbjaaGreatDoor
open Go.RowKit
def mine (id : Int) (eff : List CL) : List (Int × Bool) := (eff.filter (fun c => decide (c.saga = id))).map (fun c => (c.step, c.back))
def upL (k : Nat) : List (Int × Bool) := (List.range k).map fun i : Nat => ((i : Int) + 1, false)
def dnL (k j : Nat) : List (Int × Bool) := (List.range (k - j)).map fun i : Nat => ((k : Int) - i, true)
theorem upL_succ (k : Nat) : upL (k + 1) = upL k ++ [((k : Int) + 1, false)] := by simp [upL, List.range_succ]
theorem dnL_self (k : Nat) : dnL k k = [] := by simp [dnL]
theorem dnL_pred {k j : Nat} (h : j + 1 ≤ k) : dnL k j = dnL k (j + 1) ++ [((j : Int) + 1, true)] := by
 have e : k - j = (k - (j + 1)) + 1 := by omega
 rw [dnL, e, List.range_succ, List.map_append]
 simp only [dnL, List.map_cons, List.map_nil]
 congr 3
 omega
theorem mem_upL {k : Nat} {x : Int} {b : Bool} : (x, b) ∈ upL k ↔ b = false ∧ 1 ≤ x ∧ x ≤ k := by
 simp only [upL, List.mem_map, List.mem_range, Prod.mk.injEq]
 constructor
 ·rintro ⟨i, hi, rfl, rfl⟩; exact ⟨rfl, by omega, by omega⟩
 ·rintro ⟨rfl, h1, h2⟩; exact ⟨(x - 1).toNat, by omega, by omega, rfl⟩
theorem mem_dnL {k j : Nat} {x : Int} {b : Bool} : (x, b) ∈ dnL k j ↔ b = true ∧ (j : Int) < x ∧ x ≤ k := by
 simp only [dnL, List.mem_map, List.mem_range, Prod.mk.injEq]
 constructor
 ·rintro ⟨i, hi, rfl, rfl⟩; exact ⟨rfl, by omega, by omega⟩
 ·rintro ⟨rfl, h1, h2⟩; exact ⟨(k - x).toNat, by omega, by omega, rfl⟩
theorem mine_snoc (id : Int) (eff : List CL) (c : CL) : mine id (eff ++ [c]) = if c.saga = id then mine id eff ++ [(c.step, c.back)] else mine id eff := by
 unfold mine
 rw [List.filter_append, List.map_append]
 by_cases h : c.saga = id
 ·rw [if_pos h, List.filter_cons_of_pos (by simpa using h)]; rfl
 ·rw [if_neg h, List.filter_cons_of_neg (by simpa using h)]; simp
theorem any_mine (eff : List CL) (c : CL) : eff.any (·.same c) = decide ((c.step, c.back) ∈ mine c.saga eff) := by
 rw [Bool.eq_iff_iff, List.any_eq_true, decide_eq_true_eq]
 unfold mine
 rw [List.mem_map]
 constructor
 ·rintro ⟨e, he, hs⟩
  have hs' : e.saga = c.saga ∧ e.step = c.step ∧ e.back = c.back := of_decide_eq_true hs
  exact ⟨e, List.mem_filter.2 ⟨he, by simpa using hs'.1⟩, by rw [hs'.2.1, hs'.2.2]⟩
 ·rintro ⟨e, he, hs⟩
  obtain ⟨h1, h2⟩ := List.mem_filter.1 he
  simp only [Prod.mk.injEq] at hs
  exact ⟨e, h1, decide_eq_true ⟨by simpa using h2, hs.1, hs.2⟩⟩
def Shape (m : List (Int × Bool)) (n k j : Nat) : Prop := m = upL k ++ dnL k j ∧ j ≤ k ∧ k ≤ n ∧ (j < k → k < n)
def EffI (a : AS) (m : List (Int × Bool)) (nv : Bool) : Prop :=
 (a.S.1 = 1 ∧ nv = false ∧ ∃ j : Nat, a.S.2 = (j : Int) + 1 ∧ j + 1 ≤ a.st.length ∧ (m = upL j ∨ m = upL (j + 1))) ∨
 (a.S.1 = 3 ∧ nv = false ∧ m = upL a.st.length) ∨
 (a.S.1 = 2 ∧ nv = true ∧ ∃ k j : Nat, a.S.2 = (j : Int) + 1 ∧ j + 1 ≤ k ∧ k < a.st.length ∧ (m = upL k ++ dnL k (j + 1) ∨ m = upL k ++ dnL k j)) ∨
 (a.S.1 = 4 ∧ nv = true ∧ ∃ k : Nat, k < a.st.length ∧ m = upL k ++ dnL k 0)
theorem EffI.shape {a : AS} {m : List (Int × Bool)} {nv : Bool} (h : EffI a m nv) : ∃ k j, Shape m a.st.length k j ∧ (a.S.1 = 3 → k = a.st.length ∧ j = k) ∧ (a.S.1 = 4 → j = 0 ∧ k < a.st.length) := by
 rcases h with ⟨h1, _, j, _, h2, h3⟩ | ⟨h1, _, h2⟩ | ⟨h1, _, k, j, _, h2, h3, h4⟩ | ⟨h1, _, k, h2, h3⟩
 ·rcases h3 with h3 | h3
  ·exact ⟨j, j, ⟨by rw [dnL_self, List.append_nil]; exact h3, Nat.le_refl _, by omega, by omega⟩, by omega, by omega⟩
  ·exact ⟨j + 1, j + 1, ⟨by rw [dnL_self, List.append_nil]; exact h3, Nat.le_refl _, by omega, by omega⟩, by omega, by omega⟩
 ·exact ⟨_, _, ⟨by rw [dnL_self, List.append_nil]; exact h2, Nat.le_refl _, Nat.le_refl _, by omega⟩, by omega, by omega⟩
 ·rcases h4 with h4 | h4
  ·exact ⟨k, j + 1, ⟨h4, by omega, by omega, by omega⟩, by omega, by omega⟩
  ·exact ⟨k, j, ⟨h4, by omega, by omega, by omega⟩, by omega, by omega⟩
 ·exact ⟨k, 0, ⟨h3, Nat.zero_le _, by omega, by omega⟩, by omega, by omega⟩
theorem EffI.step {a : AS} {m : List (Int × Bool)} {nv : Bool} (h : EffI a m nv) (ho : a.open) (kk ck pause : Int) :
  EffI (a.after (askR kk (decide ((a.asks.step, a.asks.back) ∈ m)) a.asks.back) ck pause) (if decide ((a.asks.step, a.asks.back) ∈ m) = true ∨ kk = 3 ∨ kk = 5 then m else m ++ [(a.asks.step, a.asks.back)]) (nv || decide (askR kk (decide ((a.asks.step, a.asks.back) ∈ m)) a.asks.back = 2)) := by
 obtain ⟨id, st, ⟨s1, s2⟩, tries, due⟩ := a
 have hs : s1 = 1 ∨ s1 = 2 := ho
 rcases hs with rfl | rfl
 ·rcases h with ⟨_, h0, j, h1, h2, h3⟩ | ⟨h1, _⟩ | ⟨h1, _⟩ | ⟨h1, _⟩
  rotate_left
  ·simp at h1
  ·simp at h1
  ·simp at h1
  have h1' : s2 = (j : Int) + 1 := h1
  have h2' : j + 1 ≤ st.length := h2
  subst h0 h1'
  have hb : (AS.asks ⟨id, st, (1, (j : Int) + 1), tries, due⟩).back = false := rfl
  have hst : (AS.asks ⟨id, st, (1, (j : Int) + 1), tries, due⟩).step = (j : Int) + 1 := rfl
  rw [hb, hst]
  -- behind a step that is done
  have go0 : EffI (AS.go ⟨id, st, (1, (j : Int) + 1), tries, due⟩ (0 : Nat)) (upL (j + 1)) false := by
   by_cases hl : j + 1 = st.length
   ·refine .inr (.inl ⟨?_, rfl, by rw [hl]; rfl⟩)
    simp [AS.go, AS.next, show ((j : Int) + 1 = st.length) by omega]
   ·refine .inl ⟨?_, rfl, j + 1, ?_, ?_, .inl rfl⟩
    ·simp [AS.go, AS.next, show ¬ ((j : Int) + 1 = st.length) by omega]
    ·simp [AS.go, AS.next, show ¬ ((j : Int) + 1 = st.length) by omega]
    ·show j + 1 + 1 ≤ st.length; omega
  have vn : ∀ m', m' = upL j ∨ m' = upL (j + 1) → EffI (AS.vain ⟨id, st, (1, (j : Int) + 1), tries, due⟩ ck pause) m' false := fun m' hm => .inl ⟨rfl, rfl, j, rfl, h2, hm⟩
  have mv0 : (AS.moves ⟨id, st, (1, (j : Int) + 1), tries, due⟩ (0 : Nat)) = true := by simp [AS.moves]
  have mv1 : ¬ (AS.moves ⟨id, st, (1, (j : Int) + 1), tries, due⟩ (1 : Nat)) = true := by simp [AS.moves]
  have mv2 : (AS.moves ⟨id, st, (1, (j : Int) + 1), tries, due⟩ (2 : Nat)) = true := by simp [AS.moves]
  by_cases hd : ((j : Int) + 1, false) ∈ m
  ·have hm : m = upL (j + 1) := by
    rcases h3 with h3 | h3
    ·rw [h3, mem_upL] at hd; omega
    ·exact h3
   rw [decide_eq_true hd, if_pos (Or.inl rfl)]
   by_cases h34 : kk = 3 ∨ kk = 4
   ·have e : askR kk true false = 1 := by simp [askR, h34]
    rw [e, AS.after, if_neg mv1]
    exact vn m (.inr hm)
   ·have e : askR kk true false = 0 := by simp [askR, h34]
    rw [e, AS.after, if_pos mv0, hm]
    exact go0
  ·have hm : m = upL j := by
    rcases h3 with h3 | h3
    ·exact h3
    ·exact absurd (by rw [h3, mem_upL]; exact ⟨rfl, by omega, by push_cast; omega⟩) hd
   rw [decide_eq_false hd]
   by_cases k3 : kk = 3
   ·have e : askR kk false false = 1 := by simp [askR, k3]
    rw [e, AS.after, if_neg mv1, if_pos (.inr (.inl k3))]
    exact vn m (.inl hm)
   ·by_cases k5 : kk = 5
    ·have e : askR kk false false = 2 := by simp [askR, k5]
     rw [e, AS.after, if_pos mv2, if_pos (.inr (.inr k5)), hm]
     rcases Nat.eq_zero_or_pos j with rfl | hj
     ·refine .inr (.inr (.inr ⟨?_, rfl, 0, by show 0 < st.length; omega, by simp [upL, dnL]⟩))
      simp [AS.go, AS.next, backS]
     ·refine .inr (.inr (.inl ⟨?_, rfl, j, j - 1, ?_, by omega, by show j < st.length; omega, .inl ?_⟩))
      ·simp [AS.go, AS.next, backS, show ¬ ((j : Int) + 1 = 1) by omega]
      ·simp [AS.go, AS.next, backS, show ¬ ((j : Int) + 1 = 1) by omega]; omega
      ·rw [show j - 1 + 1 = j by omega, dnL_self, List.append_nil]
    ·rw [if_neg (by simp [k3, k5]), hm, ← upL_succ]
     by_cases k4 : kk = 4
     ·have e : askR kk false false = 1 := by simp [askR, k4]
      rw [e, AS.after, if_neg mv1]
      exact vn _ (.inr rfl)
     ·have e : askR kk false false = 0 := by simp [askR, k3, k4, k5]
      rw [e, AS.after, if_pos mv0]
      exact go0
 ·rcases h with ⟨h1, _⟩ | ⟨h1, _⟩ | ⟨_, h0, k, j, h1, h2, h3, h4⟩ | ⟨h1, _⟩
  ·simp at h1
  ·simp at h1
  rotate_left
  ·simp at h1
  have h1' : s2 = (j : Int) + 1 := h1
  have h3' : k < st.length := h3
  subst h0 h1'
  have hb : (AS.asks ⟨id, st, (2, (j : Int) + 1), tries, due⟩).back = true := rfl
  have hst : (AS.asks ⟨id, st, (2, (j : Int) + 1), tries, due⟩).step = (j : Int) + 1 := rfl
  rw [hb, hst, Bool.true_or]
  have go0 : EffI (AS.go ⟨id, st, (2, (j : Int) + 1), tries, due⟩ (0 : Nat)) (upL k ++ dnL k j) true := by
   rcases Nat.eq_zero_or_pos j with rfl | hj
   ·refine .inr (.inr (.inr ⟨?_, rfl, k, h3', rfl⟩))
    simp [AS.go, AS.next, backS]
   ·refine .inr (.inr (.inl ⟨?_, rfl, k, j - 1, ?_, by omega, h3', .inl (by rw [show j - 1 + 1 = j by omega])⟩))
    ·simp [AS.go, AS.next, backS, show ¬ ((j : Int) + 1 = 1) by omega]
    ·simp [AS.go, AS.next, backS, show ¬ ((j : Int) + 1 = 1) by omega]; omega
  have vn : ∀ m', m' = upL k ++ dnL k (j + 1) ∨ m' = upL k ++ dnL k j → EffI (AS.vain ⟨id, st, (2, (j : Int) + 1), tries, due⟩ ck pause) m' true := fun m' hm => .inr (.inr (.inl ⟨rfl, rfl, k, j, rfl, h2, h3, hm⟩))
  have mv0 : (AS.moves ⟨id, st, (2, (j : Int) + 1), tries, due⟩ (0 : Nat)) = true := by simp [AS.moves]
  have mv1 : ¬ (AS.moves ⟨id, st, (2, (j : Int) + 1), tries, due⟩ (1 : Nat)) = true := by simp [AS.moves]
  by_cases hd : ((j : Int) + 1, true) ∈ m
  ·have hm : m = upL k ++ dnL k j := by
    rcases h4 with h4 | h4
    ·rw [h4, List.mem_append, mem_upL, mem_dnL] at hd
     rcases hd with ⟨h, _⟩ | ⟨_, h, _⟩
     ·cases h
     ·push_cast at h; omega
    ·exact h4
   rw [decide_eq_true hd, if_pos (Or.inl rfl)]
   by_cases h34 : kk = 3 ∨ kk = 4
   ·have e : askR kk true true = 1 := by simp [askR, h34]
    rw [e, AS.after, if_neg mv1]
    exact vn m (.inr hm)
   ·have e : askR kk true true = 0 := by simp [askR, h34]
    rw [e, AS.after, if_pos mv0, hm]
    exact go0
  ·have hm : m = upL k ++ dnL k (j + 1) := by
    rcases h4 with h4 | h4
    ·exact h4
    ·exact absurd (by rw [h4, List.mem_append, mem_dnL]; exact .inr ⟨rfl, by omega, by omega⟩) hd
   rw [decide_eq_false hd]
   by_cases k3 : kk = 3
   ·have e : askR kk false true = 1 := by simp [askR, k3]
    rw [e, AS.after, if_neg mv1, if_pos (.inr (.inl k3))]
    exact vn m (.inl hm)
   ·by_cases k5 : kk = 5
    ·have e : askR kk false true = 1 := by simp [askR, k5]
     rw [e, AS.after, if_neg mv1, if_pos (.inr (.inr k5))]
     exact vn m (.inl hm)
    ·have hm2 : m ++ [((j : Int) + 1, true)] = upL k ++ dnL k j := by rw [hm, dnL_pred h2, List.append_assoc]
     rw [if_neg (by simp [k3, k5]), hm2]
     by_cases k4 : kk = 4
     ·have e : askR kk false true = 1 := by simp [askR, k4]
      rw [e, AS.after, if_neg mv1]
      exact vn _ (.inr rfl)
     ·have e : askR kk false true = 0 := by simp [askR, k3, k4, k5]
      rw [e, AS.after, if_pos mv0]
      exact go0
end Go.Proofs.YteebjgfalllbjaaGreatDoor
namespace Go.Proofs.YteebjgfalllbjaaGreatDoor
open Go.RowKit
def rlOf (r : List Int) (Z : Nat) : List Int := r ++ List.replicate Z 0
section
variable {Pp b0 Z : Nat} {r : List Int} (H : AskOk Pp b0 (rlOf r Z)) {ck pause : Int}
theorem tickOne_eff {a : AS} {s : PSt} {nv : Bool} (he : EffI a (mine a.id s.eff) nv) :
  let T := tickOne (ptn H) ck pause a s
  (∃ nv', EffI T.1 (mine a.id (PSt.eff T.2.1)) nv' ∧ (nv' = true ↔ nv = true ∨ ∃ p ∈ (PSt.log T.2.1).drop s.log.length, p.2 = 2)) ∧ (∀ id, id ≠ a.id → mine id (PSt.eff T.2.1) = mine id s.eff) ∧ ∃ x, PSt.log T.2.1 = s.log ++ x := by
 intro T
 have hT : T = tickOne (ptn H) ck pause a s := rfl
 clear_value T
 unfold tickOne at hT
 by_cases hd : a.open ∧ a.due ≤ ck
 ·rw [if_pos hd] at hT
  have hask : (ptn H).ask s a.asks = pAsk (rlOf r Z) s a.asks := rfl
  rw [hask] at hT
  obtain ⟨k, hk⟩ : ∃ k, k = kOf (rlOf r Z) s.at' := ⟨_, rfl⟩
  have hsg : a.asks.saga = a.id := rfl
  have hany : s.eff.any (·.same a.asks) = decide ((a.asks.step, a.asks.back) ∈ mine a.id s.eff) := by rw [any_mine, hsg]
  have hst := he.step hd.1 k ck pause
  obtain ⟨q, hq⟩ : ∃ q, q = askR k (decide ((a.asks.step, a.asks.back) ∈ mine a.id s.eff)) a.asks.back := ⟨_, rfl⟩
  have e1 : (pAsk (rlOf r Z) s a.asks).1 = q := by rw [hq, hk, ← hany]; rfl
  have e2 : PSt.eff (pAsk (rlOf r Z) s a.asks).2 = askE k (s.eff.any (·.same a.asks)) s.eff a.asks := by rw [hk]; rfl
  have e3 : PSt.log (pAsk (rlOf r Z) s a.asks).2 = s.log ++ [(a.asks, q)] := by rw [hq, hk, ← hany]; rfl
  rw [e1] at hT
  have g1 : T.1 = a.after q ck pause := by rw [hT]
  have g2 : T.2.1 = (pAsk (rlOf r Z) s a.asks).2 := by rw [hT]
  rw [g1, g2, e2, e3, hany]
  rw [← hq] at hst
  refine ⟨⟨nv || decide (q = 2), ?_, ?_⟩, ?_, _, rfl⟩
  ·have : mine a.id (askE k (decide ((a.asks.step, a.asks.back) ∈ mine a.id s.eff)) s.eff a.asks) = if decide ((a.asks.step, a.asks.back) ∈ mine a.id s.eff) = true ∨ k = 3 ∨ k = 5 then mine a.id s.eff else mine a.id s.eff ++ [(a.asks.step, a.asks.back)] := by
    unfold askE
    split
    ·rfl
    ·rw [mine_snoc, if_pos hsg]
   rw [this]
   exact hst
  ·rw [List.drop_left, Bool.or_eq_true, decide_eq_true_eq]
   simp
  ·intro id hid
   unfold askE
   split
   ·rfl
   ·rw [mine_snoc, if_neg (by rw [hsg]; exact fun e => hid e.symm)]
 ·rw [if_neg hd] at hT
  subst hT
  exact ⟨⟨nv, he, by simp⟩, fun _ _ => rfl, [], by simp⟩
theorem tickL_eff : ∀ (L : List AS) (s : PSt), L.Pairwise (fun a b => a.id < b.id) → (∀ a ∈ L, ∃ nv, EffI a (mine a.id s.eff) nv) →
  (∀ b ∈ (tickL (ptn H) ck pause L s).1, ∃ nv, EffI b (mine b.id (PSt.eff (tickL (ptn H) ck pause L s).2.1)) nv) ∧ ∀ id, (∀ a ∈ L, a.id ≠ id) → mine id (PSt.eff (tickL (ptn H) ck pause L s).2.1) = mine id s.eff := by
 intro L
 induction L with
 | nil => intro s _ _; exact ⟨(fun b hb => by cases hb), fun _ _ => rfl⟩
 | cons a l ih =>
  intro s hs he
  rw [List.pairwise_cons] at hs
  obtain ⟨nv, hnv⟩ := he a (by simp)
  obtain ⟨⟨nv', t1, _⟩, t2, _⟩ := tickOne_eff H (ck := ck) (pause := pause) hnv
  obtain ⟨T, hT⟩ : ∃ T, T = tickOne (ptn H) ck pause a s := ⟨_, rfl⟩
  have hid : T.1.id = a.id := by rw [hT]; exact (tickOne_id (ptn H) ck pause a s).1
  rw [← hT] at t1 t2
  obtain ⟨i1, i2⟩ := ih T.2.1 hs.2 (fun b hb => by
   obtain ⟨n2, h2⟩ := he b (by simp [hb])
   exact ⟨n2, by rw [t2 b.id (by have := hs.1 b hb; omega)]; exact h2⟩)
  have e : tickL (ptn H) ck pause (a :: l) s = (T.1 :: (tickL (ptn H) ck pause l T.2.1).1, (tickL (ptn H) ck pause l T.2.1).2.1, T.2.2 ++ (tickL (ptn H) ck pause l T.2.1).2.2) := by rw [hT]; rfl
  rw [e]
  refine ⟨fun b hb => ?_, fun id hid' => ?_⟩
  ·rcases List.mem_cons.1 hb with rfl | hb
   ·exact ⟨nv', by rw [hid, i2 a.id (fun b hb => by have := hs.1 b hb; omega)]; exact t1⟩
   ·exact i1 b hb
  ·rw [i2 id (fun b hb => hid' b (by simp [hb])), t2 id (fun e => hid' a (by simp) e.symm)]
end
end Go.Proofs.YteebjgfalllbjaaGreatDoor
namespace Go.Proofs.YteebjgfalllbjaaGreatDoor
open Go.RowKit
def I64 (z : Int) : Prop := -9223372036854775808 ≤ z ∧ z ≤ 9223372036854775807
theorem i64_wf {n : Int} (h : (Lit.int .i64 n).wf = true) : I64 n := by
 simp only [Lit.wf, Bool.and_eq_true, decide_eq_true_eq] at h
 exact h
def kpk (c n : Int) : Int := (if c < 0 then -(c + 1) else c) % n
theorem kpk_in (c n : Int) (hn : 0 < n) : 0 ≤ kpk c n ∧ kpk c n < n := ⟨Int.emod_nonneg _ (by omega), Int.emod_lt_of_pos _ hn⟩
theorem kPick_ok (c n : Int) (w : World) (h1 : -9223372036854775808 ≤ c) (h2 : c ≤ 9223372036854775807) (hn : 0 < n) (hn2 : n ≤ 1000000000000) :
  Calls Tryz.prog 19 #[.int .i64 c, .int .i64 n] w fun e w' => e = .returned (.int .i64 (kpk c n)) ∧ w' = w := by
 have hn0 : ¬ n = 0 := by omega
 by_cases hc : c < 0
 ·have ht : kpk c n = -(c + 1).tmod n := by
   rw [← Int.neg_tmod, kpk, if_pos hc, Int.tmod_eq_emod_of_nonneg (by omega)]
  have HT : Hid (kpk c n = -(c + 1).tmod n) := ht
  clear ht
  go_enter Tryz.func19, Tryz.ntmps19
  go_wp2
  go_ret
  exact ⟨by rw [HT.out]; rfl, rfl⟩
 ·have HT : Hid (kpk c n = c % n) := by show kpk c n = c % n; rw [kpk, if_neg hc]
  go_enter Tryz.func19, Tryz.ntmps19
  go_wp2
  go_ret
  exact ⟨by rw [HT.out]; rfl, rfl⟩
def kmn (c id : Int) : Nat := 1 + (kpk c 1048576 / (1 + 5 * id) % 6).toNat
theorem kmn_in (c id : Int) : 1 ≤ kmn c id ∧ kmn c id ≤ 6 := by
 have h1 : kpk c 1048576 / (1 + 5 * id) % 6 < 6 := Int.emod_lt_of_pos _ (by decide)
 unfold kmn
 omega
theorem kMany_ok (c id : Int) (w : World) (h1 : -9223372036854775808 ≤ c) (h2 : c ≤ 9223372036854775807) (hi : 0 ≤ id) (hi2 : id ≤ 1000) :
  Calls Tryz.prog 27 #[.int .i64 c, .int .i64 id] w fun e w' => e = .returned (.int .i64 (kmn c id)) ∧ w' = w := by
 obtain ⟨p, hp⟩ : ∃ p, p = kpk c 1048576 := ⟨_, rfl⟩
 obtain ⟨p0, p1⟩ := kpk_in c 1048576 (by decide)
 rw [← hp] at p0 p1
 have h0 : 0 ≤ p / (1 + 5 * id) := Int.ediv_nonneg p0 (by omega)
 have h3 : p / (1 + 5 * id) < 1048576 := Int.lt_of_le_of_lt (Int.ediv_le_self _ p0) p1
 have HE : Hid ((kmn c id : Int) = 1 + p / (1 + 5 * id) % 6) := by
  show (kmn c id : Int) = _
  have h4 : 0 ≤ p / (1 + 5 * id) % 6 := Int.emod_nonneg _ (by decide)
  rw [kmn, ← hp]; push_cast; omega
 rw [HE.out]
 have hd : (p.tdiv (1 + 5 * id)).tmod 6 = p / (1 + 5 * id) % 6 := by rw [Int.tdiv_eq_ediv_of_nonneg p0, Int.tmod_eq_emod_of_nonneg h0]
 have hne : ¬ 1 + 5 * id = 0 := by omega
 have HC := (kPick_ok c 1048576 w h1 h2 (by decide) (by decide))
 rw [← hp] at HC
 clear hp HE
 go_enter Tryz.func27, Tryz.ntmps27
 go_wp2_with fail
 refine HC.mono ?_
 rintro e w' ⟨rfl, rfl⟩
 go_wp2
 go_ret
 exact ⟨by first | rfl | (rw [← hd]; rfl), rfl⟩
end Go.Proofs.YteebjgfalllbjaaGreatDoor
