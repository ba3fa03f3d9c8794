import Derived.Test.YteebjgfalllbjaaGreatDoorCVbNeNg
import Derived.Test.YteebjgfalllbjaaGreatDoorCVeVfVg
namespace Go.Proofs.YteebjgfalllbjaaGreatDoor
open Go.RowKit
/-- A call of the partner. -/
structure CL where
  saga : Int
  step : Int
  back : Bool
  data : ByteArray
def CL.cs (c : CL) : List Value := [.int .i64 c.saga, .int .i64 c.step, .bool c.back, .string c.data]
set_option maxRecDepth 100000 in
set_option maxHeartbeats 1000000 in
theorem asked_ok (w : World) (a c : CL) : Calls Tryz.prog 133 #[.agg a.cs.toArray, .agg c.cs.toArray] w fun e w' => e = .returned (.bool (decide (a.saga = c.saga ∧ a.step = c.step ∧ a.back = c.back ∧ a.data = c.data))) ∧ Fr (fun _ => False) w w' := by
  obtain ⟨a1, a2, a3, a4⟩ := a
  obtain ⟨c1, c2, c3, c4⟩ := c
  unfold CL.cs
  go_enter Tryz.func133, Tryz.ntmps133
  go_wp2
  all_goals
    go_ret
    refine ⟨?_, ((Fr.refl _ _).alloc _).alloc _⟩
  · by_cases h : a4 = c4
    · rw [str_eq h]; simp [*]
    · rw [str_ne h]; simp [*]
  · simp [*]
  · simp [*]
  · simp [*]
end Go.Proofs.YteebjgfalllbjaaGreatDoor
namespace Go.Proofs.YteebjgfalllbjaaGreatDoor
open Go.RowKit
set_option maxRecDepth 100000 in
set_option maxHeartbeats 1000000 in
theorem Asks_ok {w : World} {r : RS} {k : Nat} {p : SS} (hst : RowsOf w r.sa 2 (r.st.map stv)) (hk : r.S.2 = (k : Int) + 1) (hp : r.st[k]? = some p) (hl : r.st.length ≤ 100) : Calls Tryz.prog 132 #[.agg r.cs.toArray] w fun e w' => e = .returned (.agg (CL.cs ⟨r.id, r.S.2, decide (r.S.1 = 2), if r.S.1 = 2 then p.2 else p.1⟩).toArray) ∧ Fr (fun _ => False) w w' := by
  obtain ⟨id, sa, sc, st, ⟨s1, s2⟩, tries, due, ma, mc, may⟩ := r
  obtain ⟨p1, p2⟩ := p
  have hk' : s2 = (k : Int) + 1 := hk
  have hkl := (List.getElem?_eq_some_iff.1 hp).1
  have hkl' : k < st.length := hkl
  have hl' : st.length ≤ 100 := hl
  obtain ⟨g, off, hsa, hr⟩ := hst k (stv (p1, p2)) (by rw [List.getElem?_map, hp]; rfl)
  have hsa' : sa = some ⟨g, off, none⟩ := hsa
  subst hsa' hk'
  have c0 : w.cell? ⟨g, off + k * 2, none⟩ = some (.string p1) := hr 0 _ rfl
  have c1 : w.cell? ⟨g, off + k * 2 + 1, none⟩ = some (.string p2) := hr 1 _ rfl
  have hgl : g < w.heap.size := World.block_lt_of_cell? w ⟨g, off + k * 2, none⟩ c0
  have d0 : ∀ A B C : Obj, (((w.alloc A).alloc B).alloc C).cell? ⟨g, off + k * 2, none⟩ = some (.string p1) := fun A B C => by
    rw [World.cell?_of_block (w := w)]; exact c0
    show (((w.alloc A).alloc B).alloc C).heap[g]? = w.heap[g]?
    rw [heap_alloc_lt _ _ _ (by simp; omega), heap_alloc_lt _ _ _ (by simp; omega), heap_alloc_lt _ _ _ hgl]
  have d1 : ∀ A B C : Obj, (((w.alloc A).alloc B).alloc C).cell? ⟨g, off + k * 2 + 1, none⟩ = some (.string p2) := fun A B C => by
    rw [World.cell?_of_block (w := w)]; exact c1
    show (((w.alloc A).alloc B).alloc C).heap[g]? = w.heap[g]?
    rw [heap_alloc_lt _ _ _ (by simp; omega), heap_alloc_lt _ _ _ (by simp; omega), heap_alloc_lt _ _ _ hgl]
  clear c0 c1
  have ek : wrap64 ((k : Int) + 1 - 1) = k := by rw [wrap64_id (by omega)]; omega
  clear hst hr hsa hp hk hl hkl
  have FIN : ∀ (A C : Obj) (cs : Array Value) (tmps : Array Value), tmps.getD 2 undef = .pointer (some ⟨w.heap.size + 1, 0, none⟩) → cs.size = 4 → (results Tryz.f132 tmps).run Tryz.prog (((w.alloc A).alloc (.cells cs 233)).alloc C) = .ok (.agg cs) (((w.alloc A).alloc (.cells cs 233)).alloc C) := fun A C cs tmps h4 h5 => by
    refine results_cell_row Tryz.results132 tmps _ (w.heap.size + 1) 233 cs (0, 0) _ h4 ?_ Tryz.underlying233 rfl (by rw [h5]; kernel_rfl)
    rw [heap_alloc_lt _ _ _ (by simp)]
    have := heap_alloc_at (w.alloc A) (.cells cs 233)
    simpa using this
  have FF : ∀ A B C : Obj, Fr (fun _ => False) w (((w.alloc A).alloc B).alloc C) := fun A B C => (((Fr.refl _ _).alloc _).alloc _).alloc _
  unfold RS.cs
  by_cases h2 : s1 = 2
  · rw [if_pos h2, decide_eq_true h2]
    subst h2
    unfold CL.cs
    go_enter Tryz.func132, Tryz.ntmps132
    go_wp2
    exact bodyPost_ret (FIN _ _ _ _ rfl rfl) rfl ⟨rfl, FF _ _ _⟩
  · rw [if_neg h2, decide_eq_false h2]
    unfold CL.cs
    go_enter Tryz.func132, Tryz.ntmps132
    go_wp2
    refine bodyPost_ret (FIN _ _ _ _ rfl rfl) rfl ⟨?_, FF _ _ _⟩
    simp
end Go.Proofs.YteebjgfalllbjaaGreatDoor
namespace Go.Proofs.YteebjgfalllbjaaGreatDoor
open Go.RowKit
/-- Where a reply moves a stand. -/
def ST.moved (s : ST) (reply : Int) : ST × Bool := if s.state = 1 then s.running reply else if s.state = 2 then s.undoing reply else (s, false)
def AS.moves (a : AS) (reply : Int) : Bool := decide (reply = 0 ∨ (reply = 2 ∧ a.S.1 = 1))
def AS.next (a : AS) (reply : Int) : SP := if a.S.1 = 1 ∧ reply = 0 then (if a.S.2 = a.st.length then (3, 0) else (1, a.S.2 + 1)) else backS a.S.2
def AS.go (a : AS) (reply : Int) : AS := ⟨a.id, a.st, a.next reply, 0, 0⟩
def waitD (p : Int) (n : Nat) : Int := if waitR p n > p then p else waitR p n
def AS.vain (a : AS) (clock pause : Int) : AS := ⟨a.id, a.st, a.S, a.tries + 1, clock + waitD pause a.tries.toNat⟩
def AS.open (a : AS) : Prop := a.S.1 = 1 ∨ a.S.1 = 2
instance (a : AS) : Decidable a.open := inferInstanceAs (Decidable (_ ∨ _))
/-- A saga stands where one may, at a clock. -/
structure AS.Ok (a : AS) (clock : Int) : Prop where
  s : a.S.1 = 1 ∨ a.S.1 = 2 ∨ a.S.1 = 3 ∨ a.S.1 = 4
  p : a.open → 1 ≤ a.S.2 ∧ a.S.2 ≤ a.st.length
  l1 : 1 ≤ a.st.length
  l6 : a.st.length ≤ 6
  t0 : 0 ≤ a.tries
  t1 : a.tries ≤ clock
/-- How many moves are left to a saga. -/
def AS.left (a : AS) : Nat := if a.S.1 = 1 then 2 * a.st.length - a.S.2.toNat else if a.S.1 = 2 then a.S.2.toNat else 0
theorem told_moved (a : AS) {clock : Int} (h : a.Ok clock) (reply : Int) : a.told.moved reply = if a.open ∧ a.moves reply = true then ((a.go reply).told, true) else (a.told, false) := by
  obtain ⟨id, st, ⟨s1, s2⟩, tries, due⟩ := a
  have hs : s1 = 1 ∨ s1 = 2 ∨ s1 = 3 ∨ s1 = 4 := h.s
  clear h
  rcases hs with rfl | rfl | rfl | rfl
  · by_cases h0 : reply = 0
    · subst h0
      by_cases h2 : s2 = st.length <;> simp [ST.moved, ST.running, AS.told, AS.open, AS.moves, AS.go, AS.next, ST.at, h2]
    · by_cases h2 : reply = 2
      · subst h2
        by_cases h1 : s2 = 1 <;> simp [ST.moved, ST.running, AS.told, AS.open, AS.moves, AS.go, AS.next, ST.at, ST.back, backS, h1]
      · simp [ST.moved, ST.running, AS.told, AS.open, AS.moves, h0, h2]
  · by_cases h0 : reply = 0
    · subst h0
      by_cases h1 : s2 = 1 <;> simp [ST.moved, ST.undoing, AS.told, AS.open, AS.moves, AS.go, AS.next, ST.at, ST.back, backS, h1]
    · simp [ST.moved, ST.undoing, AS.told, AS.open, AS.moves, h0]
  · simp [ST.moved, AS.told, AS.open]
  · simp [ST.moved, AS.told, AS.open]
theorem AS.Ok.vain {a : AS} {clock pause : Int} (h : a.Ok (clock - 1)) : (a.vain clock pause).Ok clock := ⟨h.s, h.p, h.l1, h.l6, by have := h.t0; show 0 ≤ a.tries + 1; omega, by have := h.t1; show a.tries + 1 ≤ clock; omega⟩
theorem AS.Ok.go {a : AS} {clock reply c : Int} (h : a.Ok c) (h0 : 0 ≤ clock) (ho : a.open) (hm : a.moves reply = true) : (a.go reply).Ok clock ∧ (a.go reply).left + 1 ≤ a.left := by
  obtain ⟨id, st, ⟨s1, s2⟩, tries, due⟩ := a
  have hs : s1 = 1 ∨ s1 = 2 := ho
  have hp : 1 ≤ s2 ∧ s2 ≤ st.length := h.p ho
  have hl1 := h.l1
  have hl6 := h.l6
  have hm' : reply = 0 ∨ (reply = 2 ∧ s1 = 1) := of_decide_eq_true hm
  simp only at hl1 hl6
  have key : ∀ S : SP, (S.1 = 1 ∨ S.1 = 2 ∨ S.1 = 3 ∨ S.1 = 4) → ((S.1 = 1 ∨ S.1 = 2) → 1 ≤ S.2 ∧ S.2 ≤ st.length) → AS.Ok ⟨id, st, S, 0, 0⟩ clock := fun S g1 g2 => ⟨g1, g2, hl1, hl6, Int.le_refl 0, h0⟩
  rcases hs with rfl | rfl
  · by_cases hr : reply = 0
    · subst hr
      by_cases h2 : s2 = st.length
      · have e : AS.go ⟨id, st, (1, s2), tries, due⟩ 0 = ⟨id, st, (3, 0), 0, 0⟩ := by simp [AS.go, AS.next, h2]
        rw [e]
        refine ⟨key _ (by simp) (by simp), ?_⟩
        simp [AS.left]; omega
      · have e : AS.go ⟨id, st, (1, s2), tries, due⟩ 0 = ⟨id, st, (1, s2 + 1), 0, 0⟩ := by simp [AS.go, AS.next, h2]
        rw [e]
        refine ⟨key _ (by simp) (fun _ => by simp only; omega), ?_⟩
        simp [AS.left]; omega
    · by_cases h1 : s2 = 1
      · have e : AS.go ⟨id, st, (1, s2), tries, due⟩ reply = ⟨id, st, (4, 0), 0, 0⟩ := by simp [AS.go, AS.next, backS, h1, hr]
        rw [e]
        refine ⟨key _ (by simp) (by simp), ?_⟩
        simp [AS.left]; omega
      · have e : AS.go ⟨id, st, (1, s2), tries, due⟩ reply = ⟨id, st, (2, s2 - 1), 0, 0⟩ := by simp [AS.go, AS.next, backS, h1, hr]
        rw [e]
        refine ⟨key _ (by simp) (fun _ => by simp only; omega), ?_⟩
        simp [AS.left]; omega
  · by_cases h1 : s2 = 1
    · have e : AS.go ⟨id, st, (2, s2), tries, due⟩ reply = ⟨id, st, (4, 0), 0, 0⟩ := by simp [AS.go, AS.next, backS, h1]
      rw [e]
      refine ⟨key _ (by simp) (by simp), ?_⟩
      simp [AS.left]; omega
    · have e : AS.go ⟨id, st, (2, s2), tries, due⟩ reply = ⟨id, st, (2, s2 - 1), 0, 0⟩ := by simp [AS.go, AS.next, backS, h1]
      rw [e]
      refine ⟨key _ (by simp) (fun _ => by simp only; omega), ?_⟩
      simp [AS.left]; omega
theorem AS.Ok.left1 {a : AS} {c : Int} (h : a.Ok c) (ho : a.open) : 1 ≤ a.left := by
  obtain ⟨id, st, ⟨s1, s2⟩, tries, due⟩ := a
  have hs : s1 = 1 ∨ s1 = 2 := ho
  have hp : 1 ≤ s2 ∧ s2 ≤ st.length := h.p ho
  rcases hs with rfl | rfl <;> simp [AS.left] <;> omega
/-- The bits of a pause. -/
def blen (p : Nat) : Nat := if p < 2 then 1 else if p < 4 then 2 else if p < 8 then 3 else if p < 16 then 4 else if p < 32 then 5 else if p < 64 then 6 else 7
theorem blen_le (p : Nat) : blen p ≤ 7 := by
  unfold blen
  repeat' split
  all_goals omega
theorem wait_small : ∀ p < 65, ∀ n < 8, 1 ≤ p → (min (2 ^ (min n (blen p))) p : Nat) = waitD (p : Int) n ∧ (p : Int) ≤ waitR p 7 := by decide
theorem wait_bl (p : Nat) (h1 : 1 ≤ p) (h2 : p ≤ 64) (n : Nat) : (min (2 ^ (min n (blen p))) p : Nat) = waitD (p : Int) n := by
  by_cases hn : n < 8
  · exact (wait_small p (by omega) n hn h1).1
  · have h7 := wait_small p (by omega) 7 (by omega) h1
    have e1 : min n (blen p) = min 7 (blen p) := by have := blen_le p; omega
    have e2 : waitR (p : Int) n = waitR p 7 := by
      have := waitR_stop (p : Int) 7 h7.2 (n - 7)
      rwa [show 7 + (n - 7) = n by omega] at this
    rw [e1, h7.1]
    unfold waitD
    rw [e2]
end Go.Proofs.YteebjgfalllbjaaGreatDoor
