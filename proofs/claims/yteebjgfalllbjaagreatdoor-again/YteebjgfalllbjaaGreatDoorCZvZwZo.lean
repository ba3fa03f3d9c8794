import Derived.Test.YteebjgfalllbjaaGreatDoorCZsZmZp
import Derived.Test.YteebjgfalllbjaaGreatDoorCZnKfKg
import Derived.Test.YteebjgfalllbjaaGreatDoorCSaSvDv
import Derived.Test.YteebjgfalllbjaaGreatDoorCAeSeSu
namespace Go.Proofs.YteebjgfalllbjaaGreatDoor
open Go.RowKit
/-- A block that is no whole record, nor is one when sectors of it are wiped. -/
structure Torn (tl : List Value) : Prop where
  len : tl.length = 128
  k : ∃ b : Nat → Nat, (∀ i, i < 4 → tl[i * 32]? = some (.int .u8 (b i))) ∧ ∃ i, i < 4 ∧ b i = 0
theorem Torn.not {tl : List Value} (h : Torn tl) : ∃ b : Nat → Nat, (∀ i, i < 4 → tl[i * 32]? = some (.int .u8 (b i))) ∧ wholeK b = false := by
  obtain ⟨b, hb, i, hi, h0⟩ := h.k
  refine ⟨b, hb, ?_⟩
  unfold wholeK
  rw [decide_eq_false_iff_not]
  rintro ⟨h1, h2⟩
  have := h1 ⟨i, hi⟩
  simp only at this
  omega
theorem zB_get {i : Nat} (h : i < 128) : zB[i]? = some (.int .u8 0) := by unfold zB; rw [List.getElem?_replicate, if_pos h]
theorem U8s.one {l : List Value} (h : U8s l) : ∀ v ∈ l, v.oneCell' = true := fun v hv => by
  obtain ⟨k, _, rfl⟩ := h v hv; rfl
theorem zB_u8 : U8s zB := U8s.rep _
/-- A record, of bytes. -/
def RecU (r : List Value) : Prop := RecOk r ∧ U8s r
theorem torn_zB : Torn zB := ⟨zB_len, fun _ => 0, fun i hi => zB_get (by omega), 0, by decide, rfl⟩
/-- A journal: a head, records, a block that holds none, noughts. -/
structure LayJ (n m : Nat) (cont : List Value) (recs : List (List Value)) (tl : List Value) : Prop where
  nm : n ≤ m
  len : cont.length = m * 128
  one : U8s cont
  head : blkOf cont 0 = headB n
  get : ∀ (i : Nat) (r : List Value), recs[i]? = some r → blkOf cont (i + 1) = r
  tail : recs.length + 1 < n → blkOf cont (recs.length + 1) = tl ∧ Torn tl
  zero : ∀ i, recs.length + 1 < i → i < n → blkOf cont i = zB
section
variable {n m : Nat} {cont : List Value} {recs : List (List Value)} {tl : List Value}
theorem LayJ.lay (h : LayJ n m cont recs tl) : LayT n cont recs tl := ⟨⟨m, h.nm, h.len⟩, h.one.one, h.head, h.get, fun hn => (h.tail hn).1, fun hn => (h.tail hn).2.not, h.zero⟩
theorem LayJ.oneS (h : LayJ n m cont recs tl) {c : List Value} {o : Nat} (hc : U8s c) : U8s (splice cont o c) := fun v hv => by
  rcases mem_splice hv with hv | hv
  · exact h.one v hv
  · exact hc v hv
/-- Its end is wiped. -/
theorem LayJ.wipe (h : LayJ n m cont recs tl) (he : recs.length + 1 < n) : LayJ n m (splice cont ((recs.length + 1) * 128) zB) recs zB := by
  have hm := h.nm
  have hb : ∀ i, i < m → blkOf (splice cont ((recs.length + 1) * 128) zB) i = if recs.length + 1 = i then zB else blkOf cont i := fun i hi => blk_splice h.len zB_len (by omega) hi
  refine ⟨h.nm, by rw [splice_len (by rw [zB_len, h.len]; omega), h.len], h.oneS zB_u8, ?_, ?_, ?_, ?_⟩
  · rw [hb 0 (by omega), if_neg (by omega)]; exact h.head
  · intro i r hr
    have := (List.getElem?_eq_some_iff.1 hr).1
    rw [hb (i + 1) (by omega), if_neg (by omega)]; exact h.get i r hr
  · intro _
    rw [hb _ (by omega), if_pos rfl]; exact ⟨rfl, torn_zB⟩
  · intro i h1 h2
    rw [hb i (by omega), if_neg (by omega)]; exact h.zero i h1 h2
/-- A record is added. -/
theorem LayJ.add {r : List Value} (h : LayJ n m cont recs tl) (he : recs.length + 1 < n) (hl : r.length = 128) (ho : U8s r) : LayJ n m (splice cont ((recs.length + 1) * 128) r) (recs ++ [r]) zB := by
  have hm := h.nm
  have hb : ∀ i, i < m → blkOf (splice cont ((recs.length + 1) * 128) r) i = if recs.length + 1 = i then r else blkOf cont i := fun i hi => blk_splice h.len hl (by omega) hi
  refine ⟨h.nm, by rw [splice_len (by rw [hl, h.len]; omega), h.len], h.oneS ho, ?_, ?_, ?_, ?_⟩
  · rw [hb 0 (by omega), if_neg (by omega)]; exact h.head
  · intro i x hx
    have hlt := (List.getElem?_eq_some_iff.1 hx).1
    rw [List.length_append, List.length_singleton] at hlt
    rw [hb (i + 1) (by omega)]
    by_cases hi : recs.length = i
    · rw [if_pos (by omega)]
      rw [← hi, List.getElem?_append_right (Nat.le_refl _), Nat.sub_self] at hx
      simpa using hx
    · rw [if_neg (by omega)]
      rw [List.getElem?_append_left (by omega)] at hx
      exact h.get i x hx
  · rw [List.length_append, List.length_singleton]
    intro hn
    rw [hb _ (by omega), if_neg (by omega)]
    exact ⟨h.zero _ (by omega) hn, torn_zB⟩
  · rw [List.length_append, List.length_singleton]
    intro i h1 h2
    rw [hb i (by omega), if_neg (by omega)]; exact h.zero i (by omega) h2
end
/-- Writes of noughts behind a journal's end. -/
def ZW (n e : Nat) (ents : List (Nat × List Value)) : Prop := ∀ p ∈ ents, p = (e, zB) ∧ e < n
theorem ZW.snoc {n e : Nat} {ents : List (Nat × List Value)} (h : ZW n e ents) (he : e < n) : ZW n e (ents ++ [(e, zB)]) := fun p hp => by
  rcases List.mem_append.1 hp with hp | hp
  · exact h p hp
  · exact ⟨List.mem_singleton.1 hp, he⟩
theorem LayJ.wipes {n m : Nat} {recs : List (List Value)} : ∀ {ents : List (Nat × List Value)} {cont tl : List Value}, LayJ n m cont recs tl → ZW n (recs.length + 1) ents → (ents = [] ∧ lain cont ents = cont) ∨ LayJ n m (lain cont ents) recs zB
  | [], _, _, _, _ => .inl ⟨rfl, rfl⟩
  | p :: l, cont, tl, h, hz => by
    obtain ⟨rfl, he⟩ := hz p (by simp)
    have h1 := h.wipe he
    have e : lain cont ((recs.length + 1, zB) :: l) = lain (splice cont ((recs.length + 1) * 128) zB) l := rfl
    rw [e]
    rcases LayJ.wipes (ents := l) h1 (fun q hq => hz q (by simp [hq])) with ⟨_, h2⟩ | h2
    · rw [h2]; exact .inr h1
    · exact .inr h2
theorem LayJ.wipes' {n m : Nat} {recs : List (List Value)} {ents : List (Nat × List Value)} {cont tl : List Value} (h : LayJ n m cont recs tl) (hz : ZW n (recs.length + 1) ents) : ∃ tl', LayJ n m (lain cont ents) recs tl' := by
  rcases h.wipes hz with ⟨_, h1⟩ | h1
  · rw [h1]; exact ⟨tl, h⟩
  · exact ⟨zB, h1⟩
/-- How a journal stands on a disk: what is pending is noughts at its end; or its last record, ahead of such. -/
def JD (n : Nat) (s : DS) (recs : List (List Value)) : Prop :=
  (∃ tl, LayJ n s.d.cap s.bs recs tl ∧ ZW n (recs.length + 1) s.ents) ∨
  (∃ rs0 r es, recs = rs0 ++ [r] ∧ LayJ n s.d.cap s.bs rs0 zB ∧ s.ents = (rs0.length + 1, r) :: es ∧ ZW n (recs.length + 1) es ∧ RecU r ∧ rs0.length + 1 < n)
/-- .. where all records are sure. -/
def JZ (n : Nat) (s : DS) (recs : List (List Value)) : Prop := ∃ tl, LayJ n s.d.cap s.bs recs tl ∧ ZW n (recs.length + 1) s.ents
/-- .. and where all of it is sure, and noughts behind it. -/
def JSet (n : Nat) (s : DS) (recs : List (List Value)) : Prop := LayJ n s.d.cap s.bs recs zB ∧ s.ents = []
section
variable {n : Nat} {s : DS} {recs : List (List Value)}
theorem JZ.jd (h : JZ n s recs) : JD n s recs := .inl h
theorem JSet.jz (h : JSet n s recs) : JZ n s recs := ⟨zB, h.1, by rw [h.2]; exact fun p hp => absurd hp (by simp)⟩
theorem JZ.keep {s' : DS} (h : JZ n s recs) (h1 : s'.ents = s.ents) (h2 : s'.bs = s.bs) (h3 : s'.d.cap = s.d.cap) : JZ n s' recs := by
  unfold JZ
  rw [h1, h2, h3]; exact h
theorem JZ.wipe {s' : DS} (h : JZ n s recs) (he : recs.length + 1 < n) (h1 : s'.ents = s.ents ++ [(recs.length + 1, zB)]) (h2 : s'.bs = s.bs) (h3 : s'.d.cap = s.d.cap) : JZ n s' recs := by
  obtain ⟨tl, h4, h5⟩ := h
  exact ⟨tl, by rw [h2, h3]; exact h4, by rw [h1]; exact h5.snoc he⟩
theorem JSet.jd (h : JSet n s recs) : JD n s recs := .inl ⟨zB, h.1, by rw [h.2]; exact fun p hp => absurd hp (by simp)⟩
theorem JD.view (h : JD n s recs) : ∃ tl, LayJ n s.d.cap (lain s.bs s.ents) recs tl := by
  rcases h with ⟨tl, h1, h2⟩ | ⟨rs0, r, es, rfl, h1, h2, h3, h4, h5⟩
  · exact h1.wipes' h2
  · rw [h2]
    exact (h1.add h5 h4.1.1 h4.2).wipes' h3
theorem JD.keep {s' : DS} (h : JD n s recs) (h1 : s'.ents = s.ents) (h2 : s'.bs = s.bs) (h3 : s'.d.cap = s.d.cap) : JD n s' recs := by
  unfold JD
  rw [h1, h2, h3]; exact h
theorem JD.wipe {s' : DS} (h : JD n s recs) (he : recs.length + 1 < n) (h1 : s'.ents = s.ents ++ [(recs.length + 1, zB)]) (h2 : s'.bs = s.bs) (h3 : s'.d.cap = s.d.cap) : JD n s' recs ∧ LayJ n s'.d.cap (lain s'.bs s'.ents) recs zB := by
  rw [h1, h2, h3]
  have hl : ∀ ents, lain s.bs (ents ++ [(recs.length + 1, zB)]) = splice (lain s.bs ents) ((recs.length + 1) * 128) zB := fun ents => by simp [lain]
  obtain ⟨tl, hv⟩ := h.view
  refine ⟨?_, by rw [hl]; exact hv.wipe he⟩
  rcases h with ⟨tl, h4, h5⟩ | ⟨rs0, r, es, rfl, h4, h5, h6, h7, h8⟩
  · exact .inl ⟨tl, by rw [h2, h3]; exact h4, by rw [h1]; exact h5.snoc he⟩
  · exact .inr ⟨rs0, r, es ++ [((rs0 ++ [r]).length + 1, zB)], rfl, by rw [h2, h3]; exact h4, by rw [h1, h5]; rfl, h6.snoc he, h7, h8⟩
theorem JSet.pend {s' : DS} {r : List Value} (h : JSet n s recs) (he : recs.length + 1 < n) (hr : RecU r) (h1 : s'.ents = s.ents ++ [(recs.length + 1, r)]) (h2 : s'.bs = s.bs) (h3 : s'.d.cap = s.d.cap) : JD n s' (recs ++ [r]) ∧ LayJ n s'.d.cap (lain s'.bs s'.ents) (recs ++ [r]) zB := by
  have e : s'.ents = [(recs.length + 1, r)] := by rw [h1, h.2]; rfl
  refine ⟨.inr ⟨recs, r, [], rfl, by rw [h2, h3]; exact h.1, e, fun p hp => absurd hp (by simp), hr, he⟩, ?_⟩
  rw [e, h2, h3]
  exact h.1.add he hr.1.1 hr.2
/-- What it counts moves by a few. -/
structure Moved (k : Int) (a b : DP) : Prop where
  c0 : a.calls ≤ b.calls
  c1 : b.calls ≤ a.calls + k
  w0 : a.writes ≤ b.writes
  w1 : b.writes ≤ a.writes + k
  t0 : a.told ≤ b.told
  t1 : b.told ≤ a.told + k
  o : b.off = a.off
  l : b.lo = a.lo
  h : b.hi = a.hi
  c : b.cap = a.cap
theorem Moved.refl (a : DP) : Moved 0 a a := ⟨by omega, by omega, by omega, by omega, by omega, by omega, rfl, rfl, rfl, rfl⟩
theorem Moved.trans {a b c : DP} {k l : Int} (h : Moved k a b) (h' : Moved l b c) : Moved (k + l) a c := by
  obtain ⟨a1, a2, a3, a4, a5, a6, a7, a8, a9, a0⟩ := h
  obtain ⟨b1, b2, b3, b4, b5, b6, b7, b8, b9, b0⟩ := h'
  exact ⟨by omega, by omega, by omega, by omega, by omega, by omega, by omega, by omega, by omega, by omega⟩
theorem Moved.mono {a b : DP} {k l : Int} (h : Moved k a b) (hk : k ≤ l) : Moved l a b := by
  obtain ⟨a1, a2, a3, a4, a5, a6, a7, a8, a9, a0⟩ := h
  exact ⟨by omega, by omega, by omega, by omega, by omega, by omega, a7, a8, a9, a0⟩
theorem moved_next (a : DP) : Moved 1 a a.next := by
  have := a.told_next
  exact ⟨by show a.calls ≤ a.calls + 1; omega, by show a.calls + 1 ≤ a.calls + 1; omega, Int.le_refl _, by show a.writes ≤ a.writes + 1; omega, this.1, this.2, rfl, rfl, rfl, rfl⟩
theorem moved_wrote (a : DP) : Moved 1 a a.next.wrote := by
  have := a.told_next
  exact ⟨by show a.calls ≤ a.calls + 1; omega, by show a.calls + 1 ≤ a.calls + 1; omega, by show a.writes ≤ a.writes + 1; omega, by show a.writes + 1 ≤ a.writes + 1; omega, this.1, this.2, rfl, rfl, rfl, rfl⟩
theorem Moved.good {a b : DP} {k : Int} (h : Moved k a b) (hg : a.good) : b.good := ⟨by rw [h.o]; exact hg.1, by rw [h.h, h.l]; exact hg.2⟩
/-- A block is put: how the disk stands then. -/
theorem put_cases (s : DS) (i : Nat) (b : List Value) : Moved 2 s.d (s.put i b).2.d ∧ (s.d.good → (s.put i b).1 = true) ∧ (s.put i b).2.ents.length ≤ s.ents.length + 1 ∧
    (((s.put i b).1 = false ∧ (s.put i b).2.ents = s.ents ∧ (s.put i b).2.bs = s.bs) ∨ ((s.put i b).1 = false ∧ (s.put i b).2.ents = s.ents ++ [(i, b)] ∧ (s.put i b).2.bs = s.bs) ∨ ((s.put i b).1 = true ∧ (s.put i b).2.ents = [] ∧ (s.put i b).2.bs = lain s.bs (s.ents ++ [(i, b)]))) := by
  unfold DS.put
  by_cases h1 : s.d.bad = true
  · have e : s.store i b = (false, s.fail) := by unfold DS.store; rw [if_pos h1]
    rw [e]
    refine ⟨(moved_next s.d).mono (by decide), (fun hg => by rw [hg.bad] at h1; cases h1), Nat.le_succ _, .inl ⟨rfl, rfl, rfl⟩⟩
  · have e : s.store i b = (true, ⟨s.d.next.wrote, s.ents ++ [(i, b)], s.bs⟩) := by unfold DS.store; rw [if_neg h1]
    rw [e]
    simp only [if_true]
    unfold DS.secure
    by_cases h2 : s.d.next.wrote.bad = true
    · rw [if_pos h2]
      refine ⟨(moved_wrote s.d).trans (moved_next _), (fun hg => by have := ((moved_wrote s.d).good hg).bad; rw [this] at h2; cases h2), by simp [DS.fail], .inr (.inl ⟨rfl, rfl, rfl⟩)⟩
    · rw [if_neg h2]
      exact ⟨(moved_wrote s.d).trans (moved_next _), fun _ => rfl, Nat.zero_le _, .inr (.inr ⟨rfl, rfl, rfl⟩)⟩
theorem settle_jd {sb : Bool} (h : JD n s recs) (hs : sb = true → JSet n s recs) (he : recs.length + 1 < n) :
    Moved 2 s.d (settleD sb s (recs.length + 1)).2.d ∧ (s.d.good → (settleD sb s (recs.length + 1)).1 = true) ∧ (settleD sb s (recs.length + 1)).2.ents.length ≤ s.ents.length + 1 ∧ (JD n (settleD sb s (recs.length + 1)).2 recs ∧ (JZ n s recs → JZ n (settleD sb s (recs.length + 1)).2 recs)) ∧ ((settleD sb s (recs.length + 1)).1 = true → JSet n (settleD sb s (recs.length + 1)).2 recs) := by
  cases sb with
  | true => exact ⟨(Moved.refl _).mono (by decide), fun _ => rfl, Nat.le_succ _, ⟨h, fun h => h⟩, fun _ => hs rfl⟩
  | false =>
    have e : settleD false s (recs.length + 1) = s.put (recs.length + 1) zB := rfl
    rw [e]
    obtain ⟨p1, p2, p3, p4⟩ := put_cases s (recs.length + 1) zB
    refine ⟨p1, p2, p3, ?_⟩
    rcases p4 with ⟨q1, q2, q3⟩ | ⟨q1, q2, q3⟩ | ⟨q1, q2, q3⟩
    · exact ⟨⟨h.keep q2 q3 p1.c, fun h => h.keep q2 q3 p1.c⟩, (fun h => by rw [q1] at h; cases h)⟩
    · exact ⟨⟨(h.wipe he q2 q3 p1.c).1, fun h => h.wipe he q2 q3 p1.c⟩, fun h => by rw [q1] at h; cases h⟩
    · have h1 := (h.wipe (s' := ⟨s.d, s.ents ++ [(recs.length + 1, zB)], s.bs⟩) he rfl rfl rfl).2
      have h2 : JSet n (s.put (recs.length + 1) zB).2 recs := ⟨by rw [q3, p1.c]; exact h1, q2⟩
      exact ⟨⟨h2.jd, fun _ => h2.jz⟩, fun _ => h2⟩
theorem add_jd {sb : Bool} {r : List Value} (h : JD n s recs) (hs : sb = true → JSet n s recs) (he : recs.length + 1 < n) (hr : RecU r) :
    Moved 4 s.d (addD sb s (recs.length + 1) r).2.d ∧ (s.d.good → (addD sb s (recs.length + 1) r).1 = true) ∧ (addD sb s (recs.length + 1) r).2.ents.length ≤ s.ents.length + 2 ∧ ((addD sb s (recs.length + 1) r).1 = true → JSet n (addD sb s (recs.length + 1) r).2 (recs ++ [r])) ∧ (¬ (addD sb s (recs.length + 1) r).1 = true → (JD n (addD sb s (recs.length + 1) r).2 recs ∧ (JZ n s recs → JZ n (addD sb s (recs.length + 1) r).2 recs)) ∨ JD n (addD sb s (recs.length + 1) r).2 (recs ++ [r])) := by
  obtain ⟨a1, a2, a3, a4, a5⟩ := settle_jd h hs he
  unfold addD
  by_cases hok : (settleD sb s (recs.length + 1)).1 = true
  · rw [if_pos hok]
    have hS := a5 hok
    generalize (settleD sb s (recs.length + 1)).2 = s1 at *
    obtain ⟨p1, p2, p3, p4⟩ := put_cases s1 (recs.length + 1) r
    refine ⟨a1.trans p1, fun hg => p2 (a1.good hg), by omega, ?_⟩
    rcases p4 with ⟨q1, q2, q3⟩ | ⟨q1, q2, q3⟩ | ⟨q1, q2, q3⟩
    · exact ⟨(fun h => by rw [q1] at h; cases h), fun _ => .inl ⟨a4.1.keep q2 q3 p1.c, fun _ => hS.jz.keep q2 q3 p1.c⟩⟩
    · exact ⟨(fun h => by rw [q1] at h; cases h), fun _ => .inr (hS.pend he hr q2 q3 p1.c).1⟩
    · have h1 := (hS.pend (s' := ⟨s1.d, s1.ents ++ [(recs.length + 1, r)], s1.bs⟩) he hr rfl rfl rfl).2
      exact ⟨fun _ => ⟨by rw [q3, p1.c]; exact h1, q2⟩, fun h => absurd q1 h⟩
  · rw [if_neg hok]
    exact ⟨a1.mono (by decide), fun hg => absurd (a2 hg) hok, by show (settleD sb s (recs.length + 1)).2.ents.length ≤ _; omega, (fun h => by cases h), fun _ => .inl a4⟩
end
end Go.Proofs.YteebjgfalllbjaaGreatDoor
namespace Go.Proofs.YteebjgfalllbjaaGreatDoor
open Go.RowKit
theorem splice_get {b c : List Value} {o : Nat} (h : o + c.length ≤ b.length) (j : Nat) : (splice b o c)[j]? = if j < o then b[j]? else if j < o + c.length then c[j - o]? else b[j]? := by
  unfold splice
  have ho : (b.take o).length = o := by rw [List.length_take]; omega
  by_cases h1 : j < o
  · rw [if_pos h1, List.getElem?_append_left (by omega), List.getElem?_take_of_lt h1]
  · rw [if_neg h1, List.getElem?_append_right (by omega), ho]
    by_cases h2 : j < o + c.length
    · rw [if_pos h2, List.getElem?_append_left (by omega)]
    · rw [if_neg h2, List.getElem?_append_right (by omega), List.getElem?_drop]
      congr 1; omega
theorem blk_get {b : List Value} (i j : Nat) (hj : j < 128) : (blkOf b i)[j]? = b[i * 128 + j]? := by
  unfold blkOf
  rw [List.getElem?_take_of_lt hj, List.getElem?_drop]
theorem cutS_len {b dd : List Value} {a : Nat} {z : Int} (hd : dd.length = 128) (ha : a * 128 + 128 ≤ b.length) : ∀ t, t ≤ 4 → (cutS b a dd z t).length = b.length
  | 0, _ => rfl
  | t + 1, ht => by
    have ih := cutS_len (z := z) hd ha t (by omega)
    have hs := sect_len hd (t := t) (by omega)
    rw [cutS]
    split
    · rw [splice_len (by omega), ih]
    · exact ih
theorem cutS_get {b dd : List Value} {a : Nat} {z : Int} (hd : dd.length = 128) (ha : a * 128 + 128 ≤ b.length) : ∀ t, t ≤ 4 → ∀ j, (cutS b a dd z t)[j]? = if a * 128 ≤ j ∧ j < a * 128 + t * 32 ∧ bitZ z ((j - a * 128) / 32) = true then dd[j - a * 128]? else b[j]?
  | 0, _, j => by rw [if_neg (by omega)]; rfl
  | t + 1, ht, j => by
    have ih := cutS_get (z := z) hd ha t (by omega) j
    have hl := cutS_len (z := z) hd ha t (by omega)
    have hs := sect_len hd (t := t) (by omega)
    rw [cutS]
    by_cases hb : bitZ z t = true
    · rw [if_pos hb, splice_get (by omega), hs]
      by_cases h1 : j < a * 128 + t * 32
      · rw [if_pos h1, ih]
        by_cases h2 : a * 128 ≤ j ∧ bitZ z ((j - a * 128) / 32) = true
        · rw [if_pos ⟨h2.1, h1, h2.2⟩, if_pos ⟨h2.1, by omega, h2.2⟩]
        · rw [if_neg (fun h => h2 ⟨h.1, h.2.2⟩), if_neg (fun h => h2 ⟨h.1, h.2.2⟩)]
      · rw [if_neg h1]
        by_cases h2 : j < a * 128 + t * 32 + 32
        · have e : (j - a * 128) / 32 = t := by omega
          rw [if_pos h2, if_pos ⟨by omega, by omega, by rw [e]; exact hb⟩, List.getElem?_take_of_lt (by omega), List.getElem?_drop]
          congr 1; omega
        · rw [if_neg h2, if_neg (by omega), ih, if_neg (by omega)]
    · rw [if_neg hb, ih]
      by_cases h1 : a * 128 ≤ j ∧ j < a * 128 + t * 32 ∧ bitZ z ((j - a * 128) / 32) = true
      · rw [if_pos h1, if_pos ⟨h1.1, by omega, h1.2.2⟩]
      · rw [if_neg h1]
        by_cases h2 : a * 128 ≤ j ∧ j < a * 128 + (t + 1) * 32 ∧ bitZ z ((j - a * 128) / 32) = true
        · exfalso
          have h3 : ¬ j < a * 128 + t * 32 := fun h => h1 ⟨h2.1, h, h2.2.2⟩
          have e : (j - a * 128) / 32 = t := by omega
          rw [e] at h2
          exact hb h2.2.2
        · rw [if_neg h2]
section
variable {b dd : List Value} {a m : Nat} {z : Int}
theorem blk_cut_ne (hb : b.length = m * 128) (hd : dd.length = 128) (ha : a < m) {i : Nat} (hi : i ≠ a) : blkOf (cutS b a dd z 4) i = blkOf b i := by
  apply List.ext_getElem?
  intro j
  by_cases hj : j < 128
  · rw [blk_get _ _ hj, blk_get _ _ hj, cutS_get hd (by omega) 4 (Nat.le_refl _), if_neg (by omega)]
  · rw [List.getElem?_eq_none (by unfold blkOf; rw [List.length_take]; omega), List.getElem?_eq_none (by unfold blkOf; rw [List.length_take]; omega)]
theorem blk_cut (hb : b.length = m * 128) (hd : dd.length = 128) (ha : a < m) {j : Nat} (hj : j < 128) : (blkOf (cutS b a dd z 4) a)[j]? = if bitZ z (j / 32) = true then dd[j]? else (blkOf b a)[j]? := by
  have e : a * 128 + j - a * 128 = j := by omega
  rw [blk_get _ _ hj, blk_get _ _ hj, cutS_get hd (by omega) 4 (Nat.le_refl _), e]
  by_cases h : bitZ z (j / 32) = true
  · rw [if_pos h, if_pos ⟨by omega, by omega, h⟩]
  · rw [if_neg h, if_neg (fun h' => h h'.2.2)]
theorem cutS_u8 (hb : U8s b) (hd : U8s dd) : ∀ t, U8s (cutS b a dd z t)
  | 0, v, hv => hb v hv
  | t + 1, v, hv => by
    rw [cutS] at hv
    split at hv
    · rcases mem_splice hv with hv | hv
      · exact cutS_u8 hb hd t v hv
      · exact hd v (List.mem_of_mem_drop (List.mem_of_mem_take hv))
    · exact cutS_u8 hb hd t v hv
end
section
variable {n m : Nat} {cont : List Value} {recs : List (List Value)} {tl : List Value}
/-- A write of noughts behind the records, cut through. -/
theorem LayJ.cutW (h : LayJ n m cont recs tl) {a : Nat} (ha : recs.length + 1 ≤ a) (hn : a < n) (z : Int) : ∃ tl', LayJ n m (cutS cont a zB z 4) recs tl' := by
  have hm := h.nm
  have hne : ∀ i, i ≠ a → blkOf (cutS cont a zB z 4) i = blkOf cont i := fun i hi => blk_cut_ne h.len zB_len (by omega) hi
  have hat : ∀ j, j < 128 → (blkOf (cutS cont a zB z 4) a)[j]? = if bitZ z (j / 32) = true then zB[j]? else (blkOf cont a)[j]? := fun j hj => blk_cut h.len zB_len (by omega) hj
  have hlen : (cutS cont a zB z 4).length = m * 128 := by rw [cutS_len zB_len (by rw [h.len]; omega) 4 (Nat.le_refl _), h.len]
  have hone := cutS_u8 (a := a) (z := z) h.one zB_u8 4
  refine ⟨blkOf (cutS cont a zB z 4) (recs.length + 1), h.nm, hlen, hone, ?_, ?_, ?_, ?_⟩
  · rw [hne 0 (by omega)]; exact h.head
  · intro i r hr
    have := (List.getElem?_eq_some_iff.1 hr).1
    rw [hne _ (by omega)]; exact h.get i r hr
  · intro hl
    refine ⟨rfl, ?_⟩
    obtain ⟨h1, h2⟩ := h.tail hl
    by_cases e : recs.length + 1 = a
    · subst e
      obtain ⟨b, hb, i, hi, h0⟩ := h2.k
      refine ⟨blk_len hlen (by omega), fun j => if bitZ z j = true then 0 else b j, fun j hj => ?_, i, hi, ?_⟩
      · rw [hat _ (by omega), show j * 32 / 32 = j by omega]
        by_cases hz : bitZ z j = true
        · rw [if_pos hz, zB_get (by omega)]; simp [hz]
        · rw [if_neg hz, h1, hb j hj]; simp [hz]
      · show (if bitZ z i = true then 0 else b i) = 0
        split
        · rfl
        · exact h0
    · rw [hne _ e, h1]; exact h2
  · intro i h1 h2
    by_cases e : i = a
    · subst e
      apply List.ext_getElem?
      intro j
      by_cases hj : j < 128
      · rw [hat j hj, h.zero _ h1 h2]; split <;> rfl
      · rw [List.getElem?_eq_none (by unfold blkOf; rw [List.length_take]; omega), List.getElem?_eq_none (by rw [zB_len]; omega)]
    · rw [hne _ e]; exact h.zero i h1 h2
/-- A record cut through: it is not there, or it is whole. -/
theorem LayJ.cutR {r : List Value} (h : LayJ n m cont recs zB) (hn : recs.length + 1 < n) (hr : RecU r) (z : Int) : (∃ tl', LayJ n m (cutS cont (recs.length + 1) r z 4) recs tl') ∨ LayJ n m (cutS cont (recs.length + 1) r z 4) (recs ++ [r]) zB := by
  have hm := h.nm
  obtain ⟨⟨hrl, _, b, hb, _⟩, hru⟩ := hr
  have hne : ∀ i, i ≠ recs.length + 1 → blkOf (cutS cont (recs.length + 1) r z 4) i = blkOf cont i := fun i hi => blk_cut_ne h.len hrl (by omega) hi
  have hat : ∀ j, j < 128 → (blkOf (cutS cont (recs.length + 1) r z 4) (recs.length + 1))[j]? = if bitZ z (j / 32) = true then r[j]? else (blkOf cont (recs.length + 1))[j]? := fun j hj => blk_cut h.len hrl (by omega) hj
  have hlen : (cutS cont (recs.length + 1) r z 4).length = m * 128 := by rw [cutS_len hrl (by rw [h.len]; omega) 4 (Nat.le_refl _), h.len]
  have hone := cutS_u8 (a := recs.length + 1) (z := z) h.one hru 4
  have htl := (h.tail hn).1
  by_cases hall : ∀ i, i < 4 → bitZ z i = true
  · right
    have hbl : blkOf (cutS cont (recs.length + 1) r z 4) (recs.length + 1) = r := by
      apply List.ext_getElem?
      intro j
      by_cases hj : j < 128
      · rw [hat j hj, if_pos (hall _ (by omega))]
      · rw [List.getElem?_eq_none (by unfold blkOf; rw [List.length_take]; omega), List.getElem?_eq_none (by omega)]
    refine ⟨h.nm, hlen, hone, by rw [hne 0 (by omega)]; exact h.head, ?_, ?_, ?_⟩
    · intro i x hx
      have hlt := (List.getElem?_eq_some_iff.1 hx).1
      rw [List.length_append, List.length_singleton] at hlt
      by_cases hi : recs.length = i
      · rw [← hi, hbl]
        rw [← hi, List.getElem?_append_right (Nat.le_refl _), Nat.sub_self] at hx
        simpa using hx
      · rw [hne _ (by omega)]
        rw [List.getElem?_append_left (by omega)] at hx
        exact h.get i x hx
    · rw [List.length_append, List.length_singleton]
      intro hl
      rw [hne _ (by omega)]
      exact ⟨h.zero _ (by omega) hl, torn_zB⟩
    · rw [List.length_append, List.length_singleton]
      intro i h1 h2
      rw [hne _ (by omega)]; exact h.zero i (by omega) h2
  · left
    obtain ⟨i, hi, hbi⟩ : ∃ i, i < 4 ∧ bitZ z i = false := by
      refine Classical.byContradiction fun hc => hall fun i hi => ?_
      cases hz : bitZ z i with
      | true => rfl
      | false => exact absurd ⟨i, hi, hz⟩ hc
    refine ⟨blkOf (cutS cont (recs.length + 1) r z 4) (recs.length + 1), h.nm, hlen, hone, by rw [hne 0 (by omega)]; exact h.head, ?_, ?_, ?_⟩
    · intro j x hx
      have := (List.getElem?_eq_some_iff.1 hx).1
      rw [hne _ (by omega)]; exact h.get j x hx
    · intro _
      refine ⟨rfl, blk_len hlen (by omega), fun j => if bitZ z j = true then b j else 0, fun j hj => ?_, i, hi, ?_⟩
      · rw [hat _ (by omega), show j * 32 / 32 = j by omega]
        by_cases hz : bitZ z j = true
        · rw [if_pos hz, hb j hj]; simp [hz]
        · rw [if_neg hz, htl, zB_get (by omega)]; simp [hz]
      · show (if bitZ z i = true then b i else 0) = 0
        rw [hbi]; rfl
    · intro j h1 h2
      rw [hne _ (by omega)]; exact h.zero j h1 h2
/-- With other noughts behind it. -/
theorem LayJ.again (h : LayJ n m cont recs tl) (hn : recs.length < n) {m' : Nat} (hm' : n ≤ m') : LayJ n m' (cont.take (n * 128) ++ List.replicate ((m' - n) * 128) (Value.int .u8 0)) recs tl := by
  have hm := h.nm
  have hl : (cont.take (n * 128)).length = n * 128 := by rw [List.length_take, h.len]; omega
  have hb : ∀ i, i < n → blkOf (cont.take (n * 128) ++ List.replicate ((m' - n) * 128) (Value.int .u8 0)) i = blkOf cont i := by
    intro i hi
    apply List.ext_getElem?
    intro j
    by_cases hj : j < 128
    · rw [blk_get _ _ hj, blk_get _ _ hj, List.getElem?_append_left (by omega), List.getElem?_take_of_lt (by omega)]
    · rw [List.getElem?_eq_none (by unfold blkOf; rw [List.length_take]; omega), List.getElem?_eq_none (by unfold blkOf; rw [List.length_take]; omega)]
  refine ⟨hm', by rw [List.length_append, hl, List.length_replicate]; omega, fun v hv => ?_, by rw [hb 0 (by omega)]; exact h.head, ?_, ?_, ?_⟩
  · rcases List.mem_append.1 hv with hv | hv
    · exact h.one v (List.mem_of_mem_take hv)
    · exact ⟨0, by decide, (List.mem_replicate.1 hv).2⟩
  · intro i r hr
    have := (List.getElem?_eq_some_iff.1 hr).1
    rw [hb _ (by omega)]; exact h.get i r hr
  · intro hl; rw [hb _ hl]; exact h.tail hl
  · intro i h1 h2; rw [hb _ h2]; exact h.zero i h1 h2
theorem LayJ.cutZ {a : Nat} (ha : recs.length + 1 ≤ a) : ∀ (l : List ((Nat × List Value) × Int)) {cont tl : List Value}, (∀ q ∈ l, q.1 = (a, zB) ∧ a < n) → LayJ n m cont recs tl → ∃ tl', LayJ n m (cutL cont l) recs tl'
  | [], _, tl, _, h => ⟨tl, h⟩
  | (p, z) :: l, cont, tl, hq, h => by
    obtain ⟨rfl, hn⟩ := hq (p, z) (by simp)
    obtain ⟨tl', h1⟩ := h.cutW ha hn z
    exact LayJ.cutZ ha l (fun q hq' => hq q (by simp [hq'])) h1
theorem zw_zip {e : Nat} {ents : List (Nat × List Value)} (h : ZW n e ents) (zs : List Int) : ∀ q ∈ ents.zip zs, q.1 = (e, zB) ∧ e < n := fun q hq => h q.1 (List.of_mem_zip hq).1
theorem JZ.crash {s : DS} (h : JZ n s recs) (hl : recs.length < n) {m' : Nat} (hm' : n ≤ m') (zs : List Int) : ∃ tl', LayJ n m' (cutL (s.bs.take (n * 128) ++ List.replicate ((m' - n) * 128) (Value.int .u8 0)) (s.ents.zip zs)) recs tl' := by
  obtain ⟨tl, h1, h2⟩ := h
  exact LayJ.cutZ (Nat.le_refl _) (s.ents.zip zs) (zw_zip h2 zs) (h1.again hl hm')
/-- Behind a failure of power: the records are there, or all but the last one, which was pending. -/
theorem JD.crash {s : DS} (h : JD n s recs) (hl : recs.length < n) {m' : Nat} (hm' : n ≤ m') (zs : List Int) : ∃ recs' tl', LayJ n m' (cutL (s.bs.take (n * 128) ++ List.replicate ((m' - n) * 128) (Value.int .u8 0)) (s.ents.zip zs)) recs' tl' ∧ (recs' = recs ∨ (s.ents ≠ [] ∧ ∃ r, recs = recs' ++ [r])) := by
  rcases h with ⟨tl, h1, h2⟩ | ⟨rs0, r, es, rfl, h1, h2, h3, h4, h5⟩
  · obtain ⟨tl', h3⟩ := LayJ.cutZ (Nat.le_refl _) (s.ents.zip zs) (zw_zip h2 zs) (h1.again hl hm')
    exact ⟨recs, tl', h3, .inl rfl⟩
  · rw [List.length_append, List.length_singleton] at hl h3
    have h6 := h1.again (by omega) hm'
    have hne : s.ents ≠ [] := by rw [h2]; simp
    rw [h2]
    cases zs with
    | nil => exact ⟨rs0, zB, h6, .inr ⟨by simp, r, rfl⟩⟩
    | cons z zs =>
      have e : ∀ b : List Value, cutL b (((rs0.length + 1, r) :: es).zip (z :: zs)) = cutL (cutS b (rs0.length + 1) r z 4) (es.zip zs) := fun b => rfl
      rw [e]
      rcases h6.cutR h5 h4 z with ⟨tl', h7⟩ | h7
      · obtain ⟨tl'', h8⟩ := LayJ.cutZ (by omega) (es.zip zs) (zw_zip h3 zs) h7
        exact ⟨rs0, tl'', h8, .inr ⟨by simp, r, rfl⟩⟩
      · obtain ⟨tl'', h8⟩ := LayJ.cutZ (by rw [List.length_append, List.length_singleton]; omega) (es.zip zs) (zw_zip h3 zs) h7
        exact ⟨rs0 ++ [r], tl'', h8, .inl rfl⟩
end
end Go.Proofs.YteebjgfalllbjaaGreatDoor
namespace Go.Proofs.YteebjgfalllbjaaGreatDoor
open Go.RowKit
/-- An engine that may have failed. -/
def EngB (w : World) (X J R : Nat) (fl : Bool) (clock pause : Int) (cv : Value) : Prop := w.heap[X]? = some (.cells #[.pointer (some ⟨J, 0, none⟩), .pointer (some ⟨R, 0, none⟩), .bool fl, .int .i64 clock, .int .i64 pause, cv] 91 (0, 0))
set_option maxRecDepth 100000 in
theorem checked_tr {w : World} {X J R : Nat} {clock pause : Int} {cv : Value} (g : Nat) (h : EngAt w X J R clock pause cv) : Calls Tryz.prog 60 #[.pointer (some ⟨X, 0, none⟩), trV g] w fun e w' => e = .returned (trV g) ∧ EngB w' X J R true clock pause cv ∧ Fr (· = X) w w' := by
  have c2 : w.cell? ⟨X, 2, none⟩ = some (.bool false) := h.c rfl
  have f2 := frozen_of_row w X 2 _ _ h
  have HE : Hid (EngB (w.setCell ⟨X, 2, none⟩ (.bool true)) X J R true clock pause cv ∧ Fr (· = X) w (w.setCell ⟨X, 2, none⟩ (.bool true))) := ⟨heap_setCell_at w X 2 _ _ _ h, Fr.set1 _ _ _ _⟩
  unfold trV
  go_enter Tryz.func60, Tryz.ntmps60
  go_wp2
  go_ret
  exact ⟨rfl, HE.out⟩
set_option maxRecDepth 100000 in
set_option maxHeartbeats 4000000 in
theorem submit_gen {w : World} {X J R V A B n base dbase e g sc : Nat} {clock pause room : Int} {cv ev cache : Value} {es : List (Nat × AS)} {s : DS} {sb : Bool} (he : EngAt w X J R clock pause cv) (id : Int) (st : List SS) (hl : RowsOf w (some ⟨g, 0, none⟩) 2 (st.map stv)) (k : Nat) (hk : (k : Int) = id) (hj : JnG w J V A B n dbase cache s e sb) (hH : Hi dbase A B J) (hq : s.d.Q) (hq2 : (settleD sb s e).2.d.Q) (hel : s.ents.length < 800000) (hen : e < n) (hn4 : n ≤ 400) (HI : ItH e) (hG : GOk w) (hdis : ∀ b, RollF R ev es b → ¬ JnF A B J cache b ∧ b ≠ V ∧ b ≠ X) (hrm : room ≤ 1000) (hbase : base ≤ w.heap.size) (hRb0 : ev.ownBlock ≠ some R) (hRe : ∀ p ∈ es, p.1 ≠ R) (hse : ∀ p ∈ es, ev.ownBlock ≠ some p.1) (hr : RollAt w R base room ev es) (hs : Sorted es) (hn : es.length ≤ 100000) (hes6 : ∀ p ∈ es, p.2.st.length ≤ 6) (hok : sagaOk id st = true) (hno : ∀ p ∈ es, p.2.id ≠ id) (hroom : 2 * (st.length : Int) ≤ room) :
    Calls Tryz.prog 42 #[.pointer (some ⟨X, 0, none⟩), .int .i64 id, .slice (some ⟨g, 0, none⟩) st.length sc] w fun e' w' => ∃ v cache', e' = .returned v ∧ DSAt w' A B n dbase cache' (addD sb s e (ldB 2 (bodyS k st.length (six st) 6) 4)).2 ∧ CB w cache cache' ∧ VolAt w' V A n ∧ Fr (fun b => JnF A B J cache b ∨ b = R ∨ ev.ownBlock = some b ∨ b = X) w w' ∧ Sel (addD sb s e (ldB 2 (bodyS k st.length (six st) 6) 4)).1
      (v = .nilIface ∧ EngAt w' X J R clock pause cv ∧ JAt w' J V ((e : Int) + 1) true ∧ ∃ g' ev', RollAt w' R base (room - 2 * st.length) ev' (insE (g', newA id st) es) ∧ w.heap.size ≤ g' ∧ (∀ b, ev'.ownBlock = some b → ev.ownBlock = some b ∨ w.heap.size ≤ b))
      (EngB w' X J R true clock pause cv ∧ (∃ sb', JAt w' J V e sb') ∧ RollAt w' R base room ev es ∧ ∃ g, v = trV g ∧ TrAt w' g) := by
  have hlift : Tryz.prog.follows .mixedOrders = true := by kernel_rfl
  have hJl := lt_of_heap hj.j
  have hAl := hj.d.d.lt
  have hBl := lt_of_heap hj.d.r.1
  have hRl := lt_of_heap hr.r
  have nX : ¬ JnF A B J cache X := by
    rintro (h | h)
    · exact hj.d.not he (by decide) h
    · have := he; rw [h] at this; have := this.symm.trans hj.j; simp at this
  have hcl : ∀ b, cache.ownBlock = some b → b < w.heap.size := fun b hb => (hj.d.q.o.lt b hb).2
  have hnoJ : ∀ b, w.heap.size ≤ b → ¬ JnF A B J cache b := by
    rintro b hb ((e | e | e) | e)
    · omega
    · omega
    · have := hcl b e; omega
    · omega
  have c2 : w.cell? ⟨X, 2, none⟩ = some (.bool false) := he.c rfl
  obtain ⟨hid1, hid2, hn1, h6, h8⟩ := saga_of id st hok
  have hbl : (bodyS k st.length (six st) 6).length = 124 := bodyS_len k st.length (six st) (six_ok h8) 6 (by rw [six_len _ h6]; omega) (by omega)
  have hll : (ldB 2 (bodyS k st.length (six st) 6) 4).length = 128 := ldB_len 2 _ hbl 4 (by omega)
  go_enter Tryz.func42, Tryz.ntmps42
  go_wp2_with fail
  refine (NewSaga_ok hl id).mono ?_
  rintro e' w2 ⟨hns, hf2⟩
  rcases hns with ⟨_, rfl⟩ | ⟨hbad, _⟩
  case inr => rw [hok] at hbad; cases hbad
  obtain ⟨WS, hst, hrS, hfS⟩ := saga_box w2 id st h6
  have hFS : Fr (fun _ => False) w WS := hf2.trans hfS (fun _ _ h => h)
  have hrl := hr.frz hFS
  have heS : EngAt WS X J R clock pause cv := hFS.keep he (fun h => h)
  have c1S : WS.cell? ⟨X, 1, none⟩ = some (.pointer (some ⟨R, 0, none⟩)) := heS.c rfl
  have hFw2 := hf2
  clear hf2 hfS c2
  go_wp2_with (first | (refine wpList_store 122 (w' := WS) _ _ rfl rfl ?_ ?_; exact hst))
  refine (rollSaga_ok hrl hs hn hes6 id).mono ?_
  rintro e' w3 ⟨hsv, hf3⟩
  have hF3 : Fr (fun _ => False) w w3 := hFS.trans hf3 (fun _ _ h => h)
  have hr3 := hrl.frz hf3
  have he3 : EngAt w3 X J R clock pause cv := hf3.keep heS (fun h => h)
  have hs3 := hf3.keep hrS (fun h => h)
  clear hst hrS hrl heS c1S hf3 hFS
  rcases hsv with ⟨p, hp, hid, _⟩ | ⟨_, rfl⟩
  case inl => exact absurd hid (hno p hp)
  obtain ⟨W4, hst4, hr4, hf4⟩ := saga_box w3 0 [] (by simp)
  have hF4 : Fr (fun _ => False) w W4 := hF3.trans hf4 (fun _ _ h => h)
  have hs4 := hf4.keep hs3 (fun h => h)
  have hr5 := hr3.frz hf4
  have he5 : EngAt W4 X J R clock pause cv := hf4.keep he3 (fun h => h)
  have c15 : W4.cell? ⟨X, 1, none⟩ = some (.pointer (some ⟨R, 0, none⟩)) := he5.c rfl
  have hL4 := load14 hs4 h6
  have l2 := sagaC_len id st.length _ (six_len _ h6)
  have hM2 : W4.rangeAt w2.heap.size 0 (sagaC id st.length (six st)) := fun j v hv => (cell_of_row W4 _ (0 + j) _ _ _ hs4).trans (by simpa using hv)
  clear hr3 he3 hs3 hf4 hF3 hr4
  go_wp2_with (first | (refine wpList_store 122 (w' := W4) _ _ rfl rfl ?_ ?_; exact hst4) | (refine wpList_load_mid rfl 122 (.tmp 7) rfl w2.heap.size 0 ?_ _ _ hM2 Tryz.underlying122 rfl ?_ ?_; rfl; (rw [rsaga_size, l2])))
  obtain ⟨U, HU⟩ : ∃ U, Hid (U = W4.drew) := ⟨_, rfl⟩
  have hfU : Fr (fun _ => False) W4 U := by rw [HU.out]; exact (Fr.refl _ _).drew
  let S : World → Prop := fun w' => w'.cell? ⟨X, 1, none⟩ = some (.pointer (some ⟨R, 0, none⟩)) ∧ w'.heap[w2.heap.size]? = some (.cells (sagaC id st.length (six st)).toArray 122 (0, 0))
  have hS : S U := ⟨hfU.cell c15 (fun h => h), hfU.keep hs4 (fun h => h)⟩
  refine wp_region_held (S := S) hlift ?_
  change wpAnyH _ _ _ _ S _ _ _ (World.drew _)
  rw [← HU.out]
  clear HU
  refine tkE (S := S) (i := 0) (oi := ⟨some 40, .move (.tmp 0), _, _, _, none⟩) (v := .pointer (some ⟨X, 0, none⟩)) rfl hS ?_
  simp only [Act.put, lsE, lsZ, lsS]
  refine tkE (S := S) (i := 1) (oi := ⟨some 41, .nilCheck (.tmp 40), _, _, _, none⟩) (v := .pointer (some ⟨X, 0, none⟩)) rfl hS ?_
  simp only [Act.put, lsE, lsZ, lsS]
  refine tkE (S := S) (i := 2) (oi := ⟨some 42, .fieldAddr 91 (.tmp 41) 1, _, _, _, none⟩) (v := .pointer (some ⟨X, 1, none⟩)) rfl hS ?_
  simp only [Act.put, lsE, lsZ, lsS]
  refine tkY (S := S) (i := 3) (oi := ⟨some 43, .load 88 (.tmp 42), _, _, _, none⟩) (v := .pointer (some ⟨R, 0, none⟩)) rfl (Or.inl ⟨rfl, fun w' hs => exec_load 88 (.tmp 42) rfl ⟨X, 1, none⟩ rfl (run_loadAt_one hs.1 Tryz.underlying88 rfl)⟩) hS ?_
  simp only [Act.put, lsE, lsZ, lsS]
  refine tkY (S := S) (i := 4) (oi := ⟨some 44, .load 122 (.tmp 7), _, _, _, none⟩) (v := .agg (sagaC id st.length (six st)).toArray) rfl (Or.inl ⟨rfl, fun w' hs => exec_load 122 (.tmp 7) rfl ⟨w2.heap.size, 0, none⟩ rfl (load14 hs.2 h6)⟩) hS ?_
  simp only [Act.put, lsE, lsZ, lsS]
  refine wpAnyH_all (rs := [5]) (by kernel_rfl) (by simp) ?_
  intro i5 hi5
  obtain rfl : i5 = 5 := by simpa using hi5
  refine wpOp_call (o := ⟨some 45, .call { callee := .value (.func 59), args := #[(.tmp 43), (.tmp 44)], argTypes := _ }, _, _, _, none⟩) (f := 59) (args := #[.pointer (some ⟨R, 0, none⟩), .agg (sagaC id st.length (six st)).toArray]) rfl rfl (by kernel_rfl) ?_
  refine (Fits_ok (hr5.frz hfU) id st h6).mono ?_
  rintro e' w5 ⟨rfl, hf5⟩
  have hS5 : S w5 := ⟨hf5.cell hS.1 (fun h => h), hf5.keep hS.2 (fun h => h)⟩
  refine ⟨_, rfl, hS5, ?_⟩
  simp only [Act.put, lsE, lsZ, lsS]
  refine tkE (S := S) (i := 6) (oi := ⟨some 46, .unOp .not 4 (.tmp 45), _, _, _, none⟩) (v := .bool (!decide (2 * (st.length : Int) ≤ room))) rfl hS5 ?_
  simp only [Act.put, lsE, lsZ, lsS]
  refine wpAnyH_done (by kernel_rfl) ?_ _
  have hF5 : Fr (fun _ => False) w w5 := (hF4.trans hfU (fun _ _ h => h)).trans hf5 (fun _ _ h => h)
  have hr6 := (hr5.frz hfU).frz hf5
  have he6 : EngAt w5 X J R clock pause cv := hf5.keep (hfU.keep he5 (fun h => h)) (fun h => h)
  have hs6 := hS5.2
  clear hS hS5 hfU hf5 hF4 hr5 he5 hs4 c15 hM2
  rw [decide_eq_true hroom]
  go_wp2
  obtain ⟨Y, HY⟩ : ∃ Y, Hid (Y = w5.drew) := ⟨_, rfl⟩
  have hfY : Fr (fun _ => False) w5 Y := by rw [HY.out]; exact (Fr.refl _ _).drew
  let S2 : World → Prop := fun w' => w'.cell? ⟨X, 0, none⟩ = some (.pointer (some ⟨J, 0, none⟩)) ∧ w'.heap[w2.heap.size]? = some (.cells (sagaC id st.length (six st)).toArray 122 (0, 0))
  have hS : S2 Y := ⟨hfY.cell (he6.c rfl) (fun h => h), hfY.keep hs6 (fun h => h)⟩
  refine wp_region_held (S := S2) hlift ?_
  change wpAnyH _ _ _ _ S2 _ _ _ (World.drew _)
  rw [← HY.out]
  clear HY
  refine tkE (S := S2) (i := 0) (oi := ⟨some 48, .move (.tmp 0), _, _, _, none⟩) (v := .pointer (some ⟨X, 0, none⟩)) rfl hS ?_
  simp only [Act.put, lsE, lsZ, lsS]
  refine tkE (S := S2) (i := 1) (oi := ⟨some 49, .move (.tmp 0), _, _, _, none⟩) (v := .pointer (some ⟨X, 0, none⟩)) rfl hS ?_
  simp only [Act.put, lsE, lsZ, lsS]
  refine tkE (S := S2) (i := 2) (oi := ⟨some 50, .nilCheck (.tmp 49), _, _, _, none⟩) (v := .pointer (some ⟨X, 0, none⟩)) rfl hS ?_
  simp only [Act.put, lsE, lsZ, lsS]
  refine tkE (S := S2) (i := 3) (oi := ⟨some 51, .fieldAddr 91 (.tmp 50) 0, _, _, _, none⟩) (v := .pointer (some ⟨X, 0, none⟩)) rfl hS ?_
  simp only [Act.put, lsE, lsZ, lsS]
  refine tkY (S := S2) (i := 4) (oi := ⟨some 52, .load 87 (.tmp 51), _, _, _, none⟩) (v := .pointer (some ⟨J, 0, none⟩)) rfl (Or.inl ⟨rfl, fun w' hs => exec_load 87 (.tmp 51) rfl ⟨X, 0, none⟩ rfl (run_loadAt_one hs.1 Tryz.underlying87 rfl)⟩) hS ?_
  simp only [Act.put, lsE, lsZ, lsS]
  refine tkY (S := S2) (i := 5) (oi := ⟨some 53, .load 122 (.tmp 7), _, _, _, none⟩) (v := .agg (sagaC id st.length (six st)).toArray) rfl (Or.inl ⟨rfl, fun w' hs => exec_load 122 (.tmp 7) rfl ⟨w2.heap.size, 0, none⟩ rfl (load14 hs.2 h6)⟩) hS ?_
  simp only [Act.put, lsE, lsZ, lsS]
  refine wpAnyH_all (rs := [6]) (by kernel_rfl) (by simp) ?_
  intro i6 hi6
  obtain rfl : i6 = 6 := by simpa using hi6
  refine wpOp_call (o := ⟨some 54, .call { callee := .value (.func 62), args := #[(.tmp 53)], argTypes := _ }, _, _, _, none⟩) (f := 62) (args := #[.agg (sagaC id st.length (six st)).toArray]) rfl rfl (by kernel_rfl) ?_
  have HSB := sBlock_ok Y k st (by omega) h6 h8
  rw [hk] at HSB
  refine HSB.mono ?_
  rintro e' w6 ⟨rfl, hf6⟩
  have hS6 : S2 w6 := ⟨hf6.cell hS.1 (fun h => h), hf6.keep hS.2 (fun h => h)⟩
  have hF6 : Fr (fun _ => False) w w6 := (hF5.trans hfY (fun _ _ h => h)).trans hf6 (fun _ _ h => h)
  refine ⟨_, rfl, hS6, ?_⟩
  simp only [Act.put, lsE, lsZ, lsS]
  refine wpAnyH_all (rs := [7]) (by kernel_rfl) (by simp) ?_
  intro i7 hi7
  obtain rfl : i7 = 7 := by simpa using hi7
  refine wpOp_call (o := ⟨some 55, .call { callee := .value (.func 61), args := #[(.tmp 52), (.tmp 54)], argTypes := _ }, _, _, _, none⟩) (f := 61) (args := #[.pointer (some ⟨J, 0, none⟩), .agg (ldB 2 (bodyS k st.length (six st) 6) 4).toArray]) rfl rfl (by kernel_rfl) ?_
  have HADD := Add_gen (hj.frz hF6) hH hq hq2 hel hen hn4 HI (hG.fr hF6 (fun h => h)) hll (ldB_one 2 _ (bodyS_one _ _ _ _) 4)
  obtain ⟨aD, HAD⟩ : ∃ aD, Hid (aD = addD sb s e (ldB 2 (bodyS k st.length (six st) 6) 4)) := ⟨_, rfl⟩
  rw [← HAD.out] at HADD
  refine HADD.mono ?_
  rintro e' w7 ⟨v7, cache7, rfl, d7, cb7, vo7, hf7, r7⟩
  have hlW2 : w.heap.size ≤ w2.heap.size := hFw2.size
  have hS7 : S2 w7 := ⟨hf7.cell hS6.1 nX, hf7.keep hS6.2 (hnoJ _ hlW2)⟩
  have hr7 := (hr.frz hF6).fr hf7 (fun b hb h => (hdis b hb).1 h)
  have he7 : EngAt w7 X J R clock pause cv := hf7.keep (hF6.keep he (fun h => h)) nX
  have hF7 : Fr (JnF A B J cache) w w7 := (hF6.mono (fun _ _ h => h.elim)).trans hf7 (fun _ _ h => h)
  have cb7' : CB w cache cache7 := fun b hb => (cb7 b hb).imp_right (fun h => Nat.le_trans hF6.size h)
  have h1v : v7.oneCell' = true := by
    rcases r7.out with ⟨_, rfl, _⟩ | ⟨_, _, g, rfl, _⟩ <;> rfl
  refine ⟨_, rfl, hS7, ?_⟩
  simp only [Act.put, lsE, lsZ, lsS]
  rcases r7.out with ⟨ok7, rfl, j7⟩ | ⟨bad7, j7, g7, rfl, t7⟩
  ·
    refine wpAnyH_all (rs := [8]) (by kernel_rfl) (by simp) ?_
    intro i8 hi8
    obtain rfl : i8 = 8 := by simpa using hi8
    refine wpOp_call (o := ⟨some 56, .call { callee := .value (.func 60), args := #[(.tmp 48), (.tmp 55)], argTypes := _ }, _, _, _, none⟩) (f := 60) (args := #[.pointer (some ⟨X, 0, none⟩), .nilIface]) rfl rfl (by kernel_rfl) ?_
    refine (checked_nil _ _).mono ?_
    rintro e' w8 ⟨rfl, rfl⟩
    refine ⟨_, rfl, hS7, ?_⟩
    simp only [Act.put, lsE, lsZ, lsS]
    refine tkE (S := S2) (i := 9) (oi := ⟨some 11, .assign (.tmp 56), _, _, _, none⟩) (v := .nilIface) rfl hS7 ?_
    simp only [Act.put, lsE, lsZ, lsS]
    refine wpAnyH_done (by kernel_rfl) ?_ _
    clear hS hS6 hfY hf6 hf7 hF5 hF6 HSB
    have c17 : w8.cell? ⟨X, 1, none⟩ = some (.pointer (some ⟨R, 0, none⟩)) := he7.c rfl
    have hs7 := hS7.2
    clear hS7
    go_wp2
    obtain ⟨Z, HZ⟩ : ∃ Z, Hid (Z = w8.drew) := ⟨_, rfl⟩
    have hfZ : Fr (fun _ => False) w8 Z := by rw [HZ.out]; exact (Fr.refl _ _).drew
    let S3 : World → Prop := fun w' => w'.cell? ⟨X, 1, none⟩ = some (.pointer (some ⟨R, 0, none⟩)) ∧ w'.heap[w2.heap.size]? = some (.cells (sagaC id st.length (six st)).toArray 122 (0, 0))
    have hS : S3 Z := ⟨hfZ.cell c17 (fun h => h), hfZ.keep hs7 (fun h => h)⟩
    refine wp_region_held (S := S3) hlift ?_
    change wpAnyH _ _ _ _ S3 _ _ _ (World.drew _)
    rw [← HZ.out]
    clear HZ
    refine tkE (S := S3) (i := 0) (oi := ⟨some 60, .move (.tmp 0), _, _, _, none⟩) (v := .pointer (some ⟨X, 0, none⟩)) rfl hS ?_
    simp only [Act.put, lsE, lsZ, lsS]
    refine tkE (S := S3) (i := 1) (oi := ⟨some 61, .nilCheck (.tmp 60), _, _, _, none⟩) (v := .pointer (some ⟨X, 0, none⟩)) rfl hS ?_
    simp only [Act.put, lsE, lsZ, lsS]
    refine tkE (S := S3) (i := 2) (oi := ⟨some 62, .fieldAddr 91 (.tmp 61) 1, _, _, _, none⟩) (v := .pointer (some ⟨X, 1, none⟩)) rfl hS ?_
    simp only [Act.put, lsE, lsZ, lsS]
    refine tkY (S := S3) (i := 3) (oi := ⟨some 63, .load 88 (.tmp 62), _, _, _, none⟩) (v := .pointer (some ⟨R, 0, none⟩)) rfl (Or.inl ⟨rfl, fun w' hs => exec_load 88 (.tmp 62) rfl ⟨X, 1, none⟩ rfl (run_loadAt_one hs.1 Tryz.underlying88 rfl)⟩) hS ?_
    simp only [Act.put, lsE, lsZ, lsS]
    refine tkY (S := S3) (i := 4) (oi := ⟨some 64, .load 122 (.tmp 7), _, _, _, none⟩) (v := .agg (sagaC id st.length (six st)).toArray) rfl (Or.inl ⟨rfl, fun w' hs => exec_load 122 (.tmp 7) rfl ⟨w2.heap.size, 0, none⟩ rfl (load14 hs.2 h6)⟩) hS ?_
    simp only [Act.put, lsE, lsZ, lsS]
    refine wpAnyH_all (rs := [5]) (by kernel_rfl) (by simp) ?_
    intro i5 hi5
    obtain rfl : i5 = 5 := by simpa using hi5
    refine wpOp_call (o := ⟨some 65, .call { callee := .value (.func 63), args := #[(.tmp 63), (.tmp 64)], argTypes := _ }, _, _, _, none⟩) (f := 63) (args := #[.pointer (some ⟨R, 0, none⟩), .agg (sagaC id st.length (six st)).toArray]) rfl rfl (by kernel_rfl) ?_
    have hsz7 := hF7.size
    have hszZ := hfZ.size
    refine (Take_ok (hr7.frz hfZ) hs hn id st h6 hno hroom hrm (by omega) hRb0 hRe hse).mono ?_
    rintro e' wT ⟨gT, ev', rfl, hrT, hgT, hfT0, hob⟩
    have hfT : Fr (fun b => b = R ∨ ev.ownBlock = some b) w8 wT := (hfZ.mono (fun _ _ h => h.elim)).trans hfT0 (fun _ _ h => h)
    have hltE : ∀ b, ev.ownBlock = some b → b < w.heap.size := fun b hb' => by
      rcases hr.o.2 with ⟨rfl, _⟩ | ⟨g, cap, cur, rfl, _, hg, _⟩
      · cases hb'
      · cases hb'; exact lt_of_heap hg
    have hST : S3 wT := ⟨hfT.cell c17 (by rintro (h | h); exact (hdis _ (.inl h)).2.2 rfl; exact (hdis _ (.inr (.inl h))).2.2 rfl), hfT.keep hs7 (by rintro (h | h); omega; have := hltE _ h; omega)⟩
    have hob : ∀ b, ev'.ownBlock = some b → ev.ownBlock = some b ∨ Z.heap.size ≤ b := hob
    refine ⟨_, rfl, hST, ?_⟩
    simp only [Act.put, lsE, lsZ, lsS]
    refine wpAnyH_done (by kernel_rfl) ?_ _
    have hown : ∀ b, ev'.ownBlock = some b → ev.ownBlock = some b ∨ w.heap.size ≤ b := fun b hb => by
      rcases hob b hb with h | h
      · exact .inl h
      · have := hF7.size; exact .inr (by omega)
    have kT : ∀ {b : Nat} {o : Obj}, w8.heap[b]? = some o → (JnF A B J cache b ∨ b = V ∨ b = X ∨ w.heap.size ≤ b) → wT.heap[b]? = some o := fun hb h => hfT.keep hb (by
      rintro (e1 | e1)
      · have h3 := hdis _ (.inl e1)
        rcases h with h | h | h | h
        · exact h3.1 h
        · exact h3.2.1 h
        · exact h3.2.2 h
        · omega
      · have h3 := hdis _ (.inr (.inl e1))
        rcases h with h | h | h | h
        · exact h3.1 h
        · exact h3.2.1 h
        · exact h3.2.2 h
        · have := hltE _ e1; omega)
    have HD : Hid (DSAt wT A B n dbase cache7 aD.2) := d7.fr hfT (fun b hb h => by
      have hb' : JnF A B J cache b ∨ w.heap.size ≤ b := by
        rcases hb with hb | hb | hb
        · exact .inl (.inl (.inl hb))
        · exact .inl (.inl (.inr (.inl hb)))
        · rcases cb7' b hb with h1 | h1
          · exact .inl (.inl (.inr (.inr h1)))
          · exact .inr h1
      rcases h with h | h
      · rcases hb' with h1 | h1
        · exact (hdis _ (.inl h)).1 h1
        · omega
      · rcases hb' with h1 | h1
        · exact (hdis _ (.inr (.inl h))).1 h1
        · have := hltE _ h; omega)
    have HV : Hid (VolAt wT V A n) := kT vo7 (by simp)
    have HJ : Hid (JAt wT J V ((e : Int) + 1) true) := kT j7 (.inl (.inr rfl))
    have heT : EngAt wT X J R clock pause cv := kT he7 (by simp)
    have hFT : Fr (fun b => JnF A B J cache b ∨ b = R ∨ ev.ownBlock = some b ∨ b = X) w wT := (hF7.mono (fun b _ h => .inl h)).trans hfT (fun b _ h => by rcases h with h | h; exact .inr (.inl h); exact .inr (.inr (.inl h)))
    have hgw : w.heap.size ≤ gT := by have := hF7.size; omega
    have HRT : Hid (RollAt wT R base (room - 2 * st.length) ev' (insE (gT, newA id st) es)) := hrT
    clear kT hfT hrT hr7 he7 hF7 hS hST d7 vo7 j7
    go_wp2
    go_ret
    exact ⟨_, cache7, rfl, by rw [← HAD.out]; exact HD.out, cb7', HV.out, hFT, by rw [← HAD.out]; exact Sel.pos ok7 ⟨rfl, heT, HJ.out, gT, ev', HRT.out, hgw, hown⟩⟩
  ·
    refine wpAnyH_all (rs := [8]) (by kernel_rfl) (by simp) ?_
    intro i8 hi8
    obtain rfl : i8 = 8 := by simpa using hi8
    refine wpOp_call (o := ⟨some 56, .call { callee := .value (.func 60), args := #[(.tmp 48), (.tmp 55)], argTypes := _ }, _, _, _, none⟩) (f := 60) (args := #[.pointer (some ⟨X, 0, none⟩), trV g7]) rfl rfl (by kernel_rfl) ?_
    refine (checked_tr g7 he7).mono ?_
    rintro e' w8 ⟨rfl, eB, hf8⟩
    have hXl := lt_of_heap he
    have hS8 : S2 w8 := ⟨(cell_of_row _ _ 0 _ _ _ eB).trans rfl, hf8.keep hS7.2 (by omega)⟩
    refine ⟨_, rfl, hS8, ?_⟩
    simp only [Act.put, lsE, lsZ, lsS]
    refine tkE (S := S2) (i := 9) (oi := ⟨some 11, .assign (.tmp 56), _, _, _, none⟩) (v := trV g7) rfl hS8 ?_
    simp only [Act.put, lsE, lsZ, lsS]
    refine wpAnyH_done (by kernel_rfl) ?_ _
    have nXd : ∀ b, DkF A B cache7 b → ¬ b = X := fun b hb e => d7.not he7 (by decide) (e ▸ hb)
    have nXR : ∀ b, RollF R ev es b → ¬ b = X := fun b hb => (hdis b hb).2.2
    have HE : Hid (DSAt w8 A B n dbase cache7 aD.2 ∧ VolAt w8 V A n ∧ Fr (fun b => JnF A B J cache b ∨ b = R ∨ ev.ownBlock = some b ∨ b = X) w w8 ∧ (∃ sb', JAt w8 J V e sb') ∧ RollAt w8 R base room ev es ∧ TrAt w8 g7) := by
      refine ⟨d7.fr hf8 nXd, vo7.fr hf8 (fun h => by have := he7; rw [← h] at this; have := this.symm.trans vo7; simp at this), (hF7.mono (fun b _ h => .inl h)).trans hf8 (fun b _ h => .inr (.inr (.inr h))), ?_, hr7.fr hf8 nXR, t7.fr hf8 (fun b c t hb ht e => ?_)⟩
      · obtain ⟨sb', j7⟩ := j7
        exact ⟨sb', j7.fr hf8 (fun h => nX (.inr h.symm))⟩
      · subst e
        have := he7.symm.trans hb
        simp at this
        rw [← this.2] at ht
        revert ht; decide
    clear hS hS6 hS7 hS8 hfY hf6 hf7 hF5 hF6 HSB HADD
    unfold trV
    go_wp2
    go_ret
    obtain ⟨p1, p2, p3, p4, p5, p6⟩ := HE.out
    exact ⟨_, cache7, rfl, by rw [← HAD.out]; exact p1, cb7', p2, p3, by rw [← HAD.out]; exact Sel.neg bad7 ⟨eB, p4, p5, g7, rfl, p6⟩⟩
end Go.Proofs.YteebjgfalllbjaaGreatDoor
