import Derived.Test.YteebjgfalllbjaaGreatDoorCKfKgZv
import Derived.Test.YteebjgfalllbjaaGreatDoorCZmZpZn
import Derived.Test.YteebjgfalllbjaaGreatDoorCAeSeSu
import Derived.Test.YteebjgfalllbjaaGreatDoorCFoReAk
namespace Go.Proofs.YteebjgfalllbjaaGreatDoor
open Go.RowKit
theorem splice_get {b c : List Value} {o : Nat} (h : o + c.length ≤ b.length) (j : Nat) : (splice b o c)[j]? = if j < o then b[j]? else if j < o + c.length then c[j - o]? else b[j]? := by
 unfold splice
 have ho : (b.take o).length = o := by rw [List.length_take]; omega
 by_cases h1 : j < o
 ·rw [if_pos h1, List.getElem?_append_left (by omega), List.getElem?_take_of_lt h1]
 ·rw [if_neg h1, List.getElem?_append_right (by omega), ho]
  by_cases h2 : j < o + c.length
  ·rw [if_pos h2, List.getElem?_append_left (by omega)]
  ·rw [if_neg h2, List.getElem?_append_right (by omega), List.getElem?_drop]
   congr 1; omega
theorem blk_get {b : List Value} (i j : Nat) (hj : j < 128) : (blkOf b i)[j]? = b[i * 128 + j]? := by
 unfold blkOf
 rw [List.getElem?_take_of_lt hj, List.getElem?_drop]
theorem cutS_len {b dd : List Value} {a : Nat} {z : Int} (hd : dd.length = 128) (ha : a * 128 + 128 ≤ b.length) : ∀ t, t ≤ 4 → (cutS b a dd z t).length = b.length
 | 0, _ => rfl
 | t + 1, ht => by
  have ih := cutS_len (z := z) hd ha t (by omega)
  have hs := sect_len hd (t := t) (by omega)
  rw [cutS]
  split
  ·rw [splice_len (by omega), ih]
  ·exact ih
theorem cutS_get {b dd : List Value} {a : Nat} {z : Int} (hd : dd.length = 128) (ha : a * 128 + 128 ≤ b.length) : ∀ t, t ≤ 4 → ∀ j, (cutS b a dd z t)[j]? = if a * 128 ≤ j ∧ j < a * 128 + t * 32 ∧ bitZ z ((j - a * 128) / 32) = true then dd[j - a * 128]? else b[j]?
 | 0, _, j => by rw [if_neg (by omega)]; rfl
 | t + 1, ht, j => by
  have ih := cutS_get (z := z) hd ha t (by omega) j
  have hl := cutS_len (z := z) hd ha t (by omega)
  have hs := sect_len hd (t := t) (by omega)
  rw [cutS]
  by_cases hb : bitZ z t = true
  ·rw [if_pos hb, splice_get (by omega), hs]
   by_cases h1 : j < a * 128 + t * 32
   ·rw [if_pos h1, ih]
    by_cases h2 : a * 128 ≤ j ∧ bitZ z ((j - a * 128) / 32) = true
    ·rw [if_pos ⟨h2.1, h1, h2.2⟩, if_pos ⟨h2.1, by omega, h2.2⟩]
    ·rw [if_neg (fun h => h2 ⟨h.1, h.2.2⟩), if_neg (fun h => h2 ⟨h.1, h.2.2⟩)]
   ·rw [if_neg h1]
    by_cases h2 : j < a * 128 + t * 32 + 32
    ·have e : (j - a * 128) / 32 = t := by omega
     rw [if_pos h2, if_pos ⟨by omega, by omega, by rw [e]; exact hb⟩, List.getElem?_take_of_lt (by omega), List.getElem?_drop]
     congr 1; omega
    ·rw [if_neg h2, if_neg (by omega), ih, if_neg (by omega)]
  ·rw [if_neg hb, ih]
   by_cases h1 : a * 128 ≤ j ∧ j < a * 128 + t * 32 ∧ bitZ z ((j - a * 128) / 32) = true
   ·rw [if_pos h1, if_pos ⟨h1.1, by omega, h1.2.2⟩]
   ·rw [if_neg h1]
    by_cases h2 : a * 128 ≤ j ∧ j < a * 128 + (t + 1) * 32 ∧ bitZ z ((j - a * 128) / 32) = true
    ·exfalso
     have h3 : ¬ j < a * 128 + t * 32 := fun h => h1 ⟨h2.1, h, h2.2.2⟩
     have e : (j - a * 128) / 32 = t := by omega
     rw [e] at h2
     exact hb h2.2.2
    ·rw [if_neg h2]
section
variable {b dd : List Value} {a m : Nat} {z : Int}
theorem blk_cut_ne (hb : b.length = m * 128) (hd : dd.length = 128) (ha : a < m) {i : Nat} (hi : i ≠ a) : blkOf (cutS b a dd z 4) i = blkOf b i := by
 apply List.ext_getElem?
 intro j
 by_cases hj : j < 128
 ·rw [blk_get _ _ hj, blk_get _ _ hj, cutS_get hd (by omega) 4 (Nat.le_refl _), if_neg (by omega)]
 ·rw [List.getElem?_eq_none (by unfold blkOf; rw [List.length_take]; omega), List.getElem?_eq_none (by unfold blkOf; rw [List.length_take]; omega)]
theorem blk_cut (hb : b.length = m * 128) (hd : dd.length = 128) (ha : a < m) {j : Nat} (hj : j < 128) : (blkOf (cutS b a dd z 4) a)[j]? = if bitZ z (j / 32) = true then dd[j]? else (blkOf b a)[j]? := by
 have e : a * 128 + j - a * 128 = j := by omega
 rw [blk_get _ _ hj, blk_get _ _ hj, cutS_get hd (by omega) 4 (Nat.le_refl _), e]
 by_cases h : bitZ z (j / 32) = true
 ·rw [if_pos h, if_pos ⟨by omega, by omega, h⟩]
 ·rw [if_neg h, if_neg (fun h' => h h'.2.2)]
theorem cutS_u8 (hb : U8s b) (hd : U8s dd) : ∀ t, U8s (cutS b a dd z t)
 | 0, v, hv => hb v hv
 | t + 1, v, hv => by
  rw [cutS] at hv
  split at hv
  ·rcases mem_splice hv with hv | hv
   ·exact cutS_u8 hb hd t v hv
   ·exact hd v (List.mem_of_mem_drop (List.mem_of_mem_take hv))
  ·exact cutS_u8 hb hd t v hv
end
section
variable {n m : Nat} {cont : List Value} {recs : List (List Value)} {tl : List Value}
theorem LayJ.cutW (h : LayJ n m cont recs tl) {a : Nat} (ha : recs.length + 1 ≤ a) (hn : a < n) (z : Int) : ∃ tl', LayJ n m (cutS cont a zB z 4) recs tl' := by
 have hm := h.nm
 have hne : ∀ i, i ≠ a → blkOf (cutS cont a zB z 4) i = blkOf cont i := fun i hi => blk_cut_ne h.len zB_len (by omega) hi
 have hat : ∀ j, j < 128 → (blkOf (cutS cont a zB z 4) a)[j]? = if bitZ z (j / 32) = true then zB[j]? else (blkOf cont a)[j]? := fun j hj => blk_cut h.len zB_len (by omega) hj
 have hlen : (cutS cont a zB z 4).length = m * 128 := by rw [cutS_len zB_len (by rw [h.len]; omega) 4 (Nat.le_refl _), h.len]
 have hone := cutS_u8 (a := a) (z := z) h.one zB_u8 4
 refine ⟨blkOf (cutS cont a zB z 4) (recs.length + 1), h.nm, hlen, hone, ?_, ?_, ?_, ?_⟩
 ·rw [hne 0 (by omega)]; exact h.head
 ·intro i r hr
  have := (List.getElem?_eq_some_iff.1 hr).1
  rw [hne _ (by omega)]; exact h.get i r hr
 ·intro hl
  refine ⟨rfl, ?_⟩
  obtain ⟨h1, h2⟩ := h.tail hl
  by_cases e : recs.length + 1 = a
  ·subst e
   obtain ⟨b, hb, i, hi, h0⟩ := h2.k
   refine ⟨blk_len hlen (by omega), fun j => if bitZ z j = true then 0 else b j, fun j hj => ?_, i, hi, ?_⟩
   ·rw [hat _ (by omega), show j * 32 / 32 = j by omega]
    by_cases hz : bitZ z j = true
    ·rw [if_pos hz, zB_get (by omega)]; simp [hz]
    ·rw [if_neg hz, h1, hb j hj]; simp [hz]
   ·show (if bitZ z i = true then 0 else b i) = 0
    split
    ·rfl
    ·exact h0
  ·rw [hne _ e, h1]; exact h2
 ·intro i h1 h2
  by_cases e : i = a
  ·subst e
   apply List.ext_getElem?
   intro j
   by_cases hj : j < 128
   ·rw [hat j hj, h.zero _ h1 h2]; split <;> rfl
   ·rw [List.getElem?_eq_none (by unfold blkOf; rw [List.length_take]; omega), List.getElem?_eq_none (by rw [zB_len]; omega)]
  ·rw [hne _ e]; exact h.zero i h1 h2
theorem LayJ.cutR {r : List Value} (h : LayJ n m cont recs zB) (hn : recs.length + 1 < n) (hr : RecU r) (z : Int) : (∃ tl', LayJ n m (cutS cont (recs.length + 1) r z 4) recs tl') ∨ LayJ n m (cutS cont (recs.length + 1) r z 4) (recs ++ [r]) zB := by
 have hm := h.nm
 obtain ⟨⟨hrl, _, b, hb, _⟩, hru⟩ := hr
 have hne : ∀ i, i ≠ recs.length + 1 → blkOf (cutS cont (recs.length + 1) r z 4) i = blkOf cont i := fun i hi => blk_cut_ne h.len hrl (by omega) hi
 have hat : ∀ j, j < 128 → (blkOf (cutS cont (recs.length + 1) r z 4) (recs.length + 1))[j]? = if bitZ z (j / 32) = true then r[j]? else (blkOf cont (recs.length + 1))[j]? := fun j hj => blk_cut h.len hrl (by omega) hj
 have hlen : (cutS cont (recs.length + 1) r z 4).length = m * 128 := by rw [cutS_len hrl (by rw [h.len]; omega) 4 (Nat.le_refl _), h.len]
 have hone := cutS_u8 (a := recs.length + 1) (z := z) h.one hru 4
 have htl := (h.tail hn).1
 by_cases hall : ∀ i, i < 4 → bitZ z i = true
 ·right
  have hbl : blkOf (cutS cont (recs.length + 1) r z 4) (recs.length + 1) = r := by
   apply List.ext_getElem?
   intro j
   by_cases hj : j < 128
   ·rw [hat j hj, if_pos (hall _ (by omega))]
   ·rw [List.getElem?_eq_none (by unfold blkOf; rw [List.length_take]; omega), List.getElem?_eq_none (by omega)]
  refine ⟨h.nm, hlen, hone, by rw [hne 0 (by omega)]; exact h.head, ?_, ?_, ?_⟩
  ·intro i x hx
   have hlt := (List.getElem?_eq_some_iff.1 hx).1
   rw [List.length_append, List.length_singleton] at hlt
   by_cases hi : recs.length = i
   ·rw [← hi, hbl]
    rw [← hi, List.getElem?_append_right (Nat.le_refl _), Nat.sub_self] at hx
    simpa using hx
   ·rw [hne _ (by omega)]
    rw [List.getElem?_append_left (by omega)] at hx
    exact h.get i x hx
  ·rw [List.length_append, List.length_singleton]
   intro hl
   rw [hne _ (by omega)]
   exact ⟨h.zero _ (by omega) hl, torn_zB⟩
  ·rw [List.length_append, List.length_singleton]
   intro i h1 h2
   rw [hne _ (by omega)]; exact h.zero i (by omega) h2
 ·left
  obtain ⟨i, hi, hbi⟩ : ∃ i, i < 4 ∧ bitZ z i = false := by
   refine Classical.byContradiction fun hc => hall fun i hi => ?_
   cases hz : bitZ z i with
   | true => rfl
   | false => exact absurd ⟨i, hi, hz⟩ hc
  refine ⟨blkOf (cutS cont (recs.length + 1) r z 4) (recs.length + 1), h.nm, hlen, hone, by rw [hne 0 (by omega)]; exact h.head, ?_, ?_, ?_⟩
  ·intro j x hx
   have := (List.getElem?_eq_some_iff.1 hx).1
   rw [hne _ (by omega)]; exact h.get j x hx
  ·intro _
   refine ⟨rfl, blk_len hlen (by omega), fun j => if bitZ z j = true then b j else 0, fun j hj => ?_, i, hi, ?_⟩
   ·rw [hat _ (by omega), show j * 32 / 32 = j by omega]
    by_cases hz : bitZ z j = true
    ·rw [if_pos hz, hb j hj]; simp [hz]
    ·rw [if_neg hz, htl, zB_get (by omega)]; simp [hz]
   ·show (if bitZ z i = true then b i else 0) = 0
    rw [hbi]; rfl
  ·intro j h1 h2
   rw [hne _ (by omega)]; exact h.zero j h1 h2
theorem LayJ.again (h : LayJ n m cont recs tl) (hn : recs.length < n) {m' : Nat} (hm' : n ≤ m') : LayJ n m' (cont.take (n * 128) ++ List.replicate ((m' - n) * 128) (Value.int .u8 0)) recs tl := by
 have hm := h.nm
 have hl : (cont.take (n * 128)).length = n * 128 := by rw [List.length_take, h.len]; omega
 have hb : ∀ i, i < n → blkOf (cont.take (n * 128) ++ List.replicate ((m' - n) * 128) (Value.int .u8 0)) i = blkOf cont i := by
  intro i hi
  apply List.ext_getElem?
  intro j
  by_cases hj : j < 128
  ·rw [blk_get _ _ hj, blk_get _ _ hj, List.getElem?_append_left (by omega), List.getElem?_take_of_lt (by omega)]
  ·rw [List.getElem?_eq_none (by unfold blkOf; rw [List.length_take]; omega), List.getElem?_eq_none (by unfold blkOf; rw [List.length_take]; omega)]
 refine ⟨hm', by rw [List.length_append, hl, List.length_replicate]; omega, fun v hv => ?_, by rw [hb 0 (by omega)]; exact h.head, ?_, ?_, ?_⟩
 ·rcases List.mem_append.1 hv with hv | hv
  ·exact h.one v (List.mem_of_mem_take hv)
  ·exact ⟨0, by decide, (List.mem_replicate.1 hv).2⟩
 ·intro i r hr
  have := (List.getElem?_eq_some_iff.1 hr).1
  rw [hb _ (by omega)]; exact h.get i r hr
 ·intro hl; rw [hb _ hl]; exact h.tail hl
 ·intro i h1 h2; rw [hb _ h2]; exact h.zero i h1 h2
theorem LayJ.cutZ {a : Nat} (ha : recs.length + 1 ≤ a) : ∀ (l : List ((Nat × List Value) × Int)) {cont tl : List Value}, (∀ q ∈ l, q.1 = (a, zB) ∧ a < n) → LayJ n m cont recs tl → ∃ tl', LayJ n m (cutL cont l) recs tl'
 | [], _, tl, _, h => ⟨tl, h⟩
 | (p, z) :: l, cont, tl, hq, h => by
  obtain ⟨rfl, hn⟩ := hq (p, z) (by simp)
  obtain ⟨tl', h1⟩ := h.cutW ha hn z
  exact LayJ.cutZ ha l (fun q hq' => hq q (by simp [hq'])) h1
theorem zw_zip {e : Nat} {ents : List (Nat × List Value)} (h : ZW n e ents) (zs : List Int) : ∀ q ∈ ents.zip zs, q.1 = (e, zB) ∧ e < n := fun q hq => h q.1 (List.of_mem_zip hq).1
theorem JZ.crash {s : DS} (h : JZ n s recs) (hl : recs.length < n) {m' : Nat} (hm' : n ≤ m') (zs : List Int) : ∃ tl', LayJ n m' (cutL (s.bs.take (n * 128) ++ List.replicate ((m' - n) * 128) (Value.int .u8 0)) (s.ents.zip zs)) recs tl' := by
 obtain ⟨tl, h1, h2⟩ := h
 exact LayJ.cutZ (Nat.le_refl _) (s.ents.zip zs) (zw_zip h2 zs) (h1.again hl hm')
theorem JD.crash {s : DS} (h : JD n s recs) (hl : recs.length < n) {m' : Nat} (hm' : n ≤ m') (zs : List Int) : ∃ recs' tl', LayJ n m' (cutL (s.bs.take (n * 128) ++ List.replicate ((m' - n) * 128) (Value.int .u8 0)) (s.ents.zip zs)) recs' tl' ∧ (recs' = recs ∨ (s.ents ≠ [] ∧ ∃ r, recs = recs' ++ [r])) := by
 rcases h with ⟨tl, h1, h2⟩ | ⟨rs0, r, es, rfl, h1, h2, h3, h4, h5⟩
 ·obtain ⟨tl', h3⟩ := LayJ.cutZ (Nat.le_refl _) (s.ents.zip zs) (zw_zip h2 zs) (h1.again hl hm')
  exact ⟨recs, tl', h3, .inl rfl⟩
 ·rw [List.length_append, List.length_singleton] at hl h3
  have h6 := h1.again (by omega) hm'
  have hne : s.ents ≠ [] := by rw [h2]; simp
  rw [h2]
  cases zs with
  | nil => exact ⟨rs0, zB, h6, .inr ⟨by simp, r, rfl⟩⟩
  | cons z zs =>
   have e : ∀ b : List Value, cutL b (((rs0.length + 1, r) :: es).zip (z :: zs)) = cutL (cutS b (rs0.length + 1) r z 4) (es.zip zs) := fun b => rfl
   rw [e]
   rcases h6.cutR h5 h4 z with ⟨tl', h7⟩ | h7
   ·obtain ⟨tl'', h8⟩ := LayJ.cutZ (by omega) (es.zip zs) (zw_zip h3 zs) h7
    exact ⟨rs0, tl'', h8, .inr ⟨by simp, r, rfl⟩⟩
   ·obtain ⟨tl'', h8⟩ := LayJ.cutZ (by rw [List.length_append, List.length_singleton]; omega) (es.zip zs) (zw_zip h3 zs) h7
    exact ⟨rs0 ++ [r], tl'', h8, .inl rfl⟩
end
end Go.Proofs.YteebjgfalllbjaaGreatDoor
namespace Go.Proofs.YteebjgfalllbjaaGreatDoor
open Go.RowKit
def EngB (w : World) (X J R : Nat) (fl : Bool) (clock pause : Int) (cv : Value) : Prop := w.heap[X]? = some (.cells #[.pointer (some ⟨J, 0, none⟩), .pointer (some ⟨R, 0, none⟩), .bool fl, .int .i64 clock, .int .i64 pause, cv] 91 (0, 0))
set_option maxRecDepth 100000 in
theorem checked_tr {w : World} {X J R : Nat} {clock pause : Int} {cv : Value} (g : Nat) (h : EngAt w X J R clock pause cv) : Calls Tryz.prog 60 #[.pointer (some ⟨X, 0, none⟩), trV g] w fun e w' => e = .returned (trV g) ∧ EngB w' X J R true clock pause cv ∧ Fr (· = X) w w' := by
 have c2 : w.cell? ⟨X, 2, none⟩ = some (.bool false) := h.c rfl
 have f2 := frozen_of_row w X 2 _ _ h
 have HE : Hid (EngB (w.setCell ⟨X, 2, none⟩ (.bool true)) X J R true clock pause cv ∧ Fr (· = X) w (w.setCell ⟨X, 2, none⟩ (.bool true))) := ⟨heap_setCell_at w X 2 _ _ _ h, Fr.set1 _ _ _ _⟩
 unfold trV
 go_enter Tryz.func60, Tryz.ntmps60
 go_wp2
 go_ret
 exact ⟨rfl, HE.out⟩
set_option maxRecDepth 100000 in
set_option maxHeartbeats 4000000 in
theorem submit_gen {w : World} {X J R V A B n base dbase e g sc : Nat} {clock pause room : Int} {cv ev cache : Value} {es : List (Nat × AS)} {s : DS} {sb : Bool} (he : EngAt w X J R clock pause cv) (id : Int) (st : List SS) (hl : RowsOf w (some ⟨g, 0, none⟩) 2 (st.map stv)) (k : Nat) (hk : (k : Int) = id) (hj : JnG w J V A B n dbase cache s e sb) (hH : Hi dbase A B J) (hq : s.d.Q) (hq2 : (settleD sb s e).2.d.Q) (hel : s.ents.length < 800000) (hen : e < n) (hn4 : n ≤ 400) (HI : ItH e) (hG : GOk w) (hdis : ∀ b, RollF R ev es b → ¬ JnF A B J cache b ∧ b ≠ V ∧ b ≠ X) (hrm : room ≤ 1000) (hbase : base ≤ w.heap.size) (hRb0 : ev.ownBlock ≠ some R) (hRe : ∀ p ∈ es, p.1 ≠ R) (hse : ∀ p ∈ es, ev.ownBlock ≠ some p.1) (hr : RollAt w R base room ev es) (hs : Sorted es) (hn : es.length ≤ 100000) (hes6 : ∀ p ∈ es, p.2.st.length ≤ 6) (hok : sagaOk id st = true) (hno : ∀ p ∈ es, p.2.id ≠ id) (hroom : 2 * (st.length : Int) ≤ room) :
  Calls Tryz.prog 42 #[.pointer (some ⟨X, 0, none⟩), .int .i64 id, .slice (some ⟨g, 0, none⟩) st.length sc] w fun e' w' => ∃ v cache', e' = .returned v ∧ DSAt w' A B n dbase cache' (addD sb s e (ldB 2 (bodyS k st.length (six st) 6) 4)).2 ∧ CB w cache cache' ∧ VolAt w' V A n ∧ Fr (fun b => JnF A B J cache b ∨ b = R ∨ ev.ownBlock = some b ∨ b = X) w w' ∧ Sel (addD sb s e (ldB 2 (bodyS k st.length (six st) 6) 4)).1
   (v = .nilIface ∧ EngAt w' X J R clock pause cv ∧ JAt w' J V ((e : Int) + 1) true ∧ ∃ g' ev', RollAt w' R base (room - 2 * st.length) ev' (insE (g', newA id st) es) ∧ w.heap.size ≤ g' ∧ (∀ b, ev'.ownBlock = some b → ev.ownBlock = some b ∨ w.heap.size ≤ b))
   (EngB w' X J R true clock pause cv ∧ (∃ sb', JAt w' J V e sb') ∧ RollAt w' R base room ev es ∧ ∃ g, v = trV g ∧ TrAt w' g) := by
 have hlift : Tryz.prog.follows .mixedOrders = true := by kernel_rfl
 have hJl := lt_of_heap hj.j
 have hAl := hj.d.d.lt
 have hBl := lt_of_heap hj.d.r.1
 have hRl := lt_of_heap hr.r
 have nX : ¬ JnF A B J cache X := by
  rintro (h | h)
  ·exact hj.d.not he (by decide) h
  ·have := he; rw [h] at this; have := this.symm.trans hj.j; simp at this
 have hcl : ∀ b, cache.ownBlock = some b → b < w.heap.size := fun b hb => (hj.d.q.o.lt b hb).2
 have hnoJ : ∀ b, w.heap.size ≤ b → ¬ JnF A B J cache b := by
  rintro b hb ((e | e | e) | e)
  ·omega
  ·omega
  ·have := hcl b e; omega
  ·omega
 have c2 : w.cell? ⟨X, 2, none⟩ = some (.bool false) := he.c rfl
 obtain ⟨hid1, hid2, hn1, h6, h8⟩ := saga_of id st hok
 have hbl : (bodyS k st.length (six st) 6).length = 124 := bodyS_len k st.length (six st) (six_ok h8) 6 (by rw [six_len _ h6]; omega) (by omega)
 have hll : (ldB 2 (bodyS k st.length (six st) 6) 4).length = 128 := ldB_len 2 _ hbl 4 (by omega)
 go_enter Tryz.func42, Tryz.ntmps42
 go_wp2_with fail
 refine (NewSaga_ok hl id).mono ?_
 rintro e' w2 ⟨hns, hf2⟩
 rcases hns with ⟨_, rfl⟩ | ⟨hbad, _⟩
 case inr => rw [hok] at hbad; cases hbad
 obtain ⟨WS, hst, hrS, hfS⟩ := saga_box w2 id st h6
 have hFS : Fr (fun _ => False) w WS := hf2.trans hfS (fun _ _ h => h)
 have hrl := hr.frz hFS
 have heS : EngAt WS X J R clock pause cv := hFS.keep he (fun h => h)
 have c1S : WS.cell? ⟨X, 1, none⟩ = some (.pointer (some ⟨R, 0, none⟩)) := heS.c rfl
 have hFw2 := hf2
 clear hf2 hfS c2
 go_wp2_with (first | (refine wpList_store 122 (w' := WS) _ _ rfl rfl ?_ ?_; exact hst))
 refine (rollSaga_ok hrl hs hn hes6 id).mono ?_
 rintro e' w3 ⟨hsv, hf3⟩
 have hF3 : Fr (fun _ => False) w w3 := hFS.trans hf3 (fun _ _ h => h)
 have hr3 := hrl.frz hf3
 have he3 : EngAt w3 X J R clock pause cv := hf3.keep heS (fun h => h)
 have hs3 := hf3.keep hrS (fun h => h)
 clear hst hrS hrl heS c1S hf3 hFS
 rcases hsv with ⟨p, hp, hid, _⟩ | ⟨_, rfl⟩
 case inl => exact absurd hid (hno p hp)
 obtain ⟨W4, hst4, hr4, hf4⟩ := saga_box w3 0 [] (by simp)
 have hF4 : Fr (fun _ => False) w W4 := hF3.trans hf4 (fun _ _ h => h)
 have hs4 := hf4.keep hs3 (fun h => h)
 have hr5 := hr3.frz hf4
 have he5 : EngAt W4 X J R clock pause cv := hf4.keep he3 (fun h => h)
 have c15 : W4.cell? ⟨X, 1, none⟩ = some (.pointer (some ⟨R, 0, none⟩)) := he5.c rfl
 have hL4 := load14 hs4 h6
 have l2 := sagaC_len id st.length _ (six_len _ h6)
 have hM2 : W4.rangeAt w2.heap.size 0 (sagaC id st.length (six st)) := fun j v hv => (cell_of_row W4 _ (0 + j) _ _ _ hs4).trans (by simpa using hv)
 clear hr3 he3 hs3 hf4 hF3 hr4
 go_wp2_with (first | (refine wpList_store 122 (w' := W4) _ _ rfl rfl ?_ ?_; exact hst4) | (refine wpList_load_mid rfl 122 (.tmp 7) rfl w2.heap.size 0 ?_ _ _ hM2 Tryz.underlying122 rfl ?_ ?_; rfl; (rw [rsaga_size, l2])))
 obtain ⟨U, HU⟩ : ∃ U, Hid (U = W4.drew) := ⟨_, rfl⟩
 have hfU : Fr (fun _ => False) W4 U := by rw [HU.out]; exact (Fr.refl _ _).drew
 let S : World → Prop := fun w' => w'.cell? ⟨X, 1, none⟩ = some (.pointer (some ⟨R, 0, none⟩)) ∧ w'.heap[w2.heap.size]? = some (.cells (sagaC id st.length (six st)).toArray 122 (0, 0))
 have hS : S U := ⟨hfU.cell c15 (fun h => h), hfU.keep hs4 (fun h => h)⟩
 refine wp_region_held (S := S) hlift ?_
 change wpAnyH _ _ _ _ S _ _ _ (World.drew _)
 rw [← HU.out]
 clear HU
 refine tkE (S := S) (i := 0) (oi := ⟨some 40, .move (.tmp 0), _, _, _, none⟩) (v := .pointer (some ⟨X, 0, none⟩)) rfl hS ?_
 simp only [Act.put, lsE, lsZ, lsS]
 refine tkE (S := S) (i := 1) (oi := ⟨some 41, .nilCheck (.tmp 40), _, _, _, none⟩) (v := .pointer (some ⟨X, 0, none⟩)) rfl hS ?_
 simp only [Act.put, lsE, lsZ, lsS]
 refine tkE (S := S) (i := 2) (oi := ⟨some 42, .fieldAddr 91 (.tmp 41) 1, _, _, _, none⟩) (v := .pointer (some ⟨X, 1, none⟩)) rfl hS ?_
 simp only [Act.put, lsE, lsZ, lsS]
 refine tkY (S := S) (i := 3) (oi := ⟨some 43, .load 88 (.tmp 42), _, _, _, none⟩) (v := .pointer (some ⟨R, 0, none⟩)) rfl (Or.inl ⟨rfl, fun w' hs => exec_load 88 (.tmp 42) rfl ⟨X, 1, none⟩ rfl (run_loadAt_one hs.1 Tryz.underlying88 rfl)⟩) hS ?_
 simp only [Act.put, lsE, lsZ, lsS]
 refine tkY (S := S) (i := 4) (oi := ⟨some 44, .load 122 (.tmp 7), _, _, _, none⟩) (v := .agg (sagaC id st.length (six st)).toArray) rfl (Or.inl ⟨rfl, fun w' hs => exec_load 122 (.tmp 7) rfl ⟨w2.heap.size, 0, none⟩ rfl (load14 hs.2 h6)⟩) hS ?_
 simp only [Act.put, lsE, lsZ, lsS]
 refine wpAnyH_all (rs := [5]) (by kernel_rfl) (by simp) ?_
 intro i5 hi5
 obtain rfl : i5 = 5 := by simpa using hi5
 refine wpOp_call (o := ⟨some 45, .call { callee := .value (.func 59), args := #[(.tmp 43), (.tmp 44)], argTypes := _ }, _, _, _, none⟩) (f := 59) (args := #[.pointer (some ⟨R, 0, none⟩), .agg (sagaC id st.length (six st)).toArray]) rfl rfl (by kernel_rfl) ?_
 refine (Fits_ok (hr5.frz hfU) id st h6).mono ?_
 rintro e' w5 ⟨rfl, hf5⟩
 have hS5 : S w5 := ⟨hf5.cell hS.1 (fun h => h), hf5.keep hS.2 (fun h => h)⟩
 refine ⟨_, rfl, hS5, ?_⟩
 simp only [Act.put, lsE, lsZ, lsS]
 refine tkE (S := S) (i := 6) (oi := ⟨some 46, .unOp .not 4 (.tmp 45), _, _, _, none⟩) (v := .bool (!decide (2 * (st.length : Int) ≤ room))) rfl hS5 ?_
 simp only [Act.put, lsE, lsZ, lsS]
 refine wpAnyH_done (by kernel_rfl) ?_ _
 have hF5 : Fr (fun _ => False) w w5 := (hF4.trans hfU (fun _ _ h => h)).trans hf5 (fun _ _ h => h)
 have hr6 := (hr5.frz hfU).frz hf5
 have he6 : EngAt w5 X J R clock pause cv := hf5.keep (hfU.keep he5 (fun h => h)) (fun h => h)
 have hs6 := hS5.2
 clear hS hS5 hfU hf5 hF4 hr5 he5 hs4 c15 hM2
 rw [decide_eq_true hroom]
 go_wp2
 obtain ⟨Y, HY⟩ : ∃ Y, Hid (Y = w5.drew) := ⟨_, rfl⟩
 have hfY : Fr (fun _ => False) w5 Y := by rw [HY.out]; exact (Fr.refl _ _).drew
 let S2 : World → Prop := fun w' => w'.cell? ⟨X, 0, none⟩ = some (.pointer (some ⟨J, 0, none⟩)) ∧ w'.heap[w2.heap.size]? = some (.cells (sagaC id st.length (six st)).toArray 122 (0, 0))
 have hS : S2 Y := ⟨hfY.cell (he6.c rfl) (fun h => h), hfY.keep hs6 (fun h => h)⟩
 refine wp_region_held (S := S2) hlift ?_
 change wpAnyH _ _ _ _ S2 _ _ _ (World.drew _)
 rw [← HY.out]
 clear HY
 refine tkE (S := S2) (i := 0) (oi := ⟨some 48, .move (.tmp 0), _, _, _, none⟩) (v := .pointer (some ⟨X, 0, none⟩)) rfl hS ?_
 simp only [Act.put, lsE, lsZ, lsS]
 refine tkE (S := S2) (i := 1) (oi := ⟨some 49, .move (.tmp 0), _, _, _, none⟩) (v := .pointer (some ⟨X, 0, none⟩)) rfl hS ?_
 simp only [Act.put, lsE, lsZ, lsS]
 refine tkE (S := S2) (i := 2) (oi := ⟨some 50, .nilCheck (.tmp 49), _, _, _, none⟩) (v := .pointer (some ⟨X, 0, none⟩)) rfl hS ?_
 simp only [Act.put, lsE, lsZ, lsS]
 refine tkE (S := S2) (i := 3) (oi := ⟨some 51, .fieldAddr 91 (.tmp 50) 0, _, _, _, none⟩) (v := .pointer (some ⟨X, 0, none⟩)) rfl hS ?_
 simp only [Act.put, lsE, lsZ, lsS]
 refine tkY (S := S2) (i := 4) (oi := ⟨some 52, .load 87 (.tmp 51), _, _, _, none⟩) (v := .pointer (some ⟨J, 0, none⟩)) rfl (Or.inl ⟨rfl, fun w' hs => exec_load 87 (.tmp 51) rfl ⟨X, 0, none⟩ rfl (run_loadAt_one hs.1 Tryz.underlying87 rfl)⟩) hS ?_
 simp only [Act.put, lsE, lsZ, lsS]
 refine tkY (S := S2) (i := 5) (oi := ⟨some 53, .load 122 (.tmp 7), _, _, _, none⟩) (v := .agg (sagaC id st.length (six st)).toArray) rfl (Or.inl ⟨rfl, fun w' hs => exec_load 122 (.tmp 7) rfl ⟨w2.heap.size, 0, none⟩ rfl (load14 hs.2 h6)⟩) hS ?_
 simp only [Act.put, lsE, lsZ, lsS]
 refine wpAnyH_all (rs := [6]) (by kernel_rfl) (by simp) ?_
 intro i6 hi6
 obtain rfl : i6 = 6 := by simpa using hi6
 refine wpOp_call (o := ⟨some 54, .call { callee := .value (.func 62), args := #[(.tmp 53)], argTypes := _ }, _, _, _, none⟩) (f := 62) (args := #[.agg (sagaC id st.length (six st)).toArray]) rfl rfl (by kernel_rfl) ?_
 have HSB := sBlock_ok Y k st (by omega) h6 h8
 rw [hk] at HSB
 refine HSB.mono ?_
 rintro e' w6 ⟨rfl, hf6⟩
 have hS6 : S2 w6 := ⟨hf6.cell hS.1 (fun h => h), hf6.keep hS.2 (fun h => h)⟩
 have hF6 : Fr (fun _ => False) w w6 := (hF5.trans hfY (fun _ _ h => h)).trans hf6 (fun _ _ h => h)
 refine ⟨_, rfl, hS6, ?_⟩
 simp only [Act.put, lsE, lsZ, lsS]
 refine wpAnyH_all (rs := [7]) (by kernel_rfl) (by simp) ?_
 intro i7 hi7
 obtain rfl : i7 = 7 := by simpa using hi7
 refine wpOp_call (o := ⟨some 55, .call { callee := .value (.func 61), args := #[(.tmp 52), (.tmp 54)], argTypes := _ }, _, _, _, none⟩) (f := 61) (args := #[.pointer (some ⟨J, 0, none⟩), .agg (ldB 2 (bodyS k st.length (six st) 6) 4).toArray]) rfl rfl (by kernel_rfl) ?_
 have HADD := Add_gen (hj.frz hF6) hH hq hq2 hel hen hn4 HI (hG.fr hF6 (fun h => h)) hll (ldB_one 2 _ (bodyS_one _ _ _ _) 4)
 obtain ⟨aD, HAD⟩ : ∃ aD, Hid (aD = addD sb s e (ldB 2 (bodyS k st.length (six st) 6) 4)) := ⟨_, rfl⟩
 rw [← HAD.out] at HADD
 refine HADD.mono ?_
 rintro e' w7 ⟨v7, cache7, rfl, d7, cb7, vo7, hf7, r7⟩
 have hlW2 : w.heap.size ≤ w2.heap.size := hFw2.size
 have hS7 : S2 w7 := ⟨hf7.cell hS6.1 nX, hf7.keep hS6.2 (hnoJ _ hlW2)⟩
 have hr7 := (hr.frz hF6).fr hf7 (fun b hb h => (hdis b hb).1 h)
 have he7 : EngAt w7 X J R clock pause cv := hf7.keep (hF6.keep he (fun h => h)) nX
 have hF7 : Fr (JnF A B J cache) w w7 := (hF6.mono (fun _ _ h => h.elim)).trans hf7 (fun _ _ h => h)
 have cb7' : CB w cache cache7 := fun b hb => (cb7 b hb).imp_right (fun h => Nat.le_trans hF6.size h)
 have h1v : v7.oneCell' = true := by
  rcases r7.out with ⟨_, rfl, _⟩ | ⟨_, _, g, rfl, _⟩ <;> rfl
 refine ⟨_, rfl, hS7, ?_⟩
 simp only [Act.put, lsE, lsZ, lsS]
 rcases r7.out with ⟨ok7, rfl, j7⟩ | ⟨bad7, j7, g7, rfl, t7⟩
 ·
  refine wpAnyH_all (rs := [8]) (by kernel_rfl) (by simp) ?_
  intro i8 hi8
  obtain rfl : i8 = 8 := by simpa using hi8
  refine wpOp_call (o := ⟨some 56, .call { callee := .value (.func 60), args := #[(.tmp 48), (.tmp 55)], argTypes := _ }, _, _, _, none⟩) (f := 60) (args := #[.pointer (some ⟨X, 0, none⟩), .nilIface]) rfl rfl (by kernel_rfl) ?_
  refine (checked_nil _ _).mono ?_
  rintro e' w8 ⟨rfl, rfl⟩
  refine ⟨_, rfl, hS7, ?_⟩
  simp only [Act.put, lsE, lsZ, lsS]
  refine tkE (S := S2) (i := 9) (oi := ⟨some 11, .assign (.tmp 56), _, _, _, none⟩) (v := .nilIface) rfl hS7 ?_
  simp only [Act.put, lsE, lsZ, lsS]
  refine wpAnyH_done (by kernel_rfl) ?_ _
  clear hS hS6 hfY hf6 hf7 hF5 hF6 HSB
  have c17 : w8.cell? ⟨X, 1, none⟩ = some (.pointer (some ⟨R, 0, none⟩)) := he7.c rfl
  have hs7 := hS7.2
  clear hS7
  go_wp2
  obtain ⟨Z, HZ⟩ : ∃ Z, Hid (Z = w8.drew) := ⟨_, rfl⟩
  have hfZ : Fr (fun _ => False) w8 Z := by rw [HZ.out]; exact (Fr.refl _ _).drew
  let S3 : World → Prop := fun w' => w'.cell? ⟨X, 1, none⟩ = some (.pointer (some ⟨R, 0, none⟩)) ∧ w'.heap[w2.heap.size]? = some (.cells (sagaC id st.length (six st)).toArray 122 (0, 0))
  have hS : S3 Z := ⟨hfZ.cell c17 (fun h => h), hfZ.keep hs7 (fun h => h)⟩
  refine wp_region_held (S := S3) hlift ?_
  change wpAnyH _ _ _ _ S3 _ _ _ (World.drew _)
  rw [← HZ.out]
  clear HZ
  refine tkE (S := S3) (i := 0) (oi := ⟨some 60, .move (.tmp 0), _, _, _, none⟩) (v := .pointer (some ⟨X, 0, none⟩)) rfl hS ?_
  simp only [Act.put, lsE, lsZ, lsS]
  refine tkE (S := S3) (i := 1) (oi := ⟨some 61, .nilCheck (.tmp 60), _, _, _, none⟩) (v := .pointer (some ⟨X, 0, none⟩)) rfl hS ?_
  simp only [Act.put, lsE, lsZ, lsS]
  refine tkE (S := S3) (i := 2) (oi := ⟨some 62, .fieldAddr 91 (.tmp 61) 1, _, _, _, none⟩) (v := .pointer (some ⟨X, 1, none⟩)) rfl hS ?_
  simp only [Act.put, lsE, lsZ, lsS]
  refine tkY (S := S3) (i := 3) (oi := ⟨some 63, .load 88 (.tmp 62), _, _, _, none⟩) (v := .pointer (some ⟨R, 0, none⟩)) rfl (Or.inl ⟨rfl, fun w' hs => exec_load 88 (.tmp 62) rfl ⟨X, 1, none⟩ rfl (run_loadAt_one hs.1 Tryz.underlying88 rfl)⟩) hS ?_
  simp only [Act.put, lsE, lsZ, lsS]
  refine tkY (S := S3) (i := 4) (oi := ⟨some 64, .load 122 (.tmp 7), _, _, _, none⟩) (v := .agg (sagaC id st.length (six st)).toArray) rfl (Or.inl ⟨rfl, fun w' hs => exec_load 122 (.tmp 7) rfl ⟨w2.heap.size, 0, none⟩ rfl (load14 hs.2 h6)⟩) hS ?_
  simp only [Act.put, lsE, lsZ, lsS]
  refine wpAnyH_all (rs := [5]) (by kernel_rfl) (by simp) ?_
  intro i5 hi5
  obtain rfl : i5 = 5 := by simpa using hi5
  refine wpOp_call (o := ⟨some 65, .call { callee := .value (.func 63), args := #[(.tmp 63), (.tmp 64)], argTypes := _ }, _, _, _, none⟩) (f := 63) (args := #[.pointer (some ⟨R, 0, none⟩), .agg (sagaC id st.length (six st)).toArray]) rfl rfl (by kernel_rfl) ?_
  have hsz7 := hF7.size
  have hszZ := hfZ.size
  refine (Take_ok (hr7.frz hfZ) hs hn id st h6 hno hroom hrm (by omega) hRb0 hRe hse).mono ?_
  rintro e' wT ⟨gT, ev', rfl, hrT, hgT, hfT0, hob⟩
  have hfT : Fr (fun b => b = R ∨ ev.ownBlock = some b) w8 wT := (hfZ.mono (fun _ _ h => h.elim)).trans hfT0 (fun _ _ h => h)
  have hltE : ∀ b, ev.ownBlock = some b → b < w.heap.size := fun b hb' => by
   rcases hr.o.2 with ⟨rfl, _⟩ | ⟨g, cap, cur, rfl, _, hg, _⟩
   ·cases hb'
   ·cases hb'; exact lt_of_heap hg
  have hST : S3 wT := ⟨hfT.cell c17 (by rintro (h | h); exact (hdis _ (.inl h)).2.2 rfl; exact (hdis _ (.inr (.inl h))).2.2 rfl), hfT.keep hs7 (by rintro (h | h); omega; have := hltE _ h; omega)⟩
  have hob : ∀ b, ev'.ownBlock = some b → ev.ownBlock = some b ∨ Z.heap.size ≤ b := hob
  refine ⟨_, rfl, hST, ?_⟩
  simp only [Act.put, lsE, lsZ, lsS]
  refine wpAnyH_done (by kernel_rfl) ?_ _
  have hown : ∀ b, ev'.ownBlock = some b → ev.ownBlock = some b ∨ w.heap.size ≤ b := fun b hb => by
   rcases hob b hb with h | h
   ·exact .inl h
   ·have := hF7.size; exact .inr (by omega)
  have kT : ∀ {b : Nat} {o : Obj}, w8.heap[b]? = some o → (JnF A B J cache b ∨ b = V ∨ b = X ∨ w.heap.size ≤ b) → wT.heap[b]? = some o := fun hb h => hfT.keep hb (by
   rintro (e1 | e1)
   ·have h3 := hdis _ (.inl e1)
    rcases h with h | h | h | h
    ·exact h3.1 h
    ·exact h3.2.1 h
    ·exact h3.2.2 h
    ·omega
   ·have h3 := hdis _ (.inr (.inl e1))
    rcases h with h | h | h | h
    ·exact h3.1 h
    ·exact h3.2.1 h
    ·exact h3.2.2 h
    ·have := hltE _ e1; omega)
  have HD : Hid (DSAt wT A B n dbase cache7 aD.2) := d7.fr hfT (fun b hb h => by
   have hb' : JnF A B J cache b ∨ w.heap.size ≤ b := by
    rcases hb with hb | hb | hb
    ·exact .inl (.inl (.inl hb))
    ·exact .inl (.inl (.inr (.inl hb)))
    ·rcases cb7' b hb with h1 | h1
     ·exact .inl (.inl (.inr (.inr h1)))
     ·exact .inr h1
   rcases h with h | h
   ·rcases hb' with h1 | h1
    ·exact (hdis _ (.inl h)).1 h1
    ·omega
   ·rcases hb' with h1 | h1
    ·exact (hdis _ (.inr (.inl h))).1 h1
    ·have := hltE _ h; omega)
  have HV : Hid (VolAt wT V A n) := kT vo7 (by simp)
  have HJ : Hid (JAt wT J V ((e : Int) + 1) true) := kT j7 (.inl (.inr rfl))
  have heT : EngAt wT X J R clock pause cv := kT he7 (by simp)
  have hFT : Fr (fun b => JnF A B J cache b ∨ b = R ∨ ev.ownBlock = some b ∨ b = X) w wT := (hF7.mono (fun b _ h => .inl h)).trans hfT (fun b _ h => by rcases h with h | h; exact .inr (.inl h); exact .inr (.inr (.inl h)))
  have hgw : w.heap.size ≤ gT := by have := hF7.size; omega
  have HRT : Hid (RollAt wT R base (room - 2 * st.length) ev' (insE (gT, newA id st) es)) := hrT
  clear kT hfT hrT hr7 he7 hF7 hS hST d7 vo7 j7
  go_wp2
  go_ret
  exact ⟨_, cache7, rfl, by rw [← HAD.out]; exact HD.out, cb7', HV.out, hFT, by rw [← HAD.out]; exact Sel.pos ok7 ⟨rfl, heT, HJ.out, gT, ev', HRT.out, hgw, hown⟩⟩
 ·
  refine wpAnyH_all (rs := [8]) (by kernel_rfl) (by simp) ?_
  intro i8 hi8
  obtain rfl : i8 = 8 := by simpa using hi8
  refine wpOp_call (o := ⟨some 56, .call { callee := .value (.func 60), args := #[(.tmp 48), (.tmp 55)], argTypes := _ }, _, _, _, none⟩) (f := 60) (args := #[.pointer (some ⟨X, 0, none⟩), trV g7]) rfl rfl (by kernel_rfl) ?_
  refine (checked_tr g7 he7).mono ?_
  rintro e' w8 ⟨rfl, eB, hf8⟩
  have hXl := lt_of_heap he
  have hS8 : S2 w8 := ⟨(cell_of_row _ _ 0 _ _ _ eB).trans rfl, hf8.keep hS7.2 (by omega)⟩
  refine ⟨_, rfl, hS8, ?_⟩
  simp only [Act.put, lsE, lsZ, lsS]
  refine tkE (S := S2) (i := 9) (oi := ⟨some 11, .assign (.tmp 56), _, _, _, none⟩) (v := trV g7) rfl hS8 ?_
  simp only [Act.put, lsE, lsZ, lsS]
  refine wpAnyH_done (by kernel_rfl) ?_ _
  have nXd : ∀ b, DkF A B cache7 b → ¬ b = X := fun b hb e => d7.not he7 (by decide) (e ▸ hb)
  have nXR : ∀ b, RollF R ev es b → ¬ b = X := fun b hb => (hdis b hb).2.2
  have HE : Hid (DSAt w8 A B n dbase cache7 aD.2 ∧ VolAt w8 V A n ∧ Fr (fun b => JnF A B J cache b ∨ b = R ∨ ev.ownBlock = some b ∨ b = X) w w8 ∧ (∃ sb', JAt w8 J V e sb') ∧ RollAt w8 R base room ev es ∧ TrAt w8 g7) := by
   refine ⟨d7.fr hf8 nXd, vo7.fr hf8 (fun h => by have := he7; rw [← h] at this; have := this.symm.trans vo7; simp at this), (hF7.mono (fun b _ h => .inl h)).trans hf8 (fun b _ h => .inr (.inr (.inr h))), ?_, hr7.fr hf8 nXR, t7.fr hf8 (fun b c t hb ht e => ?_)⟩
   ·obtain ⟨sb', j7⟩ := j7
    exact ⟨sb', j7.fr hf8 (fun h => nX (.inr h.symm))⟩
   ·subst e
    have := he7.symm.trans hb
    simp at this
    rw [← this.2] at ht
    revert ht; decide
  clear hS hS6 hS7 hS8 hfY hf6 hf7 hF5 hF6 HSB HADD
  unfold trV
  go_wp2
  go_ret
  obtain ⟨p1, p2, p3, p4, p5, p6⟩ := HE.out
  exact ⟨_, cache7, rfl, by rw [← HAD.out]; exact p1, cb7', p2, p3, by rw [← HAD.out]; exact Sel.neg bad7 ⟨eB, p4, p5, g7, rfl, p6⟩⟩
end Go.Proofs.YteebjgfalllbjaaGreatDoor
namespace Go.Proofs.YteebjgfalllbjaaGreatDoor
open Go.RowKit
set_option maxRecDepth 100000 in
set_option maxHeartbeats 4000000 in
theorem follow_F {w : World} {X J R V A B n base dbase e : Nat} {clock pause room : Int} {cv ev cache : Value} {es : List (Nat × AS)} {s : DS} {sb : Bool} (he : EngAt w X J R clock pause cv) (h : RollAt w R base room ev es) (hs : Sorted es) (hn : es.length ≤ 100000) {ck : Int} (hok : ∀ p ∈ es, p.2.Ok ck) {p : Nat × AS} (hp : p ∈ es) (reply : Nat) (ho : p.2.open) (hm : p.2.moves reply = true) (hr2 : reply ≤ 2) (k : Nat) (hk : (k : Int) = p.2.id) (hk1 : k ≤ 1000) (hj : JnG w J V A B n dbase cache s e sb) (hH : Hi dbase A B J) (hq : s.d.Q) (hq2 : (settleD sb s e).2.d.Q) (hel : s.ents.length < 800000) (hen : e < n) (hn4 : n ≤ 400) (HI : ItH e) (hG : GOk w) (hdis : ∀ b, RollF R ev es b → ¬ JnF A B J cache b ∧ b ≠ V ∧ b ≠ X) :
  Calls Tryz.prog 105 #[.pointer (some ⟨X, 0, none⟩), .agg #[.int .i64 p.2.id, .int .i64 reply]] w fun e' w' => ∃ v cache', e' = .returned v ∧ DSAt w' A B n dbase cache' (addD sb s e (ldB 3 (bodyS k reply [] 0) 4)).2 ∧ CB w cache cache' ∧ VolAt w' V A n ∧ Fr (fun b => JnF A B J cache b ∨ b = p.1 ∨ b = X) w w' ∧ Sel (addD sb s e (ldB 3 (bodyS k reply [] 0) 4)).1
   (v = .nilIface ∧ EngAt w' X J R clock pause cv ∧ JAt w' J V ((e : Int) + 1) true ∧ RollAt w' R base room ev (mapE es p.2.id (·.go reply)))
   (EngB w' X J R true clock pause cv ∧ (∃ sb', JAt w' J V e sb') ∧ RollAt w' R base room ev es ∧ ∃ g, v = trV g ∧ TrAt w' g) := by
 have hlift : Tryz.prog.follows .mixedOrders = true := by kernel_rfl
 have hb : mvE es p.2.id reply = true := by
  rw [mvE_of hs hp rfl]
  simp [ho, hm]
 have HMB := fun W => mBlock_ok W k reply hk1 hr2
 rw [hk] at HMB
 have hbl : (ldB 3 (bodyS k reply [] 0) 4).length = 128 := ldB_len 3 _ (bodyM_len k reply) 4 (by omega)
 have hb1 : ∀ v ∈ ldB 3 (bodyS k reply [] 0) 4, v.oneCell' = true := ldB_one 3 _ (bodyS_one _ _ _ _) 4
 generalize ldB 3 (bodyS k reply [] 0) 4 = blk at *
 obtain ⟨id, hid⟩ : ∃ id, id = p.2.id := ⟨_, rfl⟩
 rw [← hid] at HMB hb
 have HB : Hid (mvE es id reply = true) := hb
 have HID : Hid (id = p.2.id) := hid
 have nX : p.1 ≠ X := (hdis p.1 (.inr (.inr ⟨p, hp, rfl⟩))).2.2
 have nXj : ¬ JnF A B J cache X := by
  rintro (h | h)
  ·exact hj.d.not he (by decide) h
  ·have := he; rw [h] at this; have := this.symm.trans hj.j; simp at this
 have hAl := hj.d.d.lt
 have hBl := lt_of_heap hj.d.r.1
 have hJl := lt_of_heap hj.j
 have hcl : ∀ b, cache.ownBlock = some b → b < w.heap.size := fun b hb => (hj.d.q.o.lt b hb).2
 have hnoJ : ∀ b, w.heap.size ≤ b → ¬ JnF A B J cache b := by
  rintro b hb ((e | e | e) | e)
  ·omega
  ·omega
  ·have := hcl b e; omega
  ·omega
 have hrow := heap_alloc_at w (.cells #[.int .i64 id, .int .i64 reply] 196)
 have hfa : Fr (fun _ => False) w (w.alloc (.cells #[.int .i64 id, .int .i64 reply] 196)) := (Fr.refl _ _).alloc _
 have nM : p.1 ≠ w.heap.size := by have := lt_of_heap (h.e p hp).2; omega
 suffices HG : Calls Tryz.prog 105 #[.pointer (some ⟨X, 0, none⟩), .agg #[.int .i64 id, .int .i64 reply]] w fun e' w' => ∃ v cache', e' = .returned v ∧ DSAt w' A B n dbase cache' (addD sb s e blk).2 ∧ CB w cache cache' ∧ VolAt w' V A n ∧ Fr (fun b => JnF A B J cache b ∨ b = p.1 ∨ b = X) w w' ∧ Sel (addD sb s e blk).1
   (v = .nilIface ∧ EngAt w' X J R clock pause cv ∧ JAt w' J V ((e : Int) + 1) true ∧ RollAt w' R base room ev (mapE es p.2.id (·.go reply)))
   (EngB w' X J R true clock pause cv ∧ (∃ sb', JAt w' J V e sb') ∧ RollAt w' R base room ev es ∧ ∃ g, v = trV g ∧ TrAt w' g) by
  rw [hid] at HG
  exact HG
 clear hid hb
 have HS : ∀ w', Fr (fun _ => False) (w.alloc (.cells #[.int .i64 id, .int .i64 reply] 196)) w' → EngAt w' X J R clock pause cv ∧ w'.heap[w.heap.size]? = some (.cells #[.int .i64 id, .int .i64 reply] 196 (0, 0)) := fun w' hf => ⟨hf.keep (hfa.keep he (fun h => h)) (fun h => h), hf.keep hrow (fun h => h)⟩
 go_enter Tryz.func105, Tryz.ntmps105
 go_wp2_with fail
 obtain ⟨W, HW⟩ : ∃ W, Hid (W = (w.alloc (.cells #[.int .i64 id, .int .i64 reply] 196)).drew) := ⟨_, rfl⟩
 have hfW : Fr (fun _ => False) (w.alloc (.cells #[.int .i64 id, .int .i64 reply] 196)) W := by rw [HW.out]; exact (Fr.refl _ _).drew
 let S : World → Prop := fun w' => EngAt w' X J R clock pause cv ∧ w'.heap[w.heap.size]? = some (.cells #[.int .i64 id, .int .i64 reply] 196 (0, 0))
 have hS : S W := HS W hfW
 refine wp_region_held (S := S) hlift ?_
 change wpAnyH _ _ _ _ S _ _ _ (World.drew _)
 rw [← HW.out]
 clear HW
 refine tkE (S := S) (i := 0) (oi := ⟨some 6, .move (.tmp 0), _, _, _, none⟩) (v := .pointer (some ⟨X, 0, none⟩)) rfl hS ?_
 simp only [Act.put, lsE, lsZ, lsS]
 refine tkE (S := S) (i := 1) (oi := ⟨some 7, .nilCheck (.tmp 6), _, _, _, none⟩) (v := .pointer (some ⟨X, 0, none⟩)) rfl hS ?_
 simp only [Act.put, lsE, lsZ, lsS]
 refine tkE (S := S) (i := 2) (oi := ⟨some 8, .fieldAddr 91 (.tmp 7) 1, _, _, _, none⟩) (v := .pointer (some ⟨X, 1, none⟩)) rfl hS ?_
 simp only [Act.put, lsE, lsZ, lsS]
 refine tkY (S := S) (i := 3) (oi := ⟨some 9, .load 88 (.tmp 8), _, _, _, none⟩) (v := .pointer (some ⟨R, 0, none⟩)) rfl (Or.inl ⟨rfl, fun w' hs => exec_load 88 (.tmp 8) rfl ⟨X, 1, none⟩ rfl (run_loadAt_one ((cell_of_row _ X 1 _ _ _ hs.1).trans rfl) Tryz.underlying88 rfl)⟩) hS ?_
 simp only [Act.put, lsE, lsZ, lsS]
 refine tkY (S := S) (i := 4) (oi := ⟨some 10, .load 196 (.tmp 3), _, _, _, none⟩) (v := .agg #[.int .i64 id, .int .i64 reply]) rfl (Or.inl ⟨rfl, fun w' hs => exec_load 196 (.tmp 3) rfl ⟨w.heap.size, 0, none⟩ rfl (loadM hs.2)⟩) hS ?_
 simp only [Act.put, lsE, lsZ, lsS]
 refine wpAnyH_all (rs := [5]) (by kernel_rfl) (by simp) ?_
 intro i5 hi5
 obtain rfl : i5 = 5 := by simpa using hi5
 refine wpOp_call (o := ⟨some 11, .call { callee := .value (.func 117), args := #[(.tmp 9), (.tmp 10)], argTypes := _ }, _, _, _, none⟩) (f := 117) (args := #[.pointer (some ⟨R, 0, none⟩), .agg #[.int .i64 id, .int .i64 reply]]) rfl rfl (by kernel_rfl) ?_
 refine (rMoves_ok (h.frz (hfa.trans hfW (fun _ _ h => h))) hs hn hok id reply).mono ?_
 rintro e1 w2 ⟨rfl, hf2⟩
 rw [HB.out]
 have hF2 : Fr (fun _ => False) w w2 := (hfa.trans hfW (fun _ _ h => h)).trans hf2 (fun _ _ h => h)
 have hG2 := hfW.trans hf2 (fun _ _ h => h)
 have hS2 : S w2 := HS _ hG2
 refine ⟨_, rfl, hS2, ?_⟩
 simp only [Act.put, lsE, lsZ, lsS]
 refine tkE (S := S) (i := 6) (oi := ⟨some 12, .unOp .not 4 (.tmp 11), _, _, _, none⟩) (v := .bool false) rfl hS2 ?_
 simp only [Act.put, lsE, lsZ, lsS]
 refine wpAnyH_done (by kernel_rfl) ?_ _
 have h2 := h.frz hF2
 have h0 := h
 clear hS hS2 hfa hfW hf2 h
 go_wp2_with fail
 obtain ⟨W4, HW4⟩ : ∃ W4, Hid (W4 = w2.drew) := ⟨_, rfl⟩
 have hfW4 : Fr (fun _ => False) w2 W4 := by rw [HW4.out]; exact (Fr.refl _ _).drew
 let S4 : World → Prop := fun w' => w'.cell? ⟨X, 0, none⟩ = some (.pointer (some ⟨J, 0, none⟩)) ∧ w'.heap[w.heap.size]? = some (.cells #[.int .i64 id, .int .i64 reply] 196 (0, 0))
 have he4 := HS W4 (hG2.trans hfW4 (fun _ _ h => h))
 have hS4 : S4 W4 := ⟨(cell_of_row _ X 0 _ _ _ he4.1).trans rfl, he4.2⟩
 refine wp_region_held (S := S4) hlift ?_
 change wpAnyH _ _ _ _ S4 _ _ _ (World.drew _)
 rw [← HW4.out]
 clear HW4
 refine tkE (S := S4) (i := 0) (oi := ⟨some 28, .move (.tmp 0), _, _, _, none⟩) (v := .pointer (some ⟨X, 0, none⟩)) rfl hS4 ?_
 simp only [Act.put, lsE, lsZ, lsS]
 refine tkE (S := S4) (i := 1) (oi := ⟨some 29, .move (.tmp 0), _, _, _, none⟩) (v := .pointer (some ⟨X, 0, none⟩)) rfl hS4 ?_
 simp only [Act.put, lsE, lsZ, lsS]
 refine tkE (S := S4) (i := 2) (oi := ⟨some 30, .nilCheck (.tmp 29), _, _, _, none⟩) (v := .pointer (some ⟨X, 0, none⟩)) rfl hS4 ?_
 simp only [Act.put, lsE, lsZ, lsS]
 refine tkE (S := S4) (i := 3) (oi := ⟨some 31, .fieldAddr 91 (.tmp 30) 0, _, _, _, none⟩) (v := .pointer (some ⟨X, 0, none⟩)) rfl hS4 ?_
 simp only [Act.put, lsE, lsZ, lsS]
 refine tkY (S := S4) (i := 4) (oi := ⟨some 32, .load 87 (.tmp 31), _, _, _, none⟩) (v := .pointer (some ⟨J, 0, none⟩)) rfl (Or.inl ⟨rfl, fun w' hs => exec_load 87 (.tmp 31) rfl ⟨X, 0, none⟩ rfl (run_loadAt_one hs.1 Tryz.underlying87 rfl)⟩) hS4 ?_
 simp only [Act.put, lsE, lsZ, lsS]
 refine tkY (S := S4) (i := 5) (oi := ⟨some 33, .load 196 (.tmp 3), _, _, _, none⟩) (v := .agg #[.int .i64 id, .int .i64 reply]) rfl (Or.inl ⟨rfl, fun w' hs => exec_load 196 (.tmp 3) rfl ⟨w.heap.size, 0, none⟩ rfl (loadM hs.2)⟩) hS4 ?_
 simp only [Act.put, lsE, lsZ, lsS]
 refine wpAnyH_all (rs := [6]) (by kernel_rfl) (by simp) ?_
 intro i6 hi6
 obtain rfl : i6 = 6 := by simpa using hi6
 refine wpOp_call (o := ⟨some 34, .call { callee := .value (.func 151), args := #[(.tmp 33)], argTypes := _ }, _, _, _, none⟩) (f := 151) (args := #[.agg #[.int .i64 id, .int .i64 reply]]) rfl rfl (by kernel_rfl) ?_
 refine (HMB W4).mono ?_
 rintro e1 w5 ⟨rfl, hf5⟩
 have hF5 : Fr (fun _ => False) w w5 := (hF2.trans hfW4 (fun _ _ h => h)).trans hf5 (fun _ _ h => h)
 have he5 := HS _ ((hG2.trans hfW4 (fun _ _ h => h)).trans hf5 (fun _ _ h => h))
 have hS5 : S4 w5 := ⟨(cell_of_row _ X 0 _ _ _ he5.1).trans rfl, he5.2⟩
 refine ⟨_, rfl, hS5, ?_⟩
 simp only [Act.put, lsE, lsZ, lsS]
 refine wpAnyH_all (rs := [7]) (by kernel_rfl) (by simp) ?_
 intro i7 hi7
 obtain rfl : i7 = 7 := by simpa using hi7
 refine wpOp_call (o := ⟨some 35, .call { callee := .value (.func 61), args := #[(.tmp 32), (.tmp 34)], argTypes := _ }, _, _, _, none⟩) (f := 61) (args := #[.pointer (some ⟨J, 0, none⟩), .agg blk.toArray]) rfl rfl (by kernel_rfl) ?_
 have HADD := Add_gen (hj.frz hF5) hH hq hq2 hel hen hn4 HI (hG.fr hF5 (fun h => h)) hbl hb1
 obtain ⟨aD, HAD⟩ : ∃ aD, Hid (aD = addD sb s e blk) := ⟨_, rfl⟩
 rw [← HAD.out] at HADD
 refine HADD.mono ?_
 rintro e1 w6 ⟨v6, cache6, rfl, d6, cb6, vo6, hf6, r6⟩
 have he6 : EngAt w6 X J R clock pause cv := hf6.keep he5.1 nXj
 have hS6 : S4 w6 := ⟨(cell_of_row _ X 0 _ _ _ he6).trans rfl, hf6.keep hS5.2 (hnoJ _ (Nat.le_refl _))⟩
 have cb6' : CB w cache cache6 := fun b hb => (cb6 b hb).imp_right (fun h => Nat.le_trans hF5.size h)
 have hF6 : Fr (JnF A B J cache) w w6 := (hF5.mono (fun _ _ h => h.elim)).trans hf6 (fun _ _ h => h)
 have h6 := (h2.frz (hfW4.trans hf5 (fun _ _ h => h))).fr hf6 (fun b hb h => (hdis b hb).1 h)
 have h1v : v6.oneCell' = true := by
  rcases r6.out with ⟨_, rfl, _⟩ | ⟨_, _, g, rfl, _⟩ <;> rfl
 refine ⟨_, rfl, hS6, ?_⟩
 simp only [Act.put, lsE, lsZ, lsS]
 rcases r6.out with ⟨ok6, rfl, j6⟩ | ⟨bad6, j6, g6, rfl, t6⟩
 ·
  refine wpAnyH_all (rs := [8]) (by kernel_rfl) (by simp) ?_
  intro i8 hi8
  obtain rfl : i8 = 8 := by simpa using hi8
  refine wpOp_call (o := ⟨some 36, .call { callee := .value (.func 60), args := #[(.tmp 28), (.tmp 35)], argTypes := _ }, _, _, _, none⟩) (f := 60) (args := #[.pointer (some ⟨X, 0, none⟩), .nilIface]) rfl rfl (by kernel_rfl) ?_
  refine (checked_nil ⟨X, 0, none⟩ w6).mono ?_
  rintro e1 w7 ⟨rfl, e7⟩
  rw [e7]
  clear e7
  refine ⟨_, rfl, hS6, ?_⟩
  simp only [Act.put, lsE, lsZ, lsS]
  refine tkE (S := S4) (i := 9) (oi := ⟨some 5, .assign (.tmp 36), _, _, _, none⟩) (v := .nilIface) rfl hS6 ?_
  simp only [Act.put, lsE, lsZ, lsS]
  refine wpAnyH_done (by kernel_rfl) ?_ _
  have hs6 : EngAt w6 X J R clock pause cv ∧ w6.heap[w.heap.size]? = some (.cells #[.int .i64 id, .int .i64 reply] 196 (0, 0)) := ⟨he6, hS6.2⟩
  clear hS4 hS5 hf5 hF2 hfW4 HS HMB h2 hS6
  go_wp2_with fail
  obtain ⟨W8, HW8⟩ : ∃ W8, Hid (W8 = w6.drew) := ⟨_, rfl⟩
  have hfW8 : Fr (fun _ => False) w6 W8 := by rw [HW8.out]; exact (Fr.refl _ _).drew
  let S8 : World → Prop := fun w' => EngAt w' X J R clock pause cv ∧ w'.heap[w.heap.size]? = some (.cells #[.int .i64 id, .int .i64 reply] 196 (0, 0))
  have hS8 : S8 W8 := ⟨hfW8.keep hs6.1 (fun h => h), hfW8.keep hs6.2 (fun h => h)⟩
  refine wp_region_held (S := S8) hlift ?_
  change wpAnyH _ _ _ _ S8 _ _ _ (World.drew _)
  rw [← HW8.out]
  clear HW8
  refine tkE (S := S8) (i := 0) (oi := ⟨some 40, .move (.tmp 0), _, _, _, none⟩) (v := .pointer (some ⟨X, 0, none⟩)) rfl hS8 ?_
  simp only [Act.put, lsE, lsZ, lsS]
  refine tkE (S := S8) (i := 1) (oi := ⟨some 41, .nilCheck (.tmp 40), _, _, _, none⟩) (v := .pointer (some ⟨X, 0, none⟩)) rfl hS8 ?_
  simp only [Act.put, lsE, lsZ, lsS]
  refine tkE (S := S8) (i := 2) (oi := ⟨some 42, .fieldAddr 91 (.tmp 41) 1, _, _, _, none⟩) (v := .pointer (some ⟨X, 1, none⟩)) rfl hS8 ?_
  simp only [Act.put, lsE, lsZ, lsS]
  refine tkY (S := S8) (i := 3) (oi := ⟨some 43, .load 88 (.tmp 42), _, _, _, none⟩) (v := .pointer (some ⟨R, 0, none⟩)) rfl (Or.inl ⟨rfl, fun w' hs => exec_load 88 (.tmp 42) rfl ⟨X, 1, none⟩ rfl (run_loadAt_one ((cell_of_row _ X 1 _ _ _ hs.1).trans rfl) Tryz.underlying88 rfl)⟩) hS8 ?_
  simp only [Act.put, lsE, lsZ, lsS]
  refine tkY (S := S8) (i := 4) (oi := ⟨some 44, .load 196 (.tmp 3), _, _, _, none⟩) (v := .agg #[.int .i64 id, .int .i64 reply]) rfl (Or.inl ⟨rfl, fun w' hs => exec_load 196 (.tmp 3) rfl ⟨w.heap.size, 0, none⟩ rfl (loadM hs.2)⟩) hS8 ?_
  simp only [Act.put, lsE, lsZ, lsS]
  refine wpAnyH_all (rs := [5]) (by kernel_rfl) (by simp) ?_
  intro i5 hi5
  obtain rfl : i5 = 5 := by simpa using hi5
  refine wpOp_call (o := ⟨some 45, .call { callee := .value (.func 76), args := #[(.tmp 43), (.tmp 44)], argTypes := _ }, _, _, _, none⟩) (f := 76) (args := #[.pointer (some ⟨R, 0, none⟩), .agg #[.int .i64 id, .int .i64 reply]]) rfl rfl (by kernel_rfl) ?_
  rw [HID.out]
  refine (rMove_ok (h6.frz hfW8) hs hn hok hp reply ho hm).mono ?_
  rintro e1 w9 ⟨rfl, hR9, hf9⟩
  have hS9 : S8 w9 := ⟨hf9.keep hS8.1 (fun e => nX e.symm), hf9.keep hS8.2 (fun e => nM e.symm)⟩
  refine ⟨_, rfl, hS9, ?_⟩
  simp only [Act.put, lsE, lsZ, lsS]
  refine wpAnyH_done (by kernel_rfl) ?_ _
  have hd := hdis p.1 (.inr (.inr ⟨p, hp, rfl⟩))
  have hpl : p.1 < w.heap.size := lt_of_heap (h0.e p hp).2
  have hf69 : Fr (fun b => b = p.1) w6 w9 := (hfW8.mono (fun _ _ h => h.elim)).trans hf9 (fun _ _ h => h)
  have HE : Hid (DSAt w9 A B n dbase cache6 aD.2 ∧ VolAt w9 V A n ∧ Fr (fun b => JnF A B J cache b ∨ b = p.1 ∨ b = X) w w9 ∧ EngAt w9 X J R clock pause cv ∧ JAt w9 J V ((e : Int) + 1) true ∧ RollAt w9 R base room ev (mapE es p.2.id (·.go reply))) := by
   refine ⟨d6.fr hf69 (fun b hb e => ?_), vo6.fr hf69 (fun e => hd.2.1 e.symm), (hF6.mono (fun b _ h => .inl h)).trans hf69 (fun b _ h => .inr (.inl h)), hS9.1, j6.fr hf69 (fun e => hd.1 (.inr e.symm)), hR9⟩
   rw [e] at hb
   rcases hb with hb | hb | hb
   ·exact hd.1 (.inl (.inl hb))
   ·exact hd.1 (.inl (.inr (.inl hb)))
   ·rcases cb6' _ hb with h1 | h1
    ·exact hd.1 (.inl (.inr (.inr h1)))
    ·omega
  clear hS8 hS9 hR9 hf9 h6 hF6 hfW8 hf6 hs6 d6 vo6 hf69 j6
  go_wp2
  go_ret
  obtain ⟨p1, p2, p3, p4, p5, p6⟩ := HE.out
  exact ⟨_, cache6, rfl, by rw [← HAD.out]; exact p1, cb6', p2, p3, by rw [← HAD.out]; exact Sel.pos ok6 ⟨rfl, p4, p5, p6⟩⟩
 ·
  refine wpAnyH_all (rs := [8]) (by kernel_rfl) (by simp) ?_
  intro i8 hi8
  obtain rfl : i8 = 8 := by simpa using hi8
  refine wpOp_call (o := ⟨some 36, .call { callee := .value (.func 60), args := #[(.tmp 28), (.tmp 35)], argTypes := _ }, _, _, _, none⟩) (f := 60) (args := #[.pointer (some ⟨X, 0, none⟩), trV g6]) rfl rfl (by kernel_rfl) ?_
  refine (checked_tr g6 he6).mono ?_
  rintro e' w8 ⟨rfl, eB, hf8⟩
  have hXl := lt_of_heap he
  have hS8 : S4 w8 := ⟨(cell_of_row _ _ 0 _ _ _ eB).trans rfl, hf8.keep hS6.2 (by omega)⟩
  refine ⟨_, rfl, hS8, ?_⟩
  simp only [Act.put, lsE, lsZ, lsS]
  refine tkE (S := S4) (i := 9) (oi := ⟨some 5, .assign (.tmp 36), _, _, _, none⟩) (v := trV g6) rfl hS8 ?_
  simp only [Act.put, lsE, lsZ, lsS]
  refine wpAnyH_done (by kernel_rfl) ?_ _
  have nXd : ∀ b, DkF A B cache6 b → ¬ b = X := fun b hb e => d6.not he6 (by decide) (e ▸ hb)
  have nXR : ∀ b, RollF R ev es b → ¬ b = X := fun b hb => (hdis b hb).2.2
  have HE : Hid (DSAt w8 A B n dbase cache6 aD.2 ∧ VolAt w8 V A n ∧ Fr (fun b => JnF A B J cache b ∨ b = p.1 ∨ b = X) w w8 ∧ (∃ sb', JAt w8 J V e sb') ∧ RollAt w8 R base room ev es ∧ TrAt w8 g6) := by
   refine ⟨d6.fr hf8 nXd, vo6.fr hf8 (fun h => by have := he6; rw [← h] at this; have := this.symm.trans vo6; simp at this), (hF6.mono (fun b _ h => .inl h)).trans hf8 (fun b _ h => .inr (.inr h)), ?_, h6.fr hf8 nXR, t6.fr hf8 (fun b c t hb ht e => ?_)⟩
   ·obtain ⟨sb', j6⟩ := j6
    exact ⟨sb', j6.fr hf8 (fun h => nXj (.inr h.symm))⟩
   ·subst e
    have := he6.symm.trans hb
    simp at this
    rw [← this.2] at ht
    revert ht; decide
  clear hS4 hS5 hS6 hS8 hf5 hf6 hF2 hF5 hF6 hfW4 HS HMB h2 HADD h6 d6 vo6 j6 t6
  unfold trV
  go_wp2
  go_ret
  obtain ⟨p1, p2, p3, p4, p5, p6⟩ := HE.out
  exact ⟨_, cache6, rfl, by rw [← HAD.out]; exact p1, cb6', p2, p3, by rw [← HAD.out]; exact Sel.neg bad6 ⟨eB, p4, p5, g6, rfl, p6⟩⟩
end Go.Proofs.YteebjgfalllbjaaGreatDoor
