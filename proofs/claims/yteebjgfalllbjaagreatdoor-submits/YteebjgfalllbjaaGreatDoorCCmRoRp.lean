import Derived.Test.YteebjgfalllbjaaGreatDoorCFrRfRg
import Derived.Test.YteebjgfalllbjaaGreatDoorCFdOpAl
import Derived.Test.YteebjgfalllbjaaGreatDoorCNsNtSl
import Derived.Test.YteebjgfalllbjaaGreatDoorCOdStGd
namespace Go.Proofs.YteebjgfalllbjaaGreatDoor
open Go.RowKit

theorem isNaN_ok (x : Int) (w : World) : Calls Tryz.prog 161 #[.int .i64 x] w fun e w' => e = .returned (.bool false) ∧ w' = w := by
  go_enter Tryz.func161, Tryz.ntmps161
  go_wp2
  go_ret
  exact ⟨rfl, rfl⟩
def cmpI (x y : Int) : Int := if x < y then -1 else if y < x then 1 else 0
theorem Compare_ok (x y : Int) (w : World) : Calls Tryz.prog 146 #[.int .i64 x, .int .i64 y] w fun e w' => e = .returned (.int .i64 (cmpI x y)) ∧ w' = w := by
  have HC : Hid ((x < y → cmpI x y = -1) ∧ (y < x → cmpI x y = 1) ∧ (x = y → cmpI x y = 0)) := by
    unfold Hid cmpI
    refine ⟨fun h => by simp [h], fun h => ?_, fun h => by simp [h]⟩
    rw [if_neg (by omega), if_pos h]
  go_enter Tryz.func146, Tryz.ntmps146
  go_wp2_with fail
  refine (isNaN_ok x w).mono ?_
  rintro e w1 ⟨rfl, rfl⟩
  go_wp2_with fail
  refine (isNaN_ok y _).mono ?_
  rintro e w2 ⟨rfl, rfl⟩
  by_cases h1 : x < y
  · have h1' : decide (x < y) = true := by simpa using h1
    go_wp2
    go_ret
    exact ⟨by rw [HC.out.1 h1]; rfl, rfl⟩
  · by_cases h2 : y < x
    · go_wp2
      go_ret
      exact ⟨by rw [HC.out.2.1 h2]; rfl, rfl⟩
    · go_wp2
      go_ret
      exact ⟨by rw [HC.out.2.2 (by omega)]; rfl, rfl⟩
theorem place1_ok {w : World} {eb : Nat} {x : Int} (hx : w.cell? ⟨eb, 0, none⟩ = some (.int .i64 x)) (y : Int) : Calls Tryz.prog 145 #[.pointer (some ⟨eb, 0, none⟩), .int .i64 y] w fun e w' => e = .returned (.int .i64 (cmpI x y)) ∧ w' = w := by
  go_enter Tryz.func145, Tryz.ntmps145
  go_wp2_with fail
  refine (Compare_ok x y w).mono ?_
  rintro e w1 ⟨rfl, rfl⟩
  go_wp2
  go_ret
  exact ⟨rfl, rfl⟩
/-- Entries behind a slice: the block of each, and its id. -/
def EntsAt (w : World) (ao : Option Addr) (es : List (Nat × Int)) : Prop := ∀ i p, es[i]? = some p → ∃ g off, ao = some ⟨g, off, none⟩ ∧ w.cell? ⟨g, off + i, none⟩ = some (.pointer (some ⟨p.1, 0, none⟩)) ∧ w.cell? ⟨p.1, 0, none⟩ = some (.int .i64 p.2)
def Placed (es : List (Nat × Int)) (id : Int) (k : Nat) (t : Bool) : Prop := k ≤ es.length ∧ (∀ j p, j < k → es[j]? = some p → p.2 < id) ∧ (∀ p, es[k]? = some p → id ≤ p.2) ∧ (t = true ↔ ∃ p, es[k]? = some p ∧ p.2 = id)
def SearchQ (es : List (Nat × Int)) (id : Int) (w : World) (e : Ending) (w' : World) : Prop := ∃ k t, e = .returned (.tuple #[.int .i64 ((k : Nat) : Int), .bool t]) ∧ Placed es id k t ∧ Fr (fun _ => False) w w'
set_option maxRecDepth 100000 in
set_option maxHeartbeats 4000000 in
theorem Search_ok {w : World} {ao : Option Addr} {cap : Nat} {es : List (Nat × Int)} (he : EntsAt w ao es) (hn : es.length ≤ 100000) (hs : es.Pairwise (fun a b => a.2 < b.2)) (id : Int) :
    Calls Tryz.prog 144 #[.slice ao es.length cap, .int .i64 id, .func (.func 145) #[] #[]] w fun e w' => SearchQ es id w e w' := by
  have HE : Hid (EntsAt w ao es) := he
  have HS : Hid (es.Pairwise (fun a b => a.2 < b.2)) := hs
  clear he hs
  go_enter Tryz.func144, Tryz.ntmps144
  go_wp2
  go_loopw [9, 10] (fun a b wr => ∃ lo hi : Nat, a = .int .i64 lo ∧ b = .int .i64 hi ∧ lo ≤ hi ∧ hi ≤ es.length ∧ Hid (Fr (fun _ => False) w wr) ∧ Hid ((∀ j p, j < lo → es[j]? = some p → p.2 < id) ∧ (∀ j p, hi ≤ j → es[j]? = some p → id ≤ p.2))) (fun a b _ => (intOf b).toNat - (intOf a).toNat)
  case atStart => exact ⟨0, es.length, rfl, rfl, Nat.zero_le _, Nat.le_refl _, Fr.refl _ _, (⟨fun j _ hj => absurd hj (by omega), fun j p hj hp => by have := (List.getElem?_eq_some_iff.1 hp).1; omega⟩ : (∀ j p, j < 0 → es[j]? = some p → p.2 < id) ∧ (∀ j p, es.length ≤ j → es[j]? = some p → id ≤ p.2))⟩
  case round =>
    obtain ⟨lo, hi, rfl, rfl, hlh, hhn, HR, HT⟩ := hrel
    by_cases hlt : lo < hi
    · have hlt' : (lo : Int) < hi := by omega
      obtain ⟨m, hm⟩ : ∃ m : Nat, m = (lo + hi) / 2 := ⟨_, rfl⟩
      have hmi : ((lo : Int) + hi) / 2 = m := by omega
      have hm1 : lo ≤ m ∧ m < hi := by omega
      have hml : (m : Int) < es.length := by omega
      obtain ⟨p, hp⟩ : ∃ p, es[m]? = some p := ⟨_, List.getElem?_eq_getElem (by omega)⟩
      obtain ⟨g, off, rfl, hc1, hc2⟩ := HE.out m p hp
      have c1 := HR.out.cell hc1 (fun h => h)
      have c2 := HR.out.cell hc2 (fun h => h)
      have HP : Hid (es[m]? = some p) := hp
      clear hc1 hc2 hp hm
      go_wp2_with fail
      refine (place1_ok c2 id).mono ?_
      rintro e w2 ⟨rfl, hw⟩
      rw [hw]
      clear hw
      have HSS : Hid (∀ j q, es[j]? = some q → (j < m → q.2 < p.2) ∧ (m < j → p.2 < q.2)) := fun j q hq => by
        have hpw := List.pairwise_iff_getElem.1 HS.out
        obtain ⟨hj, rfl⟩ := List.getElem?_eq_some_iff.1 hq
        obtain ⟨hm, hpm⟩ := List.getElem?_eq_some_iff.1 HP.out
        rw [← hpm]
        exact ⟨fun h => hpw j m hj hm h, fun h => hpw m j hm hj h⟩
      by_cases hpi : p.2 < id
      · have ec : cmpI p.2 id = -1 := by simp [cmpI, hpi]
        rw [ec]
        have HN : Hid ((∀ j q, j < m + 1 → es[j]? = some q → q.2 < id) ∧ (∀ j q, hi ≤ j → es[j]? = some q → id ≤ q.2)) := ⟨fun j q hj hq => by
          by_cases e : j = m
          · subst e; rw [HP.out] at hq; cases hq; exact hpi
          · have := (HSS.out j q hq).1 (by omega); omega, HT.out.2⟩
        clear HT c1 c2 ec
        go_wp2
        go_roundw
        case rel => exact ⟨m + 1, hi, by go_num, rfl, by omega, hhn, HR, HN⟩
        case measure => simp [intOf]; omega
      · have ec : 0 ≤ cmpI p.2 id := by unfold cmpI; rw [if_neg hpi]; split <;> omega
        have ec' : ¬ cmpI p.2 id < 0 := by omega
        obtain ⟨cz, hcz⟩ : ∃ cz, cmpI p.2 id = cz := ⟨_, rfl⟩
        rw [hcz] at ec ec' ⊢
        have HN : Hid ((∀ j q, j < lo → es[j]? = some q → q.2 < id) ∧ (∀ j q, m ≤ j → es[j]? = some q → id ≤ q.2)) := ⟨HT.out.1, fun j q hj hq => by
          by_cases e : j = m
          · subst e; rw [HP.out] at hq; cases hq; omega
          · have := (HSS.out j q hq).2 (by omega); omega⟩
        clear HT c1 c2 hcz
        go_wp2
        go_roundw
        case rel => exact ⟨lo, m, rfl, rfl, by omega, by omega, HR, HN⟩
        case measure => simp [intOf]; omega
    · have hlt' : ¬ (lo : Int) < hi := by omega
      obtain rfl : lo = hi := by omega
      by_cases hln : lo < es.length
      · have hln' : (lo : Int) < es.length := by omega
        obtain ⟨p, hp⟩ : ∃ p, es[lo]? = some p := ⟨_, List.getElem?_eq_getElem hln⟩
        obtain ⟨g, off, rfl, hc1, hc2⟩ := HE.out lo p hp
        have c1 := HR.out.cell hc1 (fun h => h)
        have c2 := HR.out.cell hc2 (fun h => h)
        have HP : Hid (es[lo]? = some p) := hp
        clear hc1 hc2 hp
        go_wp2_with fail
        refine (place1_ok c2 id).mono ?_
        rintro e w2 ⟨rfl, hw⟩
        rw [hw]
        clear hw
        have hge := HT.out.2 lo p (Nat.le_refl _) HP.out
        by_cases hpi : p.2 = id
        · have ec : cmpI p.2 id = 0 := by simp [cmpI, hpi]
          rw [ec]
          have HQ : Hid (Placed es id lo true) := ⟨hhn, HT.out.1, fun q hq => HT.out.2 _ q (Nat.le_refl _) hq, by simp [HP.out, hpi]⟩
          clear ec c1 c2 HT
          go_wp2
          go_ret2
          exact ⟨lo, true, rfl, HQ.out, HR.out⟩
        · have ec : cmpI p.2 id = 1 := by unfold cmpI; rw [if_neg (by omega), if_pos (by omega)]
          rw [ec]
          have HQ : Hid (Placed es id lo false) := ⟨hhn, HT.out.1, fun q hq => HT.out.2 _ q (Nat.le_refl _) hq, by simp [HP.out, hpi]⟩
          clear ec c1 c2 HT
          go_wp2
          go_ret2
          exact ⟨lo, false, rfl, HQ.out, HR.out⟩
      · have hln' : ¬ (lo : Int) < es.length := by omega
        obtain rfl : lo = es.length := by omega
        have HQ : Hid (Placed es id es.length false) := ⟨Nat.le_refl _, HT.out.1, fun p hp => HT.out.2 _ p (Nat.le_refl _) hp, by simp⟩
        go_wp2
        go_ret2
        exact ⟨es.length, false, rfl, HQ.out, HR.out⟩
end Go.Proofs.YteebjgfalllbjaaGreatDoor
namespace Go.Proofs.YteebjgfalllbjaaGreatDoor
open Go.RowKit

/-- An entry of the roll: the saga, and how it stands. -/
def entC (a : AS) : List Value := sagaC a.id a.st.length (six a.st) ++ a.told.cs
theorem entC_len (a : AS) (h : a.st.length ≤ 6) : (entC a).length = 20 := by
  rw [entC, List.length_append, sagaC_len _ _ _ (six_len _ h)]; rfl
def epv (p : Nat × AS) : Value := .pointer (some ⟨p.1, 0, none⟩)
/-- The roll of an engine. -/
structure RollAt (w : World) (R base : Nat) (room : Int) (ev : Value) (es : List (Nat × AS)) : Prop where
  r : w.heap[R]? = some (.cells #[ev, .int .i64 room] 176 (0, 0))
  o : w.ownsRow base 136 1 ev es.length (es.map epv)
  e : ∀ p ∈ es, base ≤ p.1 ∧ w.heap[p.1]? = some (.cells (entC p.2).toArray 140 (0, 0))
/-- The blocks of a roll. -/
def RollF (R : Nat) (ev : Value) (es : List (Nat × AS)) (b : Nat) : Prop := b = R ∨ ev.ownBlock = some b ∨ ∃ p ∈ es, b = p.1
section
variable {w w' : World} {R base : Nat} {room : Int} {ev : Value} {es : List (Nat × AS)}
theorem RollAt.fr {S : Nat → Prop} (h : RollAt w R base room ev es) (hf : Fr S w w') (hS : ∀ b, RollF R ev es b → ¬ S b) : RollAt w' R base room ev es :=
  ⟨hf.keep h.r (hS _ (.inl rfl)), own_fr h.o hf (fun b _ _ hb => hS b (.inr (.inl hb))), fun p hp => ⟨(h.e p hp).1, hf.keep (h.e p hp).2 (hS _ (.inr (.inr ⟨p, hp, rfl⟩)))⟩⟩
theorem RollAt.frz (h : RollAt w R base room ev es) (hf : Fr (fun _ => False) w w') : RollAt w' R base room ev es := h.fr hf (fun _ _ => id)
theorem RollAt.form (h : RollAt w R base room ev es) : ∃ ao cap, ev = .slice ao es.length cap := by
  rcases h.o.2 with ⟨rfl, hn⟩ | ⟨g, cap, cur, rfl, _⟩
  · exact ⟨none, 0, by rw [hn]⟩
  · exact ⟨_, _, rfl⟩
theorem RollAt.c0 (h : RollAt w R base room ev es) : w.cell? ⟨R, 0, none⟩ = some ev := (cell_of_row w R 0 _ _ _ h.r).trans rfl
theorem RollAt.c1 (h : RollAt w R base room ev es) : w.cell? ⟨R, 1, none⟩ = some (.int .i64 room) := (cell_of_row w R 1 _ _ _ h.r).trans rfl
theorem RollAt.fz (h : RollAt w R base room ev es) (j : Nat) : w.frozen? ⟨R, j, none⟩ = false := frozen_of_row w R j _ _ h.r
theorem own_cell {w : World} {base n : Nat} {t : TypeId} {ao : Option Addr} {cap : Nat} {xs : List Value} (h : w.ownsRow base t 1 (.slice ao n cap) n xs) {i : Nat} {v : Value} (hi : xs[i]? = some v) : ∃ g, ao = some ⟨g, 0, none⟩ ∧ w.cell? ⟨g, i, none⟩ = some v := by
  rcases h.2 with ⟨hv, hn⟩ | ⟨g, cap', cur, hv, _, hg, _, _, _, hx⟩
  · have := h.1
    have h2 := (List.getElem?_eq_some_iff.1 hi).1
    omega
  · cases hv
    refine ⟨g, rfl, (cell_of_row w g i _ _ _ hg).trans ?_⟩
    rw [← hx] at hi
    rw [List.getElem?_take] at hi
    split at hi
    · simpa using hi
    · cases hi
theorem RollAt.ent {ao : Option Addr} {cap : Nat} (h : RollAt w R base room (.slice ao es.length cap) es) : EntsAt w ao (es.map fun p => (p.1, p.2.id)) := by
  intro i p hp
  rw [List.getElem?_map] at hp
  obtain ⟨q, hq, rfl⟩ := Option.map_eq_some_iff.1 hp
  obtain ⟨g, e1, e2⟩ := own_cell h.o (i := i) (v := epv q) (by rw [List.getElem?_map, hq]; rfl)
  refine ⟨g, 0, e1, by rw [Nat.zero_add]; exact e2, (cell_of_row w q.1 0 _ _ _ (h.e q (List.mem_of_getElem? hq)).2).trans ?_⟩
  simp [entC, sagaC]
end
section
variable {w : World} {R base : Nat} {room : Int} {ev : Value} {es : List (Nat × AS)}
def idsOf (es : List (Nat × AS)) : List (Nat × Int) := es.map fun p => (p.1, p.2.id)
def Sorted (es : List (Nat × AS)) : Prop := es.Pairwise (fun a b => a.2.id < b.2.id)
theorem sorted_ids (h : Sorted es) : (idsOf es).Pairwise (fun a b => a.2 < b.2) := by
  unfold idsOf; rw [List.pairwise_map]; exact h
set_option maxRecDepth 100000 in
theorem place_ok (h : RollAt w R base room ev es) (hs : Sorted es) (hn : es.length ≤ 100000) (id : Int) : Calls Tryz.prog 99 #[.pointer (some ⟨R, 0, none⟩), .int .i64 id] w fun e w' => SearchQ (idsOf es) id w e w' := by
  have hmf : ∀ (fn : Fn) (first cap : Array Value) (w : World), (Instr.makeFunc fn first cap).run Tryz.prog w = .ok (.func fn first cap) w := fun _ _ _ _ => rfl
  obtain ⟨ao, cap, rfl⟩ := h.form
  have c0 := h.c0
  have HS := Search_ok (cap := cap) (es := idsOf es) h.ent (by simpa [idsOf] using hn) (sorted_ids hs) id
  rw [show (idsOf es).length = es.length by simp [idsOf]] at HS
  go_enter Tryz.func99, Tryz.ntmps99
  go_wp2_with fail
  refine HS.mono ?_
  rintro e w2 ⟨k, t, rfl, hp, hf⟩
  go_wp2
  go_ret2
  exact ⟨k, t, rfl, hp, hf⟩
def FindE (es : List (Nat × AS)) (id : Int) (v : Value) : Prop := (∃ p ∈ es, p.2.id = id ∧ v = epv p) ∨ ((∀ p ∈ es, p.2.id ≠ id) ∧ v = .pointer none)
theorem placed_find (hs : Sorted es) {id : Int} {k : Nat} (hp : Placed (idsOf es) id k false) : ∀ p ∈ es, p.2.id ≠ id := by
  intro p hpe e
  obtain ⟨j, hj, rfl⟩ := List.mem_iff_getElem.1 hpe
  have hj' : (idsOf es)[j]? = some (es[j].1, es[j].2.id) := by simp [idsOf, List.getElem?_eq_getElem hj]
  rcases Nat.lt_trichotomy j k with h | h | h
  · have := hp.2.1 j _ h hj'; simp at this; omega
  · subst h; have := hp.2.2.2.2 ⟨_, hj', e⟩; simp at this
  · have hk : k < (idsOf es).length := by simp [idsOf]; omega
    have h1 := hp.2.2.1 _ (List.getElem?_eq_getElem hk)
    have h2 := List.pairwise_iff_getElem.1 (sorted_ids hs) k j hk (by simp [idsOf]; exact hj) h
    simp [idsOf] at h1 h2
    omega
set_option maxRecDepth 100000 in
theorem rfind_ok (h : RollAt w R base room ev es) (hs : Sorted es) (hn : es.length ≤ 100000) (id : Int) : Calls Tryz.prog 67 #[.pointer (some ⟨R, 0, none⟩), .int .i64 id] w fun e w' => ∃ v, e = .returned v ∧ FindE es id v ∧ Fr (fun _ => False) w w' := by
  go_enter Tryz.func67, Tryz.ntmps67
  go_wp2_with fail
  refine (place_ok h hs hn id).mono ?_
  rintro e w2 ⟨k, t, rfl, hp, hf⟩
  have h2 := h.frz hf
  have c0 := h2.c0
  cases t
  · go_wp2
    go_ret
    exact ⟨_, rfl, .inr ⟨placed_find hs hp, rfl⟩, hf⟩
  · obtain ⟨q, hq, hid⟩ := hp.2.2.2.1 rfl
    rw [idsOf, List.getElem?_map] at hq
    obtain ⟨p, hpk, rfl⟩ := Option.map_eq_some_iff.1 hq
    obtain ⟨ao, cap, rfl⟩ := h.form
    obtain ⟨g, rfl, hc⟩ := own_cell h2.o (i := k) (v := epv p) (by rw [List.getElem?_map, hpk]; rfl)
    have hkl : k < es.length := (List.getElem?_eq_some_iff.1 hpk).1
    have hkl' : (k : Int) < es.length := by omega
    unfold epv at hc
    go_wp2
    go_ret
    exact ⟨_, rfl, .inl ⟨p, List.mem_of_getElem? hpk, hid, rfl⟩, hf⟩
end
end Go.Proofs.YteebjgfalllbjaaGreatDoor
namespace Go.Proofs.YteebjgfalllbjaaGreatDoor
open Go.RowKit
theorem stand_size : (Tryz.prog.info? 138).map (·.size) = some 6 := by kernel_rfl
section
variable {w : World} {R base : Nat} {room : Int} {ev : Value} {es : List (Nat × AS)}
theorem RollAt.saga {p : Nat × AS} (h : RollAt w R base room ev es) (hp : p ∈ es) : w.rangeAt p.1 0 (sagaC p.2.id p.2.st.length (six p.2.st)) := fun j v hv => (cell_of_row w _ (0 + j) _ _ _ (h.e p hp).2).trans (by
  have hj := (List.getElem?_eq_some_iff.1 hv).1
  rw [Nat.zero_add, List.getElem?_toArray, entC, List.getElem?_append_left hj]; exact hv)
theorem RollAt.stand {p : Nat × AS} (h : RollAt w R base room ev es) (hp : p ∈ es) (h6 : p.2.st.length ≤ 6) : w.rangeAt p.1 14 p.2.told.cs := fun j v hv => (cell_of_row w _ (14 + j) _ _ _ (h.e p hp).2).trans (by
  have hl := sagaC_len p.2.id p.2.st.length _ (six_len _ h6)
  rw [List.getElem?_toArray, entC, List.getElem?_append_right (by omega), hl, Nat.add_sub_cancel_left]; exact hv)
theorem run_store14 {w : World} {g : Nat} {cs r : List Value} {t : TypeId} (hg : w.heap[g]? = some (.cells cs.toArray t (0, 0))) (hc : cs.length = 14) (hl : r.length = 14) (h1 : ∀ v ∈ r, v.oneCell' = true) : (Instr.storeAt 122 (.pointer (some ⟨g, 0, none⟩)) (.agg r.toArray)).run Tryz.prog w = .ok () (w.setRow g r.toArray) := by
  have := run_storeAt_row (P := Tryz.prog) (o := 0) (ty := 122) (vs := r) hg (by omega) h1 (by rw [rsaga_size, hl])
  rwa [show splice cs 0 r = r from by simp [splice, hl, hc]] at this
theorem noS_len : noS.length = 14 := sagaC_len _ _ _ (six_len _ (by simp))
set_option maxRecDepth 100000 in
set_option maxHeartbeats 1000000 in
theorem rollSaga_ok (h : RollAt w R base room ev es) (hs : Sorted es) (hn : es.length ≤ 100000) (h6 : ∀ p ∈ es, p.2.st.length ≤ 6) (id : Int) : Calls Tryz.prog 58 #[.pointer (some ⟨R, 0, none⟩), .int .i64 id] w fun e w' => ((∃ p ∈ es, p.2.id = id ∧ e = .returned (.tuple #[.agg (sagaC p.2.id p.2.st.length (six p.2.st)).toArray, .bool true])) ∨ ((∀ p ∈ es, p.2.id ≠ id) ∧ e = .returned (.tuple #[.agg noS.toArray, .bool false]))) ∧ Fr (fun _ => False) w w' := by
  have hfa : Fr (fun _ => False) w (w.alloc (.cells noS.toArray 122)) := (Fr.refl _ _).alloc _
  have HC := rfind_ok (h.frz hfa) hs hn id
  go_enter Tryz.func58, Tryz.ntmps58
  go_wp2_with fail
  refine HC.mono ?_
  rintro e w2 ⟨v, rfl, hv, hf⟩
  have h2 := (h.frz hfa).frz hf
  have hF := hfa.trans hf (fun _ _ h => h)
  have hR : w2.heap[w.heap.size]? = some (.cells noS.toArray 122 (0, 0)) := hf.keep (heap_alloc_at _ _) (fun h => h)
  clear hfa hf HC h
  rcases hv with ⟨p, hp, hid, rfl⟩ | ⟨hno, rfl⟩
  · have hr := h2.saga hp
    have hl := sagaC_len p.2.id p.2.st.length _ (six_len _ (h6 p hp))
    have hst := run_store14 hR noS_len hl (sagaC_one _ _ _)
    have hRE := setRow_heap w2 w.heap.size _ (sagaC p.2.id p.2.st.length (six p.2.st)).toArray 122 (0, 0) hR
    obtain ⟨WE, HWE⟩ : ∃ WE, Hid (WE = w2.setRow w.heap.size (sagaC p.2.id p.2.st.length (six p.2.st)).toArray) := ⟨_, rfl⟩
    have hFE : Fr (fun _ => False) w WE := by rw [HWE.out]; exact hF.setRow _ (fun h => by omega) _
    rw [← HWE.out] at hst hRE
    have HE : Hid (∃ p ∈ es, p.2.id = id ∧ Ending.returned (.tuple #[.agg (sagaC p.2.id p.2.st.length (six p.2.st)).toArray, .bool true]) = Ending.returned (.tuple #[.agg (sagaC p.2.id p.2.st.length (six p.2.st)).toArray, .bool true])) := ⟨p, hp, hid, rfl⟩
    unfold epv
    clear HWE h2 hF
    go_wp2_with (first | (refine wpList_load_mid rfl 122 _ rfl p.1 0 ?_ _ _ hr Tryz.underlying122 rfl ?_ ?_; rfl; (rw [rsaga_size, hl])) | (refine wpList_store 122 (w' := WE) _ _ rfl rfl ?_ ?_; exact hst))
    refine bodyPost_ret (results_row_tmp Tryz.results58 _ _ w.heap.size 122 _ (0, 0) _ rfl hRE Tryz.underlying122 rfl (by rw [rsaga_size, List.size_toArray, hl])) rfl ⟨.inl ⟨p, hp, hid, rfl⟩, hFE⟩
  · have hst := run_store14 hR noS_len noS_len (sagaC_one _ _ _)
    have hRE := setRow_heap w2 w.heap.size _ noS.toArray 122 (0, 0) hR
    obtain ⟨WE, HWE⟩ : ∃ WE, Hid (WE = w2.setRow w.heap.size noS.toArray) := ⟨_, rfl⟩
    have hFE : Fr (fun _ => False) w WE := by rw [HWE.out]; exact hF.setRow _ (fun h => by omega) _
    rw [← HWE.out] at hst hRE
    have HN : Hid (∀ p ∈ es, p.2.id ≠ id) := hno
    clear HWE h2 hF hno
    go_wp2_with (first | (refine wpList_store 122 (w' := WE) _ _ rfl rfl ?_ ?_; exact hst))
    refine bodyPost_ret (results_row_tmp Tryz.results58 _ _ w.heap.size 122 _ (0, 0) _ rfl hRE Tryz.underlying122 rfl (by kernel_rfl)) rfl ⟨.inr ⟨HN.out, rfl⟩, hFE⟩
theorem sagaC_rest (id : Int) (n : Nat) (l : List SS) : ∃ rest, (sagaC id n l).toArray = (Value.int .i64 id :: .int .i64 n :: rest).toArray := ⟨_, rfl⟩
set_option maxRecDepth 100000 in
theorem need_ok (id : Int) (st : List SS) (w : World) (h6 : st.length ≤ 6) : Calls Tryz.prog 90 #[.agg (sagaC id st.length (six st)).toArray] w fun e w' => e = .returned (.int .i64 (2 * st.length)) ∧ Fr (fun _ => False) w w' := by
  have hrow := heap_alloc_at w (.cells (sagaC id st.length (six st)).toArray 122)
  have c1 : (w.alloc (.cells (sagaC id st.length (six st)).toArray 122)).cell? ⟨w.heap.size, 1, none⟩ = some (.int .i64 st.length) := (cell_of_row _ _ 1 _ _ _ hrow).trans rfl
  have hf : Fr (fun _ => False) w (w.alloc (.cells (sagaC id st.length (six st)).toArray 122)) := (Fr.refl _ _).alloc _
  have h6' : (st.length : Int) ≤ 6 := by omega
  go_enter Tryz.func90, Tryz.ntmps90
  go_wp2
  go_ret
  exact ⟨by go_num, hf⟩
theorem exec_leq {ρ : Operand → Value} {o : Oper} {x y : Operand} {a b : Int} (ho : o.op = .binOp .leq 3 x y 3) (hx : ρ x = .int .i64 a) (hy : ρ y = .int .i64 b) (w : World) : (execOp ρ o).run Tryz.prog w = .ok (.value (.bool (decide (a ≤ b)))) w := by
  simp only [execOp, ho, hx, hy]
  kernel_rfl
/-- A saga is loaded whole. -/
theorem load14 {w : World} {g : Nat} {id : Int} {st : List SS} {t : TypeId} (h : w.heap[g]? = some (.cells (sagaC id st.length (six st)).toArray t (0, 0))) (h6 : st.length ≤ 6) : (Instr.loadAt 122 (.pointer (some ⟨g, 0, none⟩))).run Tryz.prog w = .ok (.agg (sagaC id st.length (six st)).toArray) w :=
  run_loadAt_mid w g 0 122 (sagaC id st.length (six st)) _ (fun j v hv => (cell_of_row w g (0 + j) _ _ _ h).trans (by simpa using hv)) Tryz.underlying122 rfl (by rw [rsaga_size, sagaC_len _ _ _ (six_len _ h6)])
set_option maxRecDepth 100000 in
theorem Fits_ok (h : RollAt w R base room ev es) (id : Int) (st : List SS) (h6 : st.length ≤ 6) : Calls Tryz.prog 59 #[.pointer (some ⟨R, 0, none⟩), .agg (sagaC id st.length (six st)).toArray] w fun e w' => e = .returned (.bool (decide (2 * (st.length : Int) ≤ room))) ∧ Fr (fun _ => False) w w' := by
  have hlift : Tryz.prog.follows .mixedOrders = true := by kernel_rfl
  have hrow := heap_alloc_at w (.cells (sagaC id st.length (six st)).toArray 122)
  have hfa : Fr (fun _ => False) w (w.alloc (.cells (sagaC id st.length (six st)).toArray 122)) := (Fr.refl _ _).alloc _
  have hR := h.frz hfa
  go_enter Tryz.func59, Tryz.ntmps59
  go_wp2
  obtain ⟨W, HW⟩ : ∃ W, Hid (W = (w.alloc (.cells (sagaC id st.length (six st)).toArray 122)).drew) := ⟨_, rfl⟩
  have hfW : Fr (fun _ => False) (w.alloc (.cells (sagaC id st.length (six st)).toArray 122)) W := by rw [HW.out]; exact (Fr.refl _ _).drew
  let S : World → Prop := fun w' => w'.cell? ⟨R, 1, none⟩ = some (.int .i64 room) ∧ w'.heap[w.heap.size]? = some (.cells (sagaC id st.length (six st)).toArray 122 (0, 0))
  have hS : S W := ⟨(hR.frz hfW).c1, hfW.keep hrow (fun h => h)⟩
  refine wp_region_held (S := S) hlift ?_
  change wpAnyH _ _ _ _ S _ _ _ (World.drew _)
  rw [← HW.out]
  clear HW
  refine wpAnyH_take (S := S) (i := 0) (oi := ⟨some 5, .load 122 (.tmp 3), _, _, _, none⟩) (v := .agg (sagaC id st.length (six st)).toArray) rfl (by kernel_rfl) (by kernel_rfl) (by kernel_rfl) (fun _ _ _ h => h) (Or.inl ⟨rfl, fun w' hs => exec_load 122 (.tmp 3) rfl ⟨w.heap.size, 0, none⟩ rfl (load14 hs.2 h6)⟩) hS ?_
  simp only [Act.put, List.setIfInBounds_toArray, List.set_cons_zero, List.set_cons_succ]
  refine wpAnyH_take (S := S) (i := 2) (oi := ⟨some 7, .move (.tmp 0), _, _, _, none⟩) (v := .pointer (some ⟨R, 0, none⟩)) rfl (by kernel_rfl) (by kernel_rfl) (by kernel_rfl) (fun _ _ _ h => h) (Or.inl ⟨rfl, fun _ _ => rfl⟩) hS ?_
  simp only [Act.put, List.setIfInBounds_toArray, List.set_cons_zero, List.set_cons_succ]
  refine wpAnyH_take (S := S) (i := 3) (oi := ⟨some 8, .nilCheck (.tmp 7), _, _, _, none⟩) (v := .pointer (some ⟨R, 0, none⟩)) rfl (by kernel_rfl) (by kernel_rfl) (by kernel_rfl) (fun _ _ _ h => h) (Or.inl ⟨rfl, fun _ _ => by kernel_rfl⟩) hS ?_
  simp only [Act.put, List.setIfInBounds_toArray, List.set_cons_zero, List.set_cons_succ]
  refine wpAnyH_take (S := S) (i := 4) (oi := ⟨some 9, .fieldAddr 176 (.tmp 8) 1, _, _, _, none⟩) (v := .pointer (some ⟨R, 1, none⟩)) rfl (by kernel_rfl) (by kernel_rfl) (by kernel_rfl) (fun _ _ _ h => h) (Or.inl ⟨rfl, fun _ _ => by kernel_rfl⟩) hS ?_
  simp only [Act.put, List.setIfInBounds_toArray, List.set_cons_zero, List.set_cons_succ]
  refine wpAnyH_take (S := S) (i := 5) (oi := ⟨some 10, .load 3 (.tmp 9), _, _, _, none⟩) (v := .int .i64 room) rfl (by kernel_rfl) (by kernel_rfl) (by kernel_rfl) (fun _ _ _ h => h) (Or.inl ⟨rfl, fun w' hs => exec_load 3 (.tmp 9) rfl ⟨R, 1, none⟩ rfl (run_loadAt_one hs.1 Tryz.underlying3 rfl)⟩) hS ?_
  simp only [Act.put, List.setIfInBounds_toArray, List.set_cons_zero, List.set_cons_succ]
  refine wpAnyH_all (rs := [1]) (by kernel_rfl) (by simp) ?_
  intro i1 hi1
  obtain rfl : i1 = 1 := by simpa using hi1
  refine wpOp_call (o := ⟨some 6, .call { callee := .value (.func 90), args := #[(.tmp 5)], argTypes := _ }, _, _, _, none⟩) (f := 90) (args := #[.agg (sagaC id st.length (six st)).toArray]) rfl rfl (by kernel_rfl) ?_
  refine (need_ok id st W h6).mono ?_
  rintro e w3 ⟨rfl, hf3⟩
  have hS3 : S w3 := ⟨hf3.cell hS.1 (fun h => h), hf3.keep hS.2 (fun h => h)⟩
  refine ⟨_, rfl, hS3, ?_⟩
  simp only [Act.put, List.setIfInBounds_toArray, List.set_cons_zero, List.set_cons_succ]
  refine wpAnyH_take (S := S) (i := 6) (oi := ⟨some 11, .binOp .leq 3 (.tmp 6) (.tmp 10) 3, _, _, _, none⟩) (v := .bool (decide (2 * (st.length : Int) ≤ room))) rfl (by kernel_rfl) (by kernel_rfl) (by kernel_rfl) (fun _ _ _ h => h) (Or.inl ⟨rfl, fun w' _ => exec_leq rfl rfl rfl w'⟩) hS3 ?_
  simp only [Act.put, List.setIfInBounds_toArray, List.set_cons_zero, List.set_cons_succ]
  refine wpAnyH_take (S := S) (i := 7) (oi := ⟨some 4, .assign (.tmp 11), _, _, _, none⟩) (v := .bool (decide (2 * (st.length : Int) ≤ room))) rfl (by kernel_rfl) (by kernel_rfl) (by kernel_rfl) (fun _ _ _ h => h) (Or.inl ⟨rfl, fun _ _ => rfl⟩) hS3 ?_
  simp only [Act.put, List.setIfInBounds_toArray, List.set_cons_zero, List.set_cons_succ]
  refine wpAnyH_done (by kernel_rfl) ?_ _
  go_wp2
  go_ret
  exact ⟨rfl, (hfa.trans hfW (fun _ _ h => h)).trans hf3 (fun _ _ h => h)⟩
theorem status_size : (Tryz.prog.info? 42).map (·.size) = some 6 := by kernel_rfl
theorem ST.len (s : ST) : s.cs.length = 6 := rfl
theorem ST.one (s : ST) : ∀ v ∈ s.cs, v.oneCell' = true := by intro v hv; simp only [ST.cs, List.mem_cons, List.not_mem_nil, or_false] at hv; rcases hv with rfl | rfl | rfl | rfl | rfl | rfl <;> rfl
theorem run_store6 {w : World} {g : Nat} {cs r : List Value} {t ty : TypeId} (hg : w.heap[g]? = some (.cells cs.toArray t (0, 0))) (hc : cs.length = 6) (hl : r.length = 6) (h1 : ∀ v ∈ r, v.oneCell' = true) (hi : (Tryz.prog.info? ty).map (·.size) = some 6) : (Instr.storeAt ty (.pointer (some ⟨g, 0, none⟩)) (.agg r.toArray)).run Tryz.prog w = .ok () (w.setRow g r.toArray) := by
  have := run_storeAt_row (P := Tryz.prog) (o := 0) (ty := ty) (vs := r) hg (by omega) h1 (by rw [hi, hl])
  rwa [show splice cs 0 r = r from by simp [splice, hl, hc]] at this
set_option maxRecDepth 100000 in
set_option maxHeartbeats 1000000 in
theorem rollStatus_ok (h : RollAt w R base room ev es) (hs : Sorted es) (hn : es.length ≤ 100000) (h6 : ∀ p ∈ es, p.2.st.length ≤ 6) (id : Int) : Calls Tryz.prog 44 #[.pointer (some ⟨R, 0, none⟩), .int .i64 id] w fun e w' => ((∃ p ∈ es, p.2.id = id ∧ e = .returned (.tuple #[.agg p.2.told.cs.toArray, .bool true])) ∨ ((∀ p ∈ es, p.2.id ≠ id) ∧ e = .returned (.tuple #[.agg zST.cs.toArray, .bool false]))) ∧ Fr (fun _ => False) w w' := by
  have hfa : Fr (fun _ => False) w (w.alloc (.cells zST.cs.toArray 42)) := (Fr.refl _ _).alloc _
  have HC := rfind_ok (h.frz hfa) hs hn id
  go_enter Tryz.func44, Tryz.ntmps44
  go_wp2_with fail
  refine HC.mono ?_
  rintro e w2 ⟨v, rfl, hv, hf⟩
  have h2 := (h.frz hfa).frz hf
  have hF := hfa.trans hf (fun _ _ h => h)
  have hR : w2.heap[w.heap.size]? = some (.cells zST.cs.toArray 42 (0, 0)) := hf.keep (heap_alloc_at _ _) (fun h => h)
  clear hfa hf HC h
  rcases hv with ⟨p, hp, hid, rfl⟩ | ⟨hno, rfl⟩
  · have hr := h2.stand hp (h6 p hp)
    have hst := run_store6 (ty := 42) hR rfl p.2.told.len p.2.told.one status_size
    have hRE := setRow_heap w2 w.heap.size _ p.2.told.cs.toArray 42 (0, 0) hR
    obtain ⟨WE, HWE⟩ : ∃ WE, Hid (WE = w2.setRow w.heap.size p.2.told.cs.toArray) := ⟨_, rfl⟩
    have hFE : Fr (fun _ => False) w WE := by rw [HWE.out]; exact hF.setRow _ (fun h => by omega) _
    rw [← HWE.out] at hst hRE
    unfold epv
    clear HWE h2 hF
    go_wp2_with (first | (refine wpList_load_mid rfl 138 _ rfl p.1 14 ?_ _ _ hr Tryz.underlying138 rfl ?_ ?_; rfl; exact stand_size) | (refine wpList_store 42 (w' := WE) _ _ rfl rfl ?_ ?_; exact hst))
    refine bodyPost_ret (results_row_tmp Tryz.results44 _ _ w.heap.size 42 _ (0, 0) _ rfl hRE Tryz.underlying42 rfl status_size) rfl ⟨.inl ⟨p, hp, hid, rfl⟩, hFE⟩
  · have HN : Hid (∀ p ∈ es, p.2.id ≠ id) := hno
    have hst := run_store6 (ty := 42) hR rfl zST.len zST.one status_size
    have hRE := setRow_heap w2 w.heap.size _ zST.cs.toArray 42 (0, 0) hR
    obtain ⟨WE, HWE⟩ : ∃ WE, Hid (WE = w2.setRow w.heap.size zST.cs.toArray) := ⟨_, rfl⟩
    have hFE : Fr (fun _ => False) w WE := by rw [HWE.out]; exact hF.setRow _ (fun h => by omega) _
    rw [← HWE.out] at hst hRE
    clear HWE h2 hF hno
    go_wp2_with (first | (refine wpList_store 42 (w' := WE) _ _ rfl rfl ?_ ?_; exact hst))
    refine bodyPost_ret (results_row_tmp Tryz.results44 _ _ w.heap.size 42 _ (0, 0) _ rfl hRE Tryz.underlying42 rfl status_size) rfl ⟨.inr ⟨HN.out, rfl⟩, hFE⟩
end
end Go.Proofs.YteebjgfalllbjaaGreatDoor
