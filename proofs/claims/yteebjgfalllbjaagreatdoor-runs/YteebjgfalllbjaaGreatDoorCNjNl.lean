import Derived.Test.YteebjgfalllbjaaGreatDoorCNfNhGd
import Derived.Test.YteebjgfalllbjaaGreatDoorCLpLqLr
import Derived.Test.YteebjgfalllbjaaGreatDoorCVcVdVh
namespace Go.Proofs.YteebjgfalllbjaaGreatDoor
open Go.RowKit
/-- While the law walks over the sagas of a tick. -/
structure TwI (wS : World) (D A Pp n : Nat) (nn : Bool) (x : Value) (pause ck : Int) (b : Nat) (L : List RS) (L' : List AS) (ax : Option Addr) (cx i : Nat) (Lc : List RS) (wr : World) : Prop where
  law : LawAt wr D A Pp n nn x pause ck (.slice ax L.length cx)
  at' : LAt wr b (.slice ax L.length cx) Lc
  ln : Lc.length = L.length
  a : Lc.map RS.a = L'.take i ++ (L.drop i).map RS.a
  fr : Fr (fun c => c = D ∨ ax.map (·.block) = some c) wS wr
theorem walk_at {L Lc : List RS} {L' : List AS} {i : Nat} {r : RS} (hl : L'.length = L.length) (h : Lc.map RS.a = L'.take i ++ (L.drop i).map RS.a) (hi : i < L.length) (hr : Lc[i]? = some r) : (L.map RS.a)[i]? = some r.a := by
  have h1 : (Lc.map RS.a)[i]? = some r.a := by rw [List.getElem?_map, hr]; rfl
  have ht : (L'.take i).length = i := by rw [List.length_take]; omega
  rw [h, List.getElem?_append_right (by omega), ht, Nat.sub_self, List.map_drop, List.getElem?_drop, Nat.add_zero] at h1
  exact h1
theorem take_put {α : Type} {l m : List α} {i : Nat} {x : α} (hx : l[i]? = some x) : l.take i ++ x :: m.drop (i + 1) = l.take (i + 1) ++ m.drop (i + 1) := by
  rw [List.take_add_one, hx]; simp
theorem walk_skip {L Lc : List RS} {L' : List AS} {i : Nat} {r : RS} (hl : L'.length = L.length) (h : Lc.map RS.a = L'.take i ++ (L.drop i).map RS.a) (hi : i < L.length) (hr : Lc[i]? = some r) (hx : L'[i]? = some r.a) : Lc.map RS.a = L'.take (i + 1) ++ (L.drop (i + 1)).map RS.a := by
  have h1 := walk_at hl h hi hr
  rw [h, List.map_drop, List.map_drop, ← take_put (m := L.map RS.a) hx]
  congr 1
  have h2 := (List.getElem?_eq_some_iff.1 h1).2
  rw [← h2, List.getElem_cons_drop]
theorem walk_set {L Lc : List RS} {L' : List AS} {i : Nat} {r' : RS} (hl : L'.length = L.length) (h : Lc.map RS.a = L'.take i ++ (L.drop i).map RS.a) (hi : i < L.length) (hx : L'[i]? = some r'.a) : (Lc.set i r').map RS.a = L'.take (i + 1) ++ (L.drop (i + 1)).map RS.a := by
  have ht : (L'.take i).length = i := by rw [List.length_take]; omega
  rw [List.map_set, h, List.set_append_right _ _ (by omega), ht, Nat.sub_self, List.map_drop, List.map_drop, ← take_put (m := L.map RS.a) hx]
  congr 1
  rw [← List.getElem_cons_drop (h := (by simpa using hi : i < (L.map RS.a).length))]
  rfl
theorem waits_due {r : RS} {ck c : Int} (h : r.a.Ok c) : r.waits ck = r.a.dueB ck := by
  have hs : r.S.1 = 1 ∨ r.S.1 = 2 ∨ r.S.1 = 3 ∨ r.S.1 = 4 := h.s
  refine decide_eq_decide.2 ?_
  show (r.S.1 ≤ 2 ∧ r.due ≤ ck) ↔ ((r.S.1 = 1 ∨ r.S.1 = 2) ∧ r.due ≤ ck)
  omega
/-- A saga of the row is laid over, with its May. -/
theorem LAt.set {w w' : World} {b g cap : Nat} {L : List RS} {i : Nat} {r r' : RS} (h : LAt w b (.slice (some ⟨g, 0, none⟩) L.length cap) L) (hi : L[i]? = some r) (ho : w'.ownsRow b 223 7 (.slice (some ⟨g, 0, none⟩) L.length cap) L.length (rcells (L.set i r'))) (hg : ∃ c, w.heap[g]? = some (.cells c 223 (0, 0))) (hf : Fr (fun c => c = g) w w') (hsa : r'.sa = r.sa) (hsc : r'.sc = r.sc) (hst : r'.st = r.st) (hm : MayAt w r' ∧ r'.may = [r'.S] ∧ r'.mc = 1) :
    LAt w' b (.slice (some ⟨g, 0, none⟩) L.length cap) (L.set i r') := by
  obtain ⟨cg, hcg⟩ := hg
  have hr := List.mem_of_getElem? hi
  have hne : ∀ (t : TypeId), t ≠ 223 → ∀ c cs, w.heap[c]? = some (.cells cs t (0, 0)) → ¬ c = g := by
    intro t ht c cs hc e
    subst e
    have := hc.symm.trans hcg
    simp at this
    exact ht this.2
  have hmem : ∀ q ∈ L.set i r', q = r' ∨ q ∈ L := fun q hq => (List.mem_or_eq_of_mem_set hq).symm
  refine ⟨by rw [List.length_set]; exact ho, ?_, ?_, ?_⟩
  · intro q hq
    rcases hmem q hq with rfl | hq
    · rw [hsa, hsc, hst]; exact (h.s r hr).fr hf (fun c cs hc => hne 165 (by decide) c cs hc)
    · exact (h.s q hq).fr hf (fun c cs hc => hne 165 (by decide) c cs hc)
  · intro q hq
    rcases hmem q hq with rfl | hq
    · exact ⟨hm.1.fr hf (fun c cs hc => hne 220 (by decide) c cs hc), hm.2⟩
    · exact ⟨(h.m q hq).1.fr hf (fun c cs hc => hne 220 (by decide) c cs hc), (h.m q hq).2⟩
  · intro q hq
    rcases hmem q hq with rfl | hq
    · rw [hst]; exact h.n r hr
    · exact h.n q hq
end Go.Proofs.YteebjgfalllbjaaGreatDoor
namespace Go.Proofs.YteebjgfalllbjaaGreatDoor
open Go.RowKit
theorem settl_get {L Ls : List RS} (h : RelL Settl L Ls) {r' : RS} (hr : r' ∈ Ls) : ∃ r ∈ L, Settl r r' := by
  obtain ⟨i, hi, rfl⟩ := List.mem_iff_getElem.1 hr
  have hl : i < L.length := by rw [← h.1]; exact hi
  exact ⟨L[i], List.getElem_mem hl, h.2 i _ _ (List.getElem?_eq_getElem hl) (List.getElem?_eq_getElem hi)⟩
theorem settl_a {L Ls : List RS} (h : RelL Settl L Ls) : Ls.map RS.a = L.map RS.a := by
  apply List.ext_getElem?
  intro i
  by_cases hi : i < L.length
  · have hi' : i < Ls.length := by rw [h.1]; exact hi
    have hf := h.2 i _ _ (List.getElem?_eq_getElem hi) (List.getElem?_eq_getElem hi')
    rw [List.getElem?_map, List.getElem?_map, List.getElem?_eq_getElem hi, List.getElem?_eq_getElem hi']
    obtain ⟨h1, h2, h3, h4, h5, h6, h7, h8, h9⟩ := hf
    simp only [Option.map_some, RS.a, h1, h4, h5, h6, h7]
  · rw [List.getElem?_eq_none (by simp [h.1]; omega), List.getElem?_eq_none (by simp; omega)]
/-- The sagas of a disk, when all that is known of them is sure. -/
theorem settl_lat {S : Nat → Prop} {w W : World} {b base : Nat} {Lv0 Lv : Value} {L Ls : List RS} (hA : LAt w b Lv0 L) (hf : Fr S w W) (hS : ∀ b c, w.heap[b]? = some (.cells c 165 (0, 0)) → ¬ S b) (hR : RelL Settl L Ls) (hown : W.ownsRow base 223 7 Lv L.length (rcells Ls)) (hb : b ≤ base) (hm : ∀ r ∈ Ls, MayAt W r) : LAt W b Lv Ls := by
  refine ⟨by rw [hR.1]; exact own_base2 hown hb, fun r' hr' => ?_, fun r' hr' => ?_, fun r' hr' => ?_⟩
  · obtain ⟨r, hr, h1, h2, h3, h4, h5, h6, h7, h8, h9⟩ := settl_get hR hr'
    rw [h2, h3, h4]
    exact (hA.s r hr).fr hf hS
  · obtain ⟨r, hr, h1, h2, h3, h4, h5, h6, h7, h8, h9⟩ := settl_get hR hr'
    exact ⟨hm r' hr', by rw [h8, h5], h9⟩
  · obtain ⟨r, hr, h1, h2, h3, h4, h5, h6, h7, h8, h9⟩ := settl_get hR hr'
    rw [h4]; exact hA.n r hr
theorem rs_asks {r : RS} {c : Int} (h : r.a.Ok c) (ho : r.a.open) : ∃ (k : Nat) (p : SS), r.S.2 = (k : Int) + 1 ∧ r.st[k]? = some p ∧ r.a.asks = ⟨r.id, r.S.2, decide (r.S.1 = 2), if r.S.1 = 2 then p.2 else p.1⟩ := by
  obtain ⟨h1, h2⟩ : 1 ≤ r.S.2 ∧ r.S.2 ≤ r.st.length := h.p ho
  have hk : (r.S.2 - 1).toNat < r.st.length := by omega
  refine ⟨(r.S.2 - 1).toNat, r.st[(r.S.2 - 1).toNat], by omega, List.getElem?_eq_getElem hk, ?_⟩
  unfold AS.asks RS.a
  simp only [List.getD_eq_getElem?_getD, List.getElem?_eq_getElem hk, Option.getD_some]
theorem rs_turn {r : RS} {k : Nat} {M : Nat} {ck pause : Int} (h : r.moves k = true) : (r.turn k M).a = r.a.after k ck pause := by
  have h' : r.a.moves k = true := h
  unfold AS.after
  rw [if_pos h']
  rfl
theorem rs_vain {r : RS} {k : Nat} {ck pause : Int} (h : ¬ r.moves k = true) : (r.vain ck pause).a = r.a.after k ck pause := by
  have h' : ¬ r.a.moves k = true := h
  unfold AS.after
  rw [if_neg h']
  rfl
theorem five_of {w : World} {g off : Nat} {p : CL × Nat} (h : w.rangeAt g off (lgv p)) : w.cell? ⟨g, off, none⟩ = some (.int .i64 p.1.saga) ∧ w.cell? ⟨g, off + 1, none⟩ = some (.int .i64 p.1.step) ∧ w.cell? ⟨g, off + 2, none⟩ = some (.bool p.1.back) ∧ w.cell? ⟨g, off + 3, none⟩ = some (.string p.1.data) ∧ w.cell? ⟨g, off + 4, none⟩ = some (.int .i64 p.2) := by
  refine ⟨h 0 _ rfl, h 1 _ rfl, h 2 _ rfl, h 3 _ rfl, h 4 _ rfl⟩
theorem cntD_map {ck : Int} {L : List RS} {i : Nat} {a : AS} (h : (L.map RS.a)[i]? = some a) : cntD ck ((L.map RS.a).take (i + 1)) = cntD ck ((L.map RS.a).take i) + if a.dueB ck then 1 else 0 := by
  rw [List.take_add_one, h, Option.toList_some, cntD_snoc]
end Go.Proofs.YteebjgfalllbjaaGreatDoor
