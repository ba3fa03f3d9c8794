import Derived.Test.YteebjgfalllbjaaGreatDoorCSeSuSa
import Derived.Test.YteebjgfalllbjaaGreatDoorCWiGd0Ro
import Derived.Test.YteebjgfalllbjaaGreatDoorCVqPtRd
namespace Go.Proofs.YteebjgfalllbjaaGreatDoor
open Go.RowKit
section
variable {w : World} {x i sv : Value} {Q : World → Prop}
set_option maxRecDepth 100000 in
theorem eSubmit_nil {X n m : Nat} {ao : Option Addr} {id : Int} (h : Calls Tryz.prog 42 #[.pointer (some ⟨X, 0, none⟩), .int .i64 id, .slice ao n m] w fun e w' => e = .returned .nilIface ∧ Q w') :
    Calls Tryz.prog 21 #[.pointer (some ⟨X, 0, none⟩), .int .i64 id, .slice ao n m] w fun e w' => e = .returned .nilIface ∧ Q w' := by
  go_enter Tryz.func21, Tryz.ntmps21
  go_wp2_with fail
  refine h.mono ?_
  rintro e w2 ⟨rfl, hQ⟩
  go_wp2_with fail
  refine (wrapped_nil _ _).mono ?_
  rintro e w3 ⟨rfl, rfl⟩
  have HQ : Hid (Q w3) := hQ
  clear hQ
  go_wp2
  go_ret
  exact ⟨rfl, HQ.out⟩
set_option maxRecDepth 100000 in
theorem eSubmit_err {X n m : Nat} {ao : Option Addr} {id k : Int} (hk : k ≠ 0) (h : Calls Tryz.prog 42 #[.pointer (some ⟨X, 0, none⟩), .int .i64 id, .slice ao n m] w fun e w' => e = .returned (errE k) ∧ Q w') :
    Calls Tryz.prog 21 #[.pointer (some ⟨X, 0, none⟩), .int .i64 id, .slice ao n m] w fun e w' => ∃ v w2, e = .returned v ∧ ErrAt w' v k ∧ Q w2 ∧ Fr (fun _ => False) w2 w' := by
  go_enter Tryz.func21, Tryz.ntmps21
  go_wp2_with fail
  refine h.mono ?_
  rintro e w2 ⟨rfl, hQ⟩
  unfold errE
  go_wp2_with fail
  refine (wrapped_err _ k _).mono ?_
  rintro e w3 ⟨rfl, rfl⟩
  have HQ : Hid (Q w2) := hQ
  clear hQ
  go_wp2
  go_ret
  exact ⟨_, w2, rfl, Or.inr ⟨_, _, rfl, heap_alloc_at _ _, hk⟩, HQ.out, (Fr.refl _ _).alloc _⟩
end
end Go.Proofs.YteebjgfalllbjaaGreatDoor
namespace Go.Proofs.YteebjgfalllbjaaGreatDoor
open Go.RowKit

theorem snoc_ind {α : Type} {P : List α → Prop} (h0 : P []) (h1 : ∀ l a, P l → P (l ++ [a])) (l : List α) : P l := by
  rw [← List.reverse_reverse l]
  generalize l.reverse = m
  induction m with
  | nil => exact h0
  | cons a m ih => rw [List.reverse_cons]; exact h1 _ _ ih
/-- The sagas that were taken, in their order; what the roll holds of them; their records; their need. -/
def rsL (rs : List (Nat × List SS)) : List AS := rs.foldl (fun L p => insA (newA p.1 p.2) L) []
def recB (p : Nat × List SS) : List Value := ldB 2 (bodyS p.1 p.2.length (six p.2) 6) 4
def needR (rs : List (Nat × List SS)) : Nat := (rs.map fun p => 2 * p.2.length).sum
theorem rsL_snoc (rs : List (Nat × List SS)) (p : Nat × List SS) : rsL (rs ++ [p]) = insA (newA p.1 p.2) (rsL rs) := by simp [rsL]
theorem needR_snoc (rs : List (Nat × List SS)) (p : Nat × List SS) : needR (rs ++ [p]) = needR rs + 2 * p.2.length := by simp [needR]
theorem needR_take (rs : List (Nat × List SS)) (i : Nat) (p : Nat × List SS) (hp : rs[i]? = some p) : needR (rs.take i) + 2 * p.2.length ≤ needR rs := by
  obtain ⟨hi, rfl⟩ := List.getElem?_eq_some_iff.1 hp
  have e : rs = rs.take i ++ rs[i] :: rs.drop (i + 1) := by rw [List.getElem_cons_drop, List.take_append_drop]
  have : needR rs = needR (rs.take i) + (2 * rs[i].2.length + needR (rs.drop (i + 1))) := by
    unfold needR
    conv => lhs; rw [e]
    rw [List.map_append, List.map_cons, List.sum_append_nat, List.sum_cons]
  omega
theorem mem_insA {a b : AS} {L : List AS} : a ∈ insA b L ↔ a = b ∨ a ∈ L := by
  have h : a ∈ L ↔ a ∈ L.takeWhile (fun c => decide (c.id < b.id)) ∨ a ∈ L.dropWhile (fun c => decide (c.id < b.id)) := by
    conv => lhs; rw [← List.takeWhile_append_dropWhile (p := fun c => decide (c.id < b.id)) (l := L)]
    exact List.mem_append
  simp only [insA, List.mem_append, List.mem_cons, h]
  constructor
  · rintro (h | h | h)
    · exact .inr (.inl h)
    · exact .inl h
    · exact .inr (.inr h)
  · rintro (h | h | h)
    · exact .inr (.inl h)
    · exact .inl h
    · exact .inr (.inr h)
theorem sum_insA (f : AS → Nat) (b : AS) (L : List AS) : ((insA b L).map f).sum = f b + (L.map f).sum := by
  have h : (L.map f).sum = ((L.takeWhile (fun c => decide (c.id < b.id))).map f).sum + ((L.dropWhile (fun c => decide (c.id < b.id))).map f).sum := by
    conv => lhs; rw [← List.takeWhile_append_dropWhile (p := fun c => decide (c.id < b.id)) (l := L)]
    rw [List.map_append, List.sum_append_nat]
  rw [h]
  simp [insA]
  omega
theorem mem_rsL {a : AS} {rs : List (Nat × List SS)} : a ∈ rsL rs ↔ ∃ p ∈ rs, a = newA p.1 p.2 := by
  refine snoc_ind (P := fun rs => a ∈ rsL rs ↔ ∃ p ∈ rs, a = newA p.1 p.2) (by simp [rsL]) (fun rs p ih => ?_) rs
  · rw [rsL_snoc, mem_insA, ih]
    constructor
    · rintro (rfl | ⟨q, hq, rfl⟩)
      · exact ⟨p, by simp, rfl⟩
      · exact ⟨q, by simp [hq], rfl⟩
    · rintro ⟨q, hq, rfl⟩
      simp only [List.mem_append, List.mem_singleton] at hq
      rcases hq with h | rfl
      · exact .inr ⟨q, h, rfl⟩
      · exact .inl rfl
theorem sum_rsL (rs : List (Nat × List SS)) : ((rsL rs).map fun a => 2 * a.st.length).sum = needR rs := by
  refine snoc_ind (P := fun rs => ((rsL rs).map fun a => 2 * a.st.length).sum = needR rs) rfl (fun rs p ih => ?_) rs
  rw [rsL_snoc, sum_insA, ih, needR_snoc, newA_len]; omega
theorem len_rsL (rs : List (Nat × List SS)) : (rsL rs).length = rs.length := by
  refine snoc_ind (P := fun rs => (rsL rs).length = rs.length) rfl (fun rs p ih => ?_) rs
  have h3 : ∀ (b : AS) (L : List AS), (insA b L).length = L.length + 1 := fun b L => by
    have h := congrArg List.length (List.takeWhile_append_dropWhile (p := fun c => decide (c.id < b.id)) (l := L))
    rw [List.length_append] at h
    unfold insA
    rw [List.length_append, List.length_cons]
    omega
  rw [rsL_snoc, h3, ih, List.length_append]; rfl
theorem sorted_insA {b : AS} {L : List AS} (h : L.Pairwise (fun a b => a.id < b.id)) (hn : ∀ a ∈ L, a.id ≠ b.id) : (insA b L).Pairwise (fun a b => a.id < b.id) := by
  induction L with
  | nil => simp [insA]
  | cons c L ih =>
    rw [List.pairwise_cons] at h
    have hc := hn c (by simp)
    by_cases hlt : c.id < b.id
    · have e : insA b (c :: L) = c :: insA b L := by simp [insA, hlt]
      rw [e, List.pairwise_cons]
      refine ⟨fun a ha => ?_, ih h.2 (fun a ha => hn a (by simp [ha]))⟩
      rcases mem_insA.1 ha with rfl | ha
      · exact hlt
      · exact h.1 a ha
    · have e : insA b (c :: L) = b :: c :: L := by simp [insA, hlt]
      rw [e, List.pairwise_cons]
      refine ⟨fun a ha => ?_, by rw [List.pairwise_cons]; exact h⟩
      rcases List.mem_cons.1 ha with rfl | ha
      · omega
      · have := h.1 a ha; omega
theorem rsL_sorted {rs : List (Nat × List SS)} (hd : (rs.map (·.1)).Nodup) : (rsL rs).Pairwise (fun a b => a.id < b.id) := by
  revert hd
  refine snoc_ind (P := fun rs => (rs.map (·.1)).Nodup → (rsL rs).Pairwise (fun a b => a.id < b.id)) (by simp [rsL]) (fun rs p ih hd => ?_) rs
  · rw [List.map_append, List.nodup_append] at hd
    rw [rsL_snoc]
    refine sorted_insA (ih hd.1) (fun a ha e => ?_)
    obtain ⟨q, hq, rfl⟩ := mem_rsL.1 ha
    have e' : q.1 = p.1 := by have : (q.1 : Int) = p.1 := e; omega
    exact hd.2.2 q.1 (List.mem_map.2 ⟨q, hq, rfl⟩) p.1 (by simp) e'
theorem insE_map (p : Nat × AS) (es : List (Nat × AS)) : (insE p es).map (·.2) = insA p.2 (es.map (·.2)) := by
  simp [insE, insA, List.takeWhile_map, List.dropWhile_map, Function.comp_def]
theorem recB_ok {p : Nat × List SS} (hok : sagaOk p.1 p.2 = true) : RecOk (recB p) := by
  obtain ⟨_, _, _, h6, h8⟩ := saga_of p.1 p.2 hok
  have hbl : (bodyS p.1 p.2.length (six p.2) 6).length = 124 := bodyS_len p.1 p.2.length (six p.2) (six_ok h8) 6 (by rw [six_len _ h6]; omega) (by omega)
  exact ⟨ldB_len 2 _ hbl 4 (by omega), ldB_one 2 _ (bodyS_one _ _ _ _) 4, fun _ => 2, fun i hi => ldB_kind 2 _ hbl i hi, by decide⟩
theorem layB_add (n : Nat) (recs : List (List Value)) (r : List Value) (hl : ∀ x ∈ recs, x.length = 128) (hr : r.length = 128) (hn : recs.length + 1 < n) : splice (layB n recs) ((recs.length + 1) * 128) r = layB n (recs ++ [r]) := by
  have e : layB n recs = (headB n ++ recs.flatten) ++ List.replicate ((n - 1 - recs.length) * 128) (Value.int .u8 0) := by simp [layB]
  have ha : (headB n ++ recs.flatten).length = (recs.length + 1) * 128 := by rw [List.length_append, headB_len, flatB_len recs hl]; omega
  rw [e, splice_at _ _ _ _ ha, hr, List.drop_replicate, layB]
  have e2 : (n - 1 - recs.length) * 128 - 128 = (n - 1 - (recs ++ [r]).length) * 128 := by
    rw [List.length_append, List.length_singleton]; omega
  rw [e2]
  simp
section
variable {w : World} {R base : Nat} {room : Int} {ev : Value} {es : List (Nat × AS)}
theorem roll_own (h : RollAt w R base room ev es) {b : Nat} (hb : ev.ownBlock = some b) : base ≤ b ∧ ∃ c, w.heap[b]? = some (.cells c 136 (0, 0)) := by
  rcases h.o.2 with ⟨rfl, _⟩ | ⟨g, cap, cur, rfl, h0, hg, _⟩
  · cases hb
  · cases hb; exact ⟨h0, _, hg⟩
theorem roll_types (h : RollAt w R base room ev es) : ev.ownBlock ≠ some R ∧ (∀ p ∈ es, p.1 ≠ R) ∧ (∀ p ∈ es, ev.ownBlock ≠ some p.1) := by
  refine ⟨fun e => ?_, fun p hp e => ?_, fun p hp e => ?_⟩
  · obtain ⟨_, c, hc⟩ := roll_own h e; have := hc.symm.trans h.r; simp at this
  · have h1 := (h.e p hp).2; rw [e] at h1; have := h1.symm.trans h.r; simp at this
  · obtain ⟨_, c, hc⟩ := roll_own h e; have := hc.symm.trans (h.e p hp).2; simp at this
/-- The types of a roll's blocks. -/
theorem roll_f (h : RollAt w R base room ev es) {b : Nat} (hb : RollF R ev es b) : ∃ c t, w.heap[b]? = some (.cells c t (0, 0)) ∧ (t = 176 ∨ t = 136 ∨ t = 140) := by
  rcases hb with rfl | hb | ⟨p, hp, rfl⟩
  · exact ⟨_, _, h.r, .inl rfl⟩
  · obtain ⟨_, c, hc⟩ := roll_own h hb; exact ⟨c, _, hc, .inr (.inl rfl)⟩
  · exact ⟨_, _, (h.e p hp).2, .inr (.inr rfl)⟩
theorem roll_ne (h : RollAt w R base room ev es) {b : Nat} {c : Array Value} {t : TypeId} (hb : w.heap[b]? = some (.cells c t (0, 0))) (ht : t ≠ 176 ∧ t ≠ 136 ∧ t ≠ 140) : ¬ RollF R ev es b := by
  intro hf
  obtain ⟨c', t', hc, h3⟩ := roll_f h hf
  have := hb.symm.trans hc
  simp at this
  rw [← this.2] at h3
  rcases h3 with h | h | h
  · exact ht.1 h
  · exact ht.2.1 h
  · exact ht.2.2 h
end
end Go.Proofs.YteebjgfalllbjaaGreatDoor
namespace Go.Proofs.YteebjgfalllbjaaGreatDoor
open Go.RowKit
section
variable {w : World} {R base : Nat} {room : Int} {ev : Value} {es : List (Nat × AS)}
/-- A saga of a roll turned. -/
def mapE (es : List (Nat × AS)) (id : Int) (f : AS → AS) : List (Nat × AS) := es.map fun p => if p.2.id = id then (p.1, f p.2) else p
theorem ent_splice (a b : AS) (h6 : a.st.length ≤ 6) (hid : b.id = a.id) (hst : b.st = a.st) : splice (entC a) 14 b.told.cs = entC b := by
  have hl := sagaC_len a.id a.st.length _ (six_len _ h6)
  have e : entC b = sagaC a.id a.st.length (six a.st) ++ b.told.cs := by rw [entC, hid, hst]
  rw [e, entC, splice_at _ _ _ _ hl]
  simp [ST.cs]
theorem entC_id {a b : AS} (h : (entC a).toArray = (entC b).toArray) : a.id = b.id := by
  have h' : entC a = entC b := by simpa using congrArg Array.toList h
  simp only [entC, sagaC, List.cons_append, List.cons.injEq] at h'
  have := h'.1
  simpa using this
theorem RollAt.turn (h : RollAt w R base room ev es) (hs : Sorted es) {p : Nat × AS} (hp : p ∈ es) (f : AS → AS) (hid : (f p.2).id = p.2.id) : RollAt (w.setRow p.1 (entC (f p.2)).toArray) R base room ev (mapE es p.2.id f) ∧ Fr (fun b => b = p.1) w (w.setRow p.1 (entC (f p.2)).toArray) := by
  have hF : Fr (fun b => b = p.1) w (w.setRow p.1 (entC (f p.2)).toArray) := Fr.setRow (S := fun b => b = p.1) (Fr.refl _ w) p.1 (fun _ => rfl) _
  obtain ⟨t1, t2, t3⟩ := roll_types h
  refine ⟨⟨hF.keep h.r (fun e => t2 p hp e.symm), ?_, ?_⟩, hF⟩
  · have ho := own_fr h.o hF (fun b _ _ hb e => t3 p hp (by rw [hb, e]))
    have e1 : (mapE es p.2.id f).length = es.length := by simp [mapE]
    have e2 : (mapE es p.2.id f).map epv = es.map epv := by
      rw [mapE, List.map_map]
      refine List.map_congr_left fun q _ => ?_
      show epv (if q.2.id = p.2.id then (q.1, f q.2) else q) = epv q
      split <;> rfl
    rw [e1, e2]
    exact ho
  · intro q hq
    obtain ⟨z, hz, rfl⟩ := List.mem_map.1 hq
    by_cases e : z.2.id = p.2.id
    · obtain rfl := sorted_uniq hs hz hp e
      rw [if_pos rfl]
      exact ⟨(h.e z hz).1, setRow_heap _ _ _ _ _ _ (h.e z hz).2⟩
    · rw [if_neg e]
      refine ⟨(h.e z hz).1, hF.keep (h.e z hz).2 (fun e1 => e ?_)⟩
      have e1' : z.1 = p.1 := e1
      have h1 := (h.e z hz).2
      rw [e1', (h.e p hp).2] at h1
      have h2 : (entC p.2).toArray = (entC z.2).toArray := by
        simp only [Option.some.injEq, Obj.cells.injEq] at h1
        exact h1.1
      exact (entC_id h2).symm
set_option maxRecDepth 100000 in
set_option maxHeartbeats 4000000 in
theorem rMove_ok (h : RollAt w R base room ev es) (hs : Sorted es) (hn : es.length ≤ 100000) {ck : Int} (hok : ∀ p ∈ es, p.2.Ok ck) {p : Nat × AS} (hp : p ∈ es) (reply : Int) (ho : p.2.open) (hm : p.2.moves reply = true) : Calls Tryz.prog 76 #[.pointer (some ⟨R, 0, none⟩), .agg #[.int .i64 p.2.id, .int .i64 reply]] w fun e w' => e = .returned (.bool true) ∧ RollAt w' R base room ev (mapE es p.2.id (·.go reply)) ∧ Fr (fun b => b = p.1) w w' := by
  have hfa : Fr (fun _ => False) w (w.alloc (.cells #[.int .i64 p.2.id, .int .i64 reply] 196)) := (Fr.refl _ _).alloc _
  have HC := rMoves_ok (h.frz hfa) hs hn hok p.2.id reply
  rw [mvE_of hs hp rfl, decide_eq_true ho, hm, Bool.and_self] at HC
  have hlift : Tryz.prog.follows .mixedOrders = true := by kernel_rfl
  obtain ⟨id, hid⟩ : ∃ id, id = p.2.id := ⟨_, rfl⟩
  have hrow := heap_alloc_at w (.cells #[.int .i64 p.2.id, .int .i64 reply] 196)
  rw [← hid] at HC hfa hrow ⊢
  have HID : Hid (id = p.2.id) := hid
  clear hid
  go_enter Tryz.func76, Tryz.ntmps76
  go_wp2_with fail
  refine HC.mono ?_
  rintro e w2 ⟨rfl, hf⟩
  have hM : w2.heap[w.heap.size]? = some (.cells #[.int .i64 id, .int .i64 reply] 196 (0, 0)) := hf.keep (heap_alloc_at _ _) (fun h => h)
  have m0 : w2.cell? ⟨w.heap.size, 0, none⟩ = some (.int .i64 id) := (cell_of_row _ _ 0 _ _ _ hM).trans rfl
  have h2 := (h.frz hfa).frz hf
  have hF := hfa.trans hf (fun _ _ h => h)
  clear hfa hf HC h
  have HC := rfind_ok h2 hs hn id
  go_wp2_with fail
  refine HC.mono ?_
  rintro e w3 ⟨v, rfl, hv, hf3⟩
  have h3 := h2.frz hf3
  have hF3 := hF.trans hf3 (fun _ _ h => h)
  have hM3 := hf3.keep hM (fun h => h)
  have m1 : w3.cell? ⟨w.heap.size, 1, none⟩ = some (.int .i64 reply) := (cell_of_row _ _ 1 _ _ _ hM3).trans rfl
  obtain rfl : v = epv p := by
    rcases hv with ⟨q, hq, he, rfl⟩ | ⟨hno, _⟩
    · rw [sorted_uniq hs hq hp (he.trans HID.out)]
    · exact absurd HID.out.symm (hno p hp)
  clear HC h2 hv hF hf3 hM m0
  unfold epv
  go_wp2_with fail
  have hpo := hok p hp
  have HMV := fun W => stMoved_ok W p.2.told reply hpo.s (fun h => ⟨(hpo.p h).1, by have := (hpo.p h).2; have := hpo.l6; show p.2.S.2 ≤ 6; omega⟩)
  rw [told_moved p.2 hpo, if_pos ⟨ho, hm⟩] at HMV
  obtain ⟨W, HW⟩ : ∃ W, Hid (W = w3.drew) := ⟨_, rfl⟩
  have hfW : Fr (fun _ => False) w3 W := by rw [HW.out]; exact (Fr.refl _ _).drew
  let S : World → Prop := fun w' => w'.cell? ⟨w.heap.size, 1, none⟩ = some (.int .i64 reply)
  have hS : S W := hfW.cell m1 (fun h => h)
  refine wp_region_held (S := S) hlift ?_
  change wpAnyH _ _ _ _ S _ _ _ (World.drew _)
  rw [← HW.out]
  clear HW
  refine wpAnyH_take (S := S) (i := 0) (oi := ⟨some 15, .move (.tmp 5), _, _, _, none⟩) (v := .pointer (some ⟨p.1, 0, none⟩)) rfl (by kernel_rfl) (by kernel_rfl) (by kernel_rfl) (fun _ _ _ h => h) (Or.inl ⟨rfl, fun _ _ => rfl⟩) hS ?_
  simp only [Act.put, List.setIfInBounds_toArray, List.set_cons_zero, List.set_cons_succ]
  refine wpAnyH_take (S := S) (i := 1) (oi := ⟨some 16, .move (.tmp 5), _, _, _, none⟩) (v := .pointer (some ⟨p.1, 0, none⟩)) rfl (by kernel_rfl) (by kernel_rfl) (by kernel_rfl) (fun _ _ _ h => h) (Or.inl ⟨rfl, fun _ _ => rfl⟩) hS ?_
  simp only [Act.put, List.setIfInBounds_toArray, List.set_cons_zero, List.set_cons_succ]
  refine wpAnyH_take (S := S) (i := 2) (oi := ⟨some 17, .nilCheck (.tmp 16), _, _, _, none⟩) (v := .pointer (some ⟨p.1, 0, none⟩)) rfl (by kernel_rfl) (by kernel_rfl) (by kernel_rfl) (fun _ _ _ h => h) (Or.inl ⟨rfl, fun _ _ => by kernel_rfl⟩) hS ?_
  simp only [Act.put, List.setIfInBounds_toArray, List.set_cons_zero, List.set_cons_succ]
  refine wpAnyH_take (S := S) (i := 3) (oi := ⟨some 18, .fieldAddr 140 (.tmp 17) 1, _, _, _, none⟩) (v := .pointer (some ⟨p.1, 14, none⟩)) rfl (by kernel_rfl) (by kernel_rfl) (by kernel_rfl) (fun _ _ _ h => h) (Or.inl ⟨rfl, fun _ _ => by kernel_rfl⟩) hS ?_
  simp only [Act.put, List.setIfInBounds_toArray, List.set_cons_zero, List.set_cons_succ]
  refine wpAnyH_take (S := S) (i := 5) (oi := ⟨some 20, .fieldAddr 196 (.tmp 3) 1, _, _, _, none⟩) (v := .pointer (some ⟨w.heap.size, 1, none⟩)) rfl (by kernel_rfl) (by kernel_rfl) (by kernel_rfl) (fun _ _ _ h => h) (Or.inl ⟨rfl, fun _ _ => by kernel_rfl⟩) hS ?_
  simp only [Act.put, List.setIfInBounds_toArray, List.set_cons_zero, List.set_cons_succ]
  refine wpAnyH_take (S := S) (i := 6) (oi := ⟨some 21, .load 3 (.tmp 20), _, _, _, none⟩) (v := .int .i64 reply) rfl (by kernel_rfl) (by kernel_rfl) (by kernel_rfl) (fun _ _ _ h => h) (Or.inl ⟨rfl, fun w' hs => exec_load 3 (.tmp 20) rfl ⟨w.heap.size, 1, none⟩ rfl (run_loadAt_one hs Tryz.underlying3 rfl)⟩) hS ?_
  simp only [Act.put, List.setIfInBounds_toArray, List.set_cons_zero, List.set_cons_succ]
  refine wpAnyH_all (rs := [4]) (by kernel_rfl) (by simp) ?_
  intro i4 hi4
  obtain rfl : i4 = 4 := by simpa using hi4
  have hrW := (h3.frz hfW).stand hp hpo.l6
  refine wpOp_value (o := ⟨some 19, .load 138 (.tmp 18), _, _, _, none⟩) (v := .agg p.2.told.cs.toArray) (w' := W) rfl rfl (exec_load 138 (.tmp 18) rfl ⟨p.1, 14, none⟩ rfl (load6m hrW)) ⟨hS, ?_⟩
  simp only [Act.put, List.setIfInBounds_toArray, List.set_cons_zero, List.set_cons_succ]
  refine wpAnyH_all (rs := [7]) (by kernel_rfl) (by simp) ?_
  intro i7 hi7
  obtain rfl : i7 = 7 := by simpa using hi7
  refine wpOp_call (o := ⟨some 22, .call { callee := .value (.func 118), args := #[(.tmp 19), (.tmp 21)], argTypes := _ }, _, _, _, none⟩) (f := 118) (args := #[.agg p.2.told.cs.toArray, .int .i64 reply]) rfl rfl (by kernel_rfl) ?_
  refine (HMV W).mono ?_
  rintro e w4 ⟨rfl, hf4⟩
  have hS4 : S w4 := hf4.cell hS (fun h => h)
  refine ⟨_, rfl, hS4, ?_⟩
  simp only [Act.put, List.setIfInBounds_toArray, List.set_cons_zero, List.set_cons_succ]
  refine wpAnyH_take (S := S) (i := 8) (oi := ⟨some 14, .move (.tmp 22), _, _, _, none⟩) (v := .tuple #[.agg (p.2.go reply).told.cs.toArray, .bool true]) rfl (by kernel_rfl) (by kernel_rfl) (by kernel_rfl) (fun _ _ _ h => h) (Or.inl ⟨rfl, fun _ _ => rfl⟩) hS4 ?_
  simp only [Act.put, List.setIfInBounds_toArray, List.set_cons_zero, List.set_cons_succ]
  refine wpAnyH_take (S := S) (i := 9) (oi := ⟨some 23, .extract (.tmp 14) 0, _, _, _, none⟩) (v := .agg (p.2.go reply).told.cs.toArray) rfl (by kernel_rfl) (by kernel_rfl) (by kernel_rfl) (fun _ _ _ h => h) (Or.inl ⟨rfl, fun _ _ => rfl⟩) hS4 ?_
  simp only [Act.put, List.setIfInBounds_toArray, List.set_cons_zero, List.set_cons_succ]
  refine wpAnyH_take (S := S) (i := 10) (oi := ⟨some 24, .extract (.tmp 14) 1, _, _, _, none⟩) (v := .bool true) rfl (by kernel_rfl) (by kernel_rfl) (by kernel_rfl) (fun _ _ _ h => h) (Or.inl ⟨rfl, fun _ _ => rfl⟩) hS4 ?_
  simp only [Act.put, List.setIfInBounds_toArray, List.set_cons_zero, List.set_cons_succ]
  refine wpAnyH_take (S := S) (i := 11) (oi := ⟨some 25, .nilCheck (.tmp 15), _, _, _, none⟩) (v := .pointer (some ⟨p.1, 0, none⟩)) rfl (by kernel_rfl) (by kernel_rfl) (by kernel_rfl) (fun _ _ _ h => h) (Or.inl ⟨rfl, fun _ _ => by kernel_rfl⟩) hS4 ?_
  simp only [Act.put, List.setIfInBounds_toArray, List.set_cons_zero, List.set_cons_succ]
  refine wpAnyH_take (S := S) (i := 12) (oi := ⟨some 26, .fieldAddr 140 (.tmp 25) 1, _, _, _, none⟩) (v := .pointer (some ⟨p.1, 14, none⟩)) rfl (by kernel_rfl) (by kernel_rfl) (by kernel_rfl) (fun _ _ _ h => h) (Or.inl ⟨rfl, fun _ _ => by kernel_rfl⟩) hS4 ?_
  simp only [Act.put, List.setIfInBounds_toArray, List.set_cons_zero, List.set_cons_succ]
  refine wpAnyH_all (rs := [13]) (by kernel_rfl) (by simp) ?_
  intro i13 hi13
  obtain rfl : i13 = 13 := by simpa using hi13
  have h4 := (h3.frz hfW).frz hf4
  have hst := run_storeAt_row (P := Tryz.prog) (o := 14) (ty := 138) (vs := (p.2.go reply).told.cs) (h4.e p hp).2 (by rw [entC_len _ hpo.l6]; exact Nat.le_refl 20) (ST.one _) (by rw [stand_size]; rfl)
  rw [ent_splice p.2 (p.2.go reply) hpo.l6 rfl rfl] at hst
  obtain ⟨hRT, hFT⟩ := h4.turn hs hp (·.go reply) rfl
  have hne : w.heap.size ≠ p.1 := fun e => by
    have h9 := (h3.e p hp).2
    rw [← e, hM3] at h9
    simp at h9
  have hSE : S (w4.setRow p.1 (entC (p.2.go reply)).toArray) := hFT.cell hS4 hne
  refine wpOp_skip (o := ⟨none, .store 138 (.tmp 26) (.tmp 23), _, _, _, none⟩) (w' := w4.setRow p.1 (entC (p.2.go reply)).toArray) rfl rfl (exec_store 138 _ _ rfl ⟨p.1, 14, none⟩ _ rfl rfl hst) ⟨hSE, ?_⟩
  simp only [Act.put]
  refine wpAnyH_done (by kernel_rfl) ?_ _
  have HE : Hid (RollAt (w4.setRow p.1 (entC (p.2.go reply)).toArray) R base room ev (mapE es id (·.go reply)) ∧ Fr (fun b => b = p.1) w (w4.setRow p.1 (entC (p.2.go reply)).toArray)) := ⟨by rw [HID.out]; exact hRT, (((hF3.trans hfW (fun _ _ h => h)).trans hf4 (fun _ _ h => h)).mono (fun _ _ h => h.elim)).trans hFT (fun _ _ h => h)⟩
  clear hRT hFT hst hSE h4 HMV
  go_wp2
  go_ret
  exact ⟨rfl, HE.out.1, HE.out.2⟩
end
end Go.Proofs.YteebjgfalllbjaaGreatDoor
