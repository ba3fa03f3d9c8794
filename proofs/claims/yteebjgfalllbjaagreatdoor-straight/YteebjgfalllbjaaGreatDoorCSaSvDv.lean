import Derived.Test.YteebjgfalllbjaaGreatDoorCAeSeSu
import Derived.Test.YteebjgfalllbjaaGreatDoorCWiGd0Va
namespace Go.Proofs.YteebjgfalllbjaaGreatDoor
open Go.RowKit
theorem status_info : (Tryz.prog.info? 42).map (fun i => (i.zero, i.size, i.bytes)) = some (some (.agg zST.cs.toArray), 6, 48) := by kernel_rfl
def tB (es : List (Nat × AS)) (i : Nat) : List Value := ((es.take i).map fun p => p.2.told.cs).flatten
theorem tB_succ (es : List (Nat × AS)) (i : Nat) (p : Nat × AS) (hp : es[i]? = some p) : tB es (i + 1) = tB es i ++ p.2.told.cs := by simp [tB, List.take_add_one, hp]
theorem tB_len (es : List (Nat × AS)) (i : Nat) (hi : i ≤ es.length) : (tB es i).length = i * 6 := by
 induction i with
 | zero => rfl
 | succ i ih =>
  have hlt : i < es.length := by omega
  rw [tB_succ es i _ (List.getElem?_eq_getElem hlt), List.length_append, ih (by omega), ST.len]; omega
def SaI (w : World) (es : List (Nat × AS)) (i : Nat) (wr : World) : Prop := (∃ rest, rest.length = (es.length - i) * 6 ∧ wr.heap[w.heap.size]? = some (.cells (tB es i ++ rest).toArray 42 (0, 0))) ∧ Fr (fun _ => False) w wr
section
variable {w : World} {R base : Nat} {room : Int} {ev : Value} {es : List (Nat × AS)}
set_option maxRecDepth 100000 in
set_option maxHeartbeats 2000000 in
theorem Statuses_ok (h : RollAt w R base room ev es) (hn : es.length ≤ 100000) (h6 : ∀ p ∈ es, p.2.st.length ≤ 6) : Calls Tryz.prog 64 #[.pointer (some ⟨R, 0, none⟩)] w fun e w' => e = .returned (.slice (some ⟨w.heap.size, 0, none⟩) es.length es.length) ∧ w'.heap[w.heap.size]? = some (.cells (tB es es.length).toArray 42 (0, 0)) ∧ Fr (fun _ => False) w w' := by
 obtain ⟨ao, cap, rfl⟩ := h.form
 obtain ⟨inf, hi, hz0, hz1, hz2⟩ := info_parts status_info
 obtain ⟨M, HM⟩ : ∃ M, Hid (M = madeCells (Value.agg zST.cs.toArray).cells (es.length * inf.size)) := ⟨_, rfl⟩
 obtain ⟨W1, HW1⟩ : ∃ W, Hid (W = w.alloc (.cells M 42)) := ⟨_, rfl⟩
 have hmk : (Instr.makeSlice 69 (.int .i64 es.length) (.int .i64 es.length)).run Tryz.prog w = .ok (.slice (some ⟨w.heap.size, 0, none⟩) es.length es.length) W1 := by
  have hh := run_make (P := Tryz.prog) w 69 42 inf (.agg zST.cs.toArray) Tryz.underlying69 hi hz0 .i64 .i64 es.length es.length (by omega) (by omega) (by rw [hz2]; omega) (by omega)
  rw [HW1.out, HM.out]
  simpa using hh
 have hMs : M.size = es.length * 6 := by rw [HM.out, size_madeCells, hz1]
 have hr1 : W1.heap[w.heap.size]? = some (.cells M 42 (0, 0)) := by rw [HW1.out]; exact heap_alloc_at _ _
 have hf1 : Fr (fun _ => False) w W1 := by rw [HW1.out]; exact (Fr.refl _ _).alloc _
 have HI : Hid (SaI w es 0 W1) := ⟨⟨M.toList, by rw [Array.length_toList, hMs]; rfl, by simpa [tB] using hr1⟩, hf1⟩
 have c0 := h.c0
 have c1 := (h.frz hf1).c0
 have HRoll : Hid (RollAt w R base room (.slice ao es.length cap) es) := h
 clear HM HW1 hr1 h
 go_enter Tryz.func64, Tryz.ntmps64
 go_wp2_with (first | (refine wpList_makeSlice 69 (.tmp 10) (.tmp 10) rfl rfl hmk ?_))
 go_loopw [17] (fun c wr => ∃ i : Nat, i ≤ es.length ∧ c = .int .i64 i ∧ Hid (SaI w es i wr)) (fun c _ => es.length - (intOf c).toNat)
 case atStart => exact ⟨0, by omega, rfl, HI⟩
 case round =>
  obtain ⟨i, hi, rfl, HR⟩ := hrel
  clear HI hmk c0 c1 hf1
  by_cases hlt : i < es.length
  ·have hlt' : (i : Int) < es.length := by omega
   obtain ⟨p, hpi⟩ : ∃ p, es[i]? = some p := ⟨_, List.getElem?_eq_getElem hlt⟩
   have hpe := List.mem_of_getElem? hpi
   have hrw := HRoll.out.frz HR.out.2
   obtain ⟨ga, rfl, hcp⟩ := own_cell hrw.o (i := i) (v := epv p) (by rw [List.getElem?_map, hpi]; rfl)
   unfold epv at hcp
   have hM := hrw.stand hpe (h6 p hpe)
   clear hrw
   obtain ⟨⟨rest, hrl, hrr⟩, hfr⟩ := HR.out
   have htl := tB_len es i hi
   have hst := run_storeAt_row (P := Tryz.prog) (o := i * 6) (ty := 42) (vs := p.2.told.cs) hrr (by rw [List.length_append, htl, hrl, ST.len]; omega) p.2.told.one status_size
   have hsp : splice (tB es i ++ rest) (i * 6) p.2.told.cs = tB es (i + 1) ++ rest.drop 6 := by
    rw [← htl, splice_at _ _ _ _ rfl, ST.len, tB_succ es i p hpi, List.append_assoc]
   rw [hsp] at hst
   have hr2 := setRow_heap wr w.heap.size _ (tB es (i + 1) ++ rest.drop 6).toArray 42 (0, 0) hrr
   obtain ⟨W2, HW2⟩ : ∃ W2, Hid (W2 = wr.setRow w.heap.size (tB es (i + 1) ++ rest.drop 6).toArray) := ⟨_, rfl⟩
   have hf2 : Fr (fun _ => False) w W2 := by rw [HW2.out]; exact hfr.setRow _ (fun h => by omega) _
   rw [← HW2.out] at hst hr2
   have HN : Hid (SaI w es (i + 1) W2) := ⟨⟨rest.drop 6, by rw [List.length_drop, hrl]; omega, hr2⟩, hf2⟩
   clear HW2 hr2 hf2 hrr hfr hsp
   go_wp2_with (first | (refine wpList_load_mid rfl 138 _ rfl p.1 14 ?_ _ _ hM Tryz.underlying138 rfl ?_ ?_; rfl; exact stand_size) | (refine wpList_store 42 (w' := W2) _ _ rfl rfl ?_ ?_; exact hst))
   go_roundw
   case rel => exact ⟨i + 1, by omega, by go_num, HN⟩
   case measure => simp [intOf]; omega
  ·obtain rfl : i = es.length := by omega
   go_wp2
   go_ret
   obtain ⟨⟨rest, hl, hr⟩, hf⟩ := HR.out
   rw [Nat.sub_self, Nat.zero_mul] at hl
   rw [List.length_eq_zero_iff.1 hl, List.append_nil] at hr
   exact ⟨rfl, hr, hf⟩
end
end Go.Proofs.YteebjgfalllbjaaGreatDoor
namespace Go.Proofs.YteebjgfalllbjaaGreatDoor
open Go.RowKit
section
variable {w : World} {x i sv : Value} {Q : World → Prop}
set_option maxRecDepth 100000 in
theorem eSubmit_nil {X n m : Nat} {ao : Option Addr} {id : Int} (h : Calls Tryz.prog 42 #[.pointer (some ⟨X, 0, none⟩), .int .i64 id, .slice ao n m] w fun e w' => e = .returned .nilIface ∧ Q w') :
  Calls Tryz.prog 21 #[.pointer (some ⟨X, 0, none⟩), .int .i64 id, .slice ao n m] w fun e w' => e = .returned .nilIface ∧ Q w' := by
 go_enter Tryz.func21, Tryz.ntmps21
 go_wp2_with fail
 refine h.mono ?_
 rintro e w2 ⟨rfl, hQ⟩
 go_wp2_with fail
 refine (wrapped_nil _ _).mono ?_
 rintro e w3 ⟨rfl, rfl⟩
 have HQ : Hid (Q w3) := hQ
 clear hQ
 go_wp2
 go_ret
 exact ⟨rfl, HQ.out⟩
set_option maxRecDepth 100000 in
theorem eSubmit_err {X n m : Nat} {ao : Option Addr} {id k : Int} (hk : k ≠ 0) (h : Calls Tryz.prog 42 #[.pointer (some ⟨X, 0, none⟩), .int .i64 id, .slice ao n m] w fun e w' => e = .returned (errE k) ∧ Q w') :
  Calls Tryz.prog 21 #[.pointer (some ⟨X, 0, none⟩), .int .i64 id, .slice ao n m] w fun e w' => ∃ v w2, e = .returned v ∧ ErrAt w' v k ∧ Q w2 ∧ Fr (fun _ => False) w2 w' := by
 go_enter Tryz.func21, Tryz.ntmps21
 go_wp2_with fail
 refine h.mono ?_
 rintro e w2 ⟨rfl, hQ⟩
 unfold errE
 go_wp2_with fail
 refine (wrapped_err _ k _).mono ?_
 rintro e w3 ⟨rfl, rfl⟩
 have HQ : Hid (Q w2) := hQ
 clear hQ
 go_wp2
 go_ret
 exact ⟨_, w2, rfl, Or.inr ⟨_, _, rfl, heap_alloc_at _ _, hk⟩, HQ.out, (Fr.refl _ _).alloc _⟩
end
end Go.Proofs.YteebjgfalllbjaaGreatDoor
namespace Go.Proofs.YteebjgfalllbjaaGreatDoor
open Go.RowKit

theorem snoc_ind {α : Type} {P : List α → Prop} (h0 : P []) (h1 : ∀ l a, P l → P (l ++ [a])) (l : List α) : P l := by
 rw [← List.reverse_reverse l]
 generalize l.reverse = m
 induction m with
 | nil => exact h0
 | cons a m ih => rw [List.reverse_cons]; exact h1 _ _ ih
def recB (p : Nat × List SS) : List Value := ldB 2 (bodyS p.1 p.2.length (six p.2) 6) 4
theorem mem_insA {a b : AS} {L : List AS} : a ∈ insA b L ↔ a = b ∨ a ∈ L := by
 have h : a ∈ L ↔ a ∈ L.takeWhile (fun c => decide (c.id < b.id)) ∨ a ∈ L.dropWhile (fun c => decide (c.id < b.id)) := by
  conv => lhs; rw [← List.takeWhile_append_dropWhile (p := fun c => decide (c.id < b.id)) (l := L)]
  exact List.mem_append
 simp only [insA, List.mem_append, List.mem_cons, h]
 constructor
 ·rintro (h | h | h)
  ·exact .inr (.inl h)
  ·exact .inl h
  ·exact .inr (.inr h)
 ·rintro (h | h | h)
  ·exact .inr (.inl h)
  ·exact .inl h
  ·exact .inr (.inr h)
theorem sum_insA (f : AS → Nat) (b : AS) (L : List AS) : ((insA b L).map f).sum = f b + (L.map f).sum := by
 have h : (L.map f).sum = ((L.takeWhile (fun c => decide (c.id < b.id))).map f).sum + ((L.dropWhile (fun c => decide (c.id < b.id))).map f).sum := by
  conv => lhs; rw [← List.takeWhile_append_dropWhile (p := fun c => decide (c.id < b.id)) (l := L)]
  rw [List.map_append, List.sum_append_nat]
 rw [h]
 simp [insA]
 omega
theorem sorted_insA {b : AS} {L : List AS} (h : L.Pairwise (fun a b => a.id < b.id)) (hn : ∀ a ∈ L, a.id ≠ b.id) : (insA b L).Pairwise (fun a b => a.id < b.id) := by
 induction L with
 | nil => simp [insA]
 | cons c L ih =>
  rw [List.pairwise_cons] at h
  have hc := hn c (by simp)
  by_cases hlt : c.id < b.id
  ·have e : insA b (c :: L) = c :: insA b L := by simp [insA, hlt]
   rw [e, List.pairwise_cons]
   refine ⟨fun a ha => ?_, ih h.2 (fun a ha => hn a (by simp [ha]))⟩
   rcases mem_insA.1 ha with rfl | ha
   ·exact hlt
   ·exact h.1 a ha
  ·have e : insA b (c :: L) = b :: c :: L := by simp [insA, hlt]
   rw [e, List.pairwise_cons]
   refine ⟨fun a ha => ?_, by rw [List.pairwise_cons]; exact h⟩
   rcases List.mem_cons.1 ha with rfl | ha
   ·omega
   ·have := h.1 a ha; omega
theorem insE_map (p : Nat × AS) (es : List (Nat × AS)) : (insE p es).map (·.2) = insA p.2 (es.map (·.2)) := by
 simp [insE, insA, List.takeWhile_map, List.dropWhile_map, Function.comp_def]
theorem recB_ok {p : Nat × List SS} (hok : sagaOk p.1 p.2 = true) : RecOk (recB p) := by
 obtain ⟨_, _, _, h6, h8⟩ := saga_of p.1 p.2 hok
 have hbl : (bodyS p.1 p.2.length (six p.2) 6).length = 124 := bodyS_len p.1 p.2.length (six p.2) (six_ok h8) 6 (by rw [six_len _ h6]; omega) (by omega)
 exact ⟨ldB_len 2 _ hbl 4 (by omega), ldB_one 2 _ (bodyS_one _ _ _ _) 4, fun _ => 2, fun i hi => ldB_kind 2 _ hbl i hi, by decide⟩
theorem layB_add (n : Nat) (recs : List (List Value)) (r : List Value) (hl : ∀ x ∈ recs, x.length = 128) (hr : r.length = 128) (hn : recs.length + 1 < n) : splice (layB n recs) ((recs.length + 1) * 128) r = layB n (recs ++ [r]) := by
 have e : layB n recs = (headB n ++ recs.flatten) ++ List.replicate ((n - 1 - recs.length) * 128) (Value.int .u8 0) := by simp [layB]
 have ha : (headB n ++ recs.flatten).length = (recs.length + 1) * 128 := by rw [List.length_append, headB_len, flatB_len recs hl]; omega
 rw [e, splice_at _ _ _ _ ha, hr, List.drop_replicate, layB]
 have e2 : (n - 1 - recs.length) * 128 - 128 = (n - 1 - (recs ++ [r]).length) * 128 := by
  rw [List.length_append, List.length_singleton]; omega
 rw [e2]
 simp
section
variable {w : World} {R base : Nat} {room : Int} {ev : Value} {es : List (Nat × AS)}
theorem roll_own (h : RollAt w R base room ev es) {b : Nat} (hb : ev.ownBlock = some b) : base ≤ b ∧ ∃ c, w.heap[b]? = some (.cells c 136 (0, 0)) := by
 rcases h.o.2 with ⟨rfl, _⟩ | ⟨g, cap, cur, rfl, h0, hg, _⟩
 ·cases hb
 ·cases hb; exact ⟨h0, _, hg⟩
theorem roll_types (h : RollAt w R base room ev es) : ev.ownBlock ≠ some R ∧ (∀ p ∈ es, p.1 ≠ R) ∧ (∀ p ∈ es, ev.ownBlock ≠ some p.1) := by
 refine ⟨fun e => ?_, fun p hp e => ?_, fun p hp e => ?_⟩
 ·obtain ⟨_, c, hc⟩ := roll_own h e; have := hc.symm.trans h.r; simp at this
 ·have h1 := (h.e p hp).2; rw [e] at h1; have := h1.symm.trans h.r; simp at this
 ·obtain ⟨_, c, hc⟩ := roll_own h e; have := hc.symm.trans (h.e p hp).2; simp at this
theorem roll_f (h : RollAt w R base room ev es) {b : Nat} (hb : RollF R ev es b) : ∃ c t, w.heap[b]? = some (.cells c t (0, 0)) ∧ (t = 176 ∨ t = 136 ∨ t = 140) := by
 rcases hb with rfl | hb | ⟨p, hp, rfl⟩
 ·exact ⟨_, _, h.r, .inl rfl⟩
 ·obtain ⟨_, c, hc⟩ := roll_own h hb; exact ⟨c, _, hc, .inr (.inl rfl)⟩
 ·exact ⟨_, _, (h.e p hp).2, .inr (.inr rfl)⟩
theorem roll_ne (h : RollAt w R base room ev es) {b : Nat} {c : Array Value} {t : TypeId} (hb : w.heap[b]? = some (.cells c t (0, 0))) (ht : t ≠ 176 ∧ t ≠ 136 ∧ t ≠ 140) : ¬ RollF R ev es b := by
 intro hf
 obtain ⟨c', t', hc, h3⟩ := roll_f h hf
 have := hb.symm.trans hc
 simp at this
 rw [← this.2] at h3
 rcases h3 with h | h | h
 ·exact ht.1 h
 ·exact ht.2.1 h
 ·exact ht.2.2 h
end
end Go.Proofs.YteebjgfalllbjaaGreatDoor
