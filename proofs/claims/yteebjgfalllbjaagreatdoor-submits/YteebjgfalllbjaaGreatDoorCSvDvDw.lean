import Derived.Test.YteebjgfalllbjaaGreatDoorCSaEaEb
import Derived.Test.YteebjgfalllbjaaGreatDoorCSmPlTop
import Derived.Test.YteebjgfalllbjaaGreatDoorCGzPtRd
namespace Go.Proofs.YteebjgfalllbjaaGreatDoor
open Go.RowKit
section
variable {w : World} {x i sv : Value} {Q : World → Prop}
set_option maxRecDepth 100000 in
theorem eSubmit_nil {X g n m : Nat} {id : Int} (h : Calls Tryz.prog 42 #[.pointer (some ⟨X, 0, none⟩), .int .i64 id, .slice (some ⟨g, 0, none⟩) n m] w fun e w' => e = .returned .nilIface ∧ Q w') :
    Calls Tryz.prog 21 #[.pointer (some ⟨X, 0, none⟩), .int .i64 id, .slice (some ⟨g, 0, none⟩) n m] w fun e w' => e = .returned .nilIface ∧ Q w' := by
  go_enter Tryz.func21, Tryz.ntmps21
  go_wp2_with fail
  refine h.mono ?_
  rintro e w2 ⟨rfl, hQ⟩
  go_wp2_with fail
  refine (wrapped_nil _ _).mono ?_
  rintro e w3 ⟨rfl, rfl⟩
  have HQ : Hid (Q w3) := hQ
  clear hQ
  go_wp2
  go_ret
  exact ⟨rfl, HQ.out⟩
set_option maxRecDepth 100000 in
theorem eSubmit_err {X g n m : Nat} {id k : Int} (hk : k ≠ 0) (h : Calls Tryz.prog 42 #[.pointer (some ⟨X, 0, none⟩), .int .i64 id, .slice (some ⟨g, 0, none⟩) n m] w fun e w' => e = .returned (errE k) ∧ Q w') :
    Calls Tryz.prog 21 #[.pointer (some ⟨X, 0, none⟩), .int .i64 id, .slice (some ⟨g, 0, none⟩) n m] w fun e w' => ∃ v w2, e = .returned v ∧ ErrAt w' v k ∧ Q w2 ∧ Fr (fun _ => False) w2 w' := by
  go_enter Tryz.func21, Tryz.ntmps21
  go_wp2_with fail
  refine h.mono ?_
  rintro e w2 ⟨rfl, hQ⟩
  unfold errE
  go_wp2_with fail
  refine (wrapped_err _ k _).mono ?_
  rintro e w3 ⟨rfl, rfl⟩
  have HQ : Hid (Q w2) := hQ
  clear hQ
  go_wp2
  go_ret
  exact ⟨_, w2, rfl, Or.inr ⟨_, _, rfl, heap_alloc_at _ _, hk⟩, HQ.out, (Fr.refl _ _).alloc _⟩
end
end Go.Proofs.YteebjgfalllbjaaGreatDoor
namespace Go.Proofs.YteebjgfalllbjaaGreatDoor
open Go.RowKit

theorem snoc_ind {α : Type} {P : List α → Prop} (h0 : P []) (h1 : ∀ l a, P l → P (l ++ [a])) (l : List α) : P l := by
  rw [← List.reverse_reverse l]
  generalize l.reverse = m
  induction m with
  | nil => exact h0
  | cons a m ih => rw [List.reverse_cons]; exact h1 _ _ ih
/-- The sagas that were taken, in their order; what the roll holds of them; their records; their need. -/
def rsL (rs : List (Nat × List SS)) : List AS := rs.foldl (fun L p => insA (newA p.1 p.2) L) []
def recB (p : Nat × List SS) : List Value := ldB 2 (bodyS p.1 p.2.length (six p.2) 6) 4
def needR (rs : List (Nat × List SS)) : Nat := (rs.map fun p => 2 * p.2.length).sum
theorem rsL_snoc (rs : List (Nat × List SS)) (p : Nat × List SS) : rsL (rs ++ [p]) = insA (newA p.1 p.2) (rsL rs) := by simp [rsL]
theorem needR_snoc (rs : List (Nat × List SS)) (p : Nat × List SS) : needR (rs ++ [p]) = needR rs + 2 * p.2.length := by simp [needR]
theorem needR_take (rs : List (Nat × List SS)) (i : Nat) (p : Nat × List SS) (hp : rs[i]? = some p) : needR (rs.take i) + 2 * p.2.length ≤ needR rs := by
  obtain ⟨hi, rfl⟩ := List.getElem?_eq_some_iff.1 hp
  have e : rs = rs.take i ++ rs[i] :: rs.drop (i + 1) := by rw [List.getElem_cons_drop, List.take_append_drop]
  have : needR rs = needR (rs.take i) + (2 * rs[i].2.length + needR (rs.drop (i + 1))) := by
    unfold needR
    conv => lhs; rw [e]
    rw [List.map_append, List.map_cons, List.sum_append_nat, List.sum_cons]
  omega
theorem mem_insA {a b : AS} {L : List AS} : a ∈ insA b L ↔ a = b ∨ a ∈ L := by
  have h : a ∈ L ↔ a ∈ L.takeWhile (fun c => decide (c.id < b.id)) ∨ a ∈ L.dropWhile (fun c => decide (c.id < b.id)) := by
    conv => lhs; rw [← List.takeWhile_append_dropWhile (p := fun c => decide (c.id < b.id)) (l := L)]
    exact List.mem_append
  simp only [insA, List.mem_append, List.mem_cons, h]
  constructor
  · rintro (h | h | h)
    · exact .inr (.inl h)
    · exact .inl h
    · exact .inr (.inr h)
  · rintro (h | h | h)
    · exact .inr (.inl h)
    · exact .inl h
    · exact .inr (.inr h)
theorem sum_insA (f : AS → Nat) (b : AS) (L : List AS) : ((insA b L).map f).sum = f b + (L.map f).sum := by
  have h : (L.map f).sum = ((L.takeWhile (fun c => decide (c.id < b.id))).map f).sum + ((L.dropWhile (fun c => decide (c.id < b.id))).map f).sum := by
    conv => lhs; rw [← List.takeWhile_append_dropWhile (p := fun c => decide (c.id < b.id)) (l := L)]
    rw [List.map_append, List.sum_append_nat]
  rw [h]
  simp [insA]
  omega
theorem mem_rsL {a : AS} {rs : List (Nat × List SS)} : a ∈ rsL rs ↔ ∃ p ∈ rs, a = newA p.1 p.2 := by
  refine snoc_ind (P := fun rs => a ∈ rsL rs ↔ ∃ p ∈ rs, a = newA p.1 p.2) (by simp [rsL]) (fun rs p ih => ?_) rs
  · rw [rsL_snoc, mem_insA, ih]
    constructor
    · rintro (rfl | ⟨q, hq, rfl⟩)
      · exact ⟨p, by simp, rfl⟩
      · exact ⟨q, by simp [hq], rfl⟩
    · rintro ⟨q, hq, rfl⟩
      simp only [List.mem_append, List.mem_singleton] at hq
      rcases hq with h | rfl
      · exact .inr ⟨q, h, rfl⟩
      · exact .inl rfl
theorem sum_rsL (rs : List (Nat × List SS)) : ((rsL rs).map fun a => 2 * a.st.length).sum = needR rs := by
  refine snoc_ind (P := fun rs => ((rsL rs).map fun a => 2 * a.st.length).sum = needR rs) rfl (fun rs p ih => ?_) rs
  rw [rsL_snoc, sum_insA, ih, needR_snoc, newA_len]; omega
theorem len_rsL (rs : List (Nat × List SS)) : (rsL rs).length = rs.length := by
  refine snoc_ind (P := fun rs => (rsL rs).length = rs.length) rfl (fun rs p ih => ?_) rs
  have h3 : ∀ (b : AS) (L : List AS), (insA b L).length = L.length + 1 := fun b L => by
    have h := congrArg List.length (List.takeWhile_append_dropWhile (p := fun c => decide (c.id < b.id)) (l := L))
    rw [List.length_append] at h
    unfold insA
    rw [List.length_append, List.length_cons]
    omega
  rw [rsL_snoc, h3, ih, List.length_append]; rfl
theorem sorted_insA {b : AS} {L : List AS} (h : L.Pairwise (fun a b => a.id < b.id)) (hn : ∀ a ∈ L, a.id ≠ b.id) : (insA b L).Pairwise (fun a b => a.id < b.id) := by
  induction L with
  | nil => simp [insA]
  | cons c L ih =>
    rw [List.pairwise_cons] at h
    have hc := hn c (by simp)
    by_cases hlt : c.id < b.id
    · have e : insA b (c :: L) = c :: insA b L := by simp [insA, hlt]
      rw [e, List.pairwise_cons]
      refine ⟨fun a ha => ?_, ih h.2 (fun a ha => hn a (by simp [ha]))⟩
      rcases mem_insA.1 ha with rfl | ha
      · exact hlt
      · exact h.1 a ha
    · have e : insA b (c :: L) = b :: c :: L := by simp [insA, hlt]
      rw [e, List.pairwise_cons]
      refine ⟨fun a ha => ?_, by rw [List.pairwise_cons]; exact h⟩
      rcases List.mem_cons.1 ha with rfl | ha
      · omega
      · have := h.1 a ha; omega
theorem rsL_sorted {rs : List (Nat × List SS)} (hd : (rs.map (·.1)).Nodup) : (rsL rs).Pairwise (fun a b => a.id < b.id) := by
  revert hd
  refine snoc_ind (P := fun rs => (rs.map (·.1)).Nodup → (rsL rs).Pairwise (fun a b => a.id < b.id)) (by simp [rsL]) (fun rs p ih hd => ?_) rs
  · rw [List.map_append, List.nodup_append] at hd
    rw [rsL_snoc]
    refine sorted_insA (ih hd.1) (fun a ha e => ?_)
    obtain ⟨q, hq, rfl⟩ := mem_rsL.1 ha
    have e' : q.1 = p.1 := by have : (q.1 : Int) = p.1 := e; omega
    exact hd.2.2 q.1 (List.mem_map.2 ⟨q, hq, rfl⟩) p.1 (by simp) e'
theorem insE_map (p : Nat × AS) (es : List (Nat × AS)) : (insE p es).map (·.2) = insA p.2 (es.map (·.2)) := by
  simp [insE, insA, List.takeWhile_map, List.dropWhile_map, Function.comp_def]
theorem recB_ok {p : Nat × List SS} (hok : sagaOk p.1 p.2 = true) : RecOk (recB p) := by
  obtain ⟨_, _, _, h6, h8⟩ := saga_of p.1 p.2 hok
  have hbl : (bodyS p.1 p.2.length (six p.2) 6).length = 124 := bodyS_len p.1 p.2.length (six p.2) (six_ok h8) 6 (by rw [six_len _ h6]; omega) (by omega)
  exact ⟨ldB_len 2 _ hbl 4 (by omega), ldB_one 2 _ (bodyS_one _ _ _ _) 4, fun _ => 2, fun i hi => ldB_kind 2 _ hbl i hi, by decide⟩
theorem layB_add (n : Nat) (recs : List (List Value)) (r : List Value) (hl : ∀ x ∈ recs, x.length = 128) (hr : r.length = 128) (hn : recs.length + 1 < n) : splice (layB n recs) ((recs.length + 1) * 128) r = layB n (recs ++ [r]) := by
  have e : layB n recs = (headB n ++ recs.flatten) ++ List.replicate ((n - 1 - recs.length) * 128) (Value.int .u8 0) := by simp [layB]
  have ha : (headB n ++ recs.flatten).length = (recs.length + 1) * 128 := by rw [List.length_append, headB_len, flatB_len recs hl]; omega
  rw [e, splice_at _ _ _ _ ha, hr, List.drop_replicate, layB]
  have e2 : (n - 1 - recs.length) * 128 - 128 = (n - 1 - (recs ++ [r]).length) * 128 := by
    rw [List.length_append, List.length_singleton]; omega
  rw [e2]
  simp
section
variable {w : World} {R base : Nat} {room : Int} {ev : Value} {es : List (Nat × AS)}
theorem roll_own (h : RollAt w R base room ev es) {b : Nat} (hb : ev.ownBlock = some b) : base ≤ b ∧ ∃ c, w.heap[b]? = some (.cells c 136 (0, 0)) := by
  rcases h.o.2 with ⟨rfl, _⟩ | ⟨g, cap, cur, rfl, h0, hg, _⟩
  · cases hb
  · cases hb; exact ⟨h0, _, hg⟩
theorem roll_types (h : RollAt w R base room ev es) : ev.ownBlock ≠ some R ∧ (∀ p ∈ es, p.1 ≠ R) ∧ (∀ p ∈ es, ev.ownBlock ≠ some p.1) := by
  refine ⟨fun e => ?_, fun p hp e => ?_, fun p hp e => ?_⟩
  · obtain ⟨_, c, hc⟩ := roll_own h e; have := hc.symm.trans h.r; simp at this
  · have h1 := (h.e p hp).2; rw [e] at h1; have := h1.symm.trans h.r; simp at this
  · obtain ⟨_, c, hc⟩ := roll_own h e; have := hc.symm.trans (h.e p hp).2; simp at this
/-- The types of a roll's blocks. -/
theorem roll_f (h : RollAt w R base room ev es) {b : Nat} (hb : RollF R ev es b) : ∃ c t, w.heap[b]? = some (.cells c t (0, 0)) ∧ (t = 176 ∨ t = 136 ∨ t = 140) := by
  rcases hb with rfl | hb | ⟨p, hp, rfl⟩
  · exact ⟨_, _, h.r, .inl rfl⟩
  · obtain ⟨_, c, hc⟩ := roll_own h hb; exact ⟨c, _, hc, .inr (.inl rfl)⟩
  · exact ⟨_, _, (h.e p hp).2, .inr (.inr rfl)⟩
theorem roll_ne (h : RollAt w R base room ev es) {b : Nat} {c : Array Value} {t : TypeId} (hb : w.heap[b]? = some (.cells c t (0, 0))) (ht : t ≠ 176 ∧ t ≠ 136 ∧ t ≠ 140) : ¬ RollF R ev es b := by
  intro hf
  obtain ⟨c', t', hc, h3⟩ := roll_f h hf
  have := hb.symm.trans hc
  simp at this
  rw [← this.2] at h3
  rcases h3 with h | h | h
  · exact ht.1 h
  · exact ht.2.1 h
  · exact ht.2.2 h
end
end Go.Proofs.YteebjgfalllbjaaGreatDoor
namespace Go.Proofs.YteebjgfalllbjaaGreatDoor
open Go.RowKit

/-- An engine, its roll, its journal, as they lie behind the sagas that were taken. -/
structure EngD (w : World) (k : DK) (rs : List (Nat × List SS)) (X J R V base : Nat) (room : Int) (ev : Value) (es : List (Nat × AS)) (clock pause : Int) (cv : Value) (sb : Bool) : Prop where
  e : EngAt w X J R clock pause cv
  r : RollAt w R base room ev es
  m : es.map (·.2) = k.L
  rm : room = (k.n : Int) - 1 - needR rs
  j : JAt w J V ((rs.length + 1 : Nat) : Int) sb
  v : VolAt w V k.A k.n
  f : ∀ b, (b = X ∨ b = J ∨ b = V ∨ RollF R ev es b) → k.F b
  b : base ≤ w.heap.size
/-- The program, as long as nothing fails and no tick is made. -/
def Dev1 (w : World) (k : DK) (bs : List Value) : Prop :=
  (k.nn = true ∧ bs = List.replicate (k.n * 128) (.int .u8 0) ∧ k.L = [] ∧ k.x = none) ∨
  (k.nn = false ∧ inB k.n = true ∧ ∃ rs, bs = layB k.n (rs.map recB) ∧ needR rs ≤ k.n - 1 ∧ (∀ p ∈ rs, sagaOk (p.1 : Nat) p.2 = true) ∧ (rs.map (·.1)).Nodup ∧ k.L = rsL rs ∧
    ∀ a, k.x = some a → ∃ X J R V base room ev es clock pause cv sb, a = ⟨X, 0, none⟩ ∧ EngD w k rs X J R V base room ev es clock pause cv sb)
def G1 : Prg where
  Dev := Dev1
  fr := by
    rintro S w w' q bs h hf hF
    rcases h with h | ⟨h1, h2, rs, h3, h4, h5, h6, h7, h8⟩
    · exact .inl h
    · refine .inr ⟨h1, h2, rs, h3, h4, h5, h6, h7, fun a ha => ?_⟩
      obtain ⟨X, J, R, V, base, room, ev, es, clock, pause, cv, sb, e, g⟩ := h8 a ha
      refine ⟨X, J, R, V, base, room, ev, es, clock, pause, cv, sb, e, hf.keep g.e (hF _ (g.f _ (.inl rfl))), g.r.fr hf (fun b hb => hF _ (g.f _ (.inr (.inr (.inr hb))))), g.m, g.rm, hf.keep g.j (hF _ (g.f _ (.inr (.inl rfl)))), hf.keep g.v (hF _ (g.f _ (.inr (.inr (.inl rfl))))), g.f, Nat.le_trans g.b hf.size⟩
  new := fun w A B Pp n => .inl ⟨rfl, rfl, rfl, rfl⟩
theorem dev1_shut {w : World} {k : DK} {bs : List Value} (h : Dev1 w k bs) : Dev1 w k.shut bs := by
  rcases h with ⟨h1, h2, h3, _⟩ | ⟨h1, h2, rs, h3, h4, h5, h6, h7, _⟩
  · exact .inl ⟨h1, h2, h3, rfl⟩
  · exact .inr ⟨h1, h2, rs, h3, h4, h5, h6, h7, fun a ha => by cases ha⟩
theorem fmt1 {w : World} {s : Nat} {k : DK} (h : DevI G1 w s k) (hs : s < 90000) : Calls Tryz.prog 40 #[.pointer (some ⟨k.A, 0, none⟩)] w fun e w' => FmtQ (fun w' => DevI G1 w' (s + 1) (if inB k.n then k.fmt else k.shut)) (fun b => b = k.A ∨ b = k.B) k.n w e w' := by
  obtain ⟨calls, writes, bs, h1, h2, h3, h4, h5, h6, h7⟩ := h
  by_cases hi : inB k.n = true
  · obtain ⟨n8, n4⟩ := inB_iff.1 hi
    refine (pFormat_ok h1 h2 h3 (by omega) h5 (by omega) n8 n4).mono ?_
    rintro e w' ⟨v, rfl, hv, bs', hd', hr', rfl, hf⟩
    refine ⟨v, rfl, by rw [if_pos hi]; exact hv, ?_, hf⟩
    rw [if_pos hi]
    exact ⟨_, _, _, hd', hr', by omega, by push_cast; omega, by omega, by push_cast; omega, .inr ⟨rfl, hi, [], (layB_nil k.n).symm, Nat.zero_le _, by simp, by simp, rfl, fun a ha => by cases ha⟩⟩
  · have hb : k.n < 8 ∨ 400 < k.n := by
      have := mt inB_iff.2 hi
      omega
    refine (pFormat_bad h1 hb).mono ?_
    rintro e w' ⟨v, rfl, hv, hf⟩
    refine ⟨v, rfl, by rw [if_neg hi]; exact hv, ?_, hf.mono (fun _ _ h => h.elim)⟩
    rw [if_neg hi]
    exact ⟨_, _, _, h1.fr hf id, ⟨hf.keep h2.1 id, h2.2⟩, h3, by push_cast; omega, h5, by push_cast; omega, dev1_shut (G1.fr h7 hf (fun _ _ => id))⟩
/-- The roll while a journal of such sagas is read. -/
def RP1 (rs : List (Nat × List SS)) (n s0 R i : Nat) (W : World) : Prop := ∃ ev es, RollAt W R s0 ((n : Int) - 1 - needR (rs.take i)) ev es ∧ es.map (·.2) = rsL (rs.take i) ∧ (∀ b, RollF R ev es b → b = R ∨ R + 7 ≤ b) ∧ R + 7 ≤ W.heap.size
theorem sorted_of {es : List (Nat × AS)} {L : List AS} (hm : es.map (·.2) = L) (h : L.Pairwise (fun a b => a.id < b.id)) : Sorted es := by
  rw [← hm, List.pairwise_map] at h; exact h
theorem mem_of_map {es : List (Nat × AS)} {L : List AS} (hm : es.map (·.2) = L) {p : Nat × AS} (hp : p ∈ es) : p.2 ∈ L := by rw [← hm]; exact List.mem_map.2 ⟨p, hp, rfl⟩
theorem hand1 {rs : List (Nat × List SS)} {n s0 R i : Nat} {r : List Value} {W : World} (hn4 : n ≤ 400) (hnd : needR rs ≤ n - 1) (hok : ∀ p ∈ rs, sagaOk (p.1 : Nat) p.2 = true) (hdup : (rs.map (·.1)).Nodup) (hsR : s0 ≤ R) (hr : (rs.map recB)[i]? = some r) (hRP : RP1 rs n s0 R i W)
    (h3 : W.heap[R + 2]? = some (.cells #[.func (.func 63) #[.pointer (some ⟨R, 0, none⟩)] #[]] 127 (0, 0))) (h4 : W.heap[R + 3]? = some (.cells #[.func (.func 76) #[.pointer (some ⟨R, 0, none⟩)] #[]] 162 (0, 0))) (hrl : rs.length ≤ 400) :
    Calls Tryz.prog 115 #[.agg r.toArray, .pointer (some ⟨R + 2, 0, none⟩), .pointer (some ⟨R + 3, 0, none⟩)] W fun e w' => e = .returned (.bool true) ∧ RP1 rs n s0 R (i + 1) w' ∧ Fr (fun b => b = R ∨ R + 7 ≤ b) W w' := by
  rw [List.getElem?_map] at hr
  obtain ⟨p, hp, rfl⟩ := Option.map_eq_some_iff.1 hr
  obtain ⟨ev, es, hra, hm, hF, hsz⟩ := hRP
  have hpm := List.mem_of_getElem? hp
  have hokp := hok p hpm
  obtain ⟨_, _, _, h6, h8⟩ := saga_of p.1 p.2 hokp
  have htk := needR_take rs i p hp
  have hi := (List.getElem?_eq_some_iff.1 hp).1
  have hdt : ((rs.take i).map (·.1)).Nodup := by rw [List.map_take]; exact hdup.sublist (List.take_sublist _ _)
  have hes : es.length = (rs.take i).length := by
    have h1 := congrArg List.length hm
    rw [List.length_map] at h1
    rw [h1, len_rsL]
  have hnoid : ∀ q ∈ es, q.2.id ≠ (p.1 : Int) := by
    intro q hq e
    obtain ⟨z, hz, hz2⟩ := mem_rsL.1 (mem_of_map hm hq)
    rw [hz2] at e
    have e' : z.1 = p.1 := by have : (z.1 : Int) = p.1 := e; omega
    have ers : rs = rs.take i ++ p :: rs.drop (i + 1) := by
      have h2 : rs[i] = p := (List.getElem?_eq_some_iff.1 hp).2
      rw [← h2, List.getElem_cons_drop, List.take_append_drop]
    have hd2 := hdup
    rw [ers, List.map_append, List.map_cons, List.nodup_append] at hd2
    exact hd2.2.2 z.1 (List.mem_map.2 ⟨z, hz, rfl⟩) p.1 (by simp) e'
  have hes6 : ∀ q ∈ es, q.2.st.length ≤ 6 := by
    intro q hq
    obtain ⟨z, hz, hz2⟩ := mem_rsL.1 (mem_of_map hm hq)
    rw [hz2, newA_len]
    exact (saga_of z.1 z.2 (hok z (List.mem_of_mem_take hz))).2.2.2.1
  refine (Find11_ok (Q := fun w'' => RP1 rs n s0 R (i + 1) w'' ∧ Fr (fun b => b = R ∨ R + 7 ≤ b) W w'') p.1 p.2 hokp h3 h4 (fun w' hf' => ?_)).mono (fun e w' h => h)
  have hr' := hra.frz hf'
  obtain ⟨t1, t2, t3⟩ := roll_types hr'
  have hsz' := hf'.size
  refine (Take_ok hr' (sorted_of hm (rsL_sorted hdt)) (by rw [hes, List.length_take]; omega) (p.1 : Int) p.2 h6 hnoid (by omega) (by omega) (by omega) t1 t2 t3).mono ?_
  rintro e w'' ⟨g, ev', rfl, hrT, hgT, hfT, hob⟩
  have hFo : ∀ b, ev.ownBlock = some b → b = R ∨ R + 7 ≤ b := fun b hb => hF b (.inr (.inl hb))
  refine ⟨rfl, ⟨ev', insE (g, newA p.1 p.2) es, ?_, ?_, ?_, by have := hfT.size; omega⟩, ?_⟩
  · have e1 : needR (rs.take (i + 1)) = needR (rs.take i) + 2 * p.2.length := by rw [List.take_add_one, hp]; exact needR_snoc _ _
    have e2 : (n : Int) - 1 - (needR (rs.take (i + 1)) : Nat) = (n : Int) - 1 - (needR (rs.take i) : Nat) - 2 * p.2.length := by rw [e1]; push_cast; omega
    rw [e2]
    exact hrT
  · rw [insE_map, hm, List.take_add_one, hp]
    exact (rsL_snoc _ _).symm
  · rintro b (h | h | ⟨q, hq, rfl⟩)
    · exact .inl h
    · rcases hob b h with h | h
      · exact hFo b h
      · exact .inr (by omega)
    · have hmem : q = (g, newA p.1 p.2) ∨ q ∈ es := by
        simp only [insE, List.mem_append, List.mem_cons] at hq
        rcases hq with h1 | h1 | h1
        · exact .inr (List.takeWhile_subset _ h1)
        · exact .inl h1
        · exact .inr (List.dropWhile_subset _ h1)
      rcases hmem with rfl | hqe
      · exact .inr (by show R + 7 ≤ g; omega)
      · exact hF _ (.inr (.inr ⟨q, hqe, rfl⟩))
  · exact (hf'.mono (fun _ _ h => h.elim)).trans hfT (fun b _ h => by
      rcases h with h | h
      · exact .inl h
      · exact hFo b h)
end Go.Proofs.YteebjgfalllbjaaGreatDoor
