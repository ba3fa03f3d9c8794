import Derived.Test.YteebjgfalllbjaaGreatDoorCSvDvDw
import Derived.Test.YteebjgfalllbjaaGreatDoorCSaEaEb
namespace Go.Proofs.YteebjgfalllbjaaGreatDoor
open Go.RowKit
theorem zero_newA {rs : List (Nat × List SS)} : (rsL rs).map AS.zero = rsL rs := by
  have h : ∀ a ∈ rsL rs, AS.zero a = a := by
    intro a ha
    obtain ⟨p, _, rfl⟩ := mem_rsL.1 ha
    rfl
  exact (List.map_congr_left h).trans (List.map_id _)
theorem rs_len {rs : List (Nat × List SS)} (hok : ∀ p ∈ rs, sagaOk (p.1 : Nat) p.2 = true) : 2 * rs.length ≤ needR rs := by
  induction rs with
  | nil => simp
  | cons p rs ih =>
    have h1 := (saga_of p.1 p.2 (hok p (by simp))).2.2.1
    have h2 := ih (fun q hq => hok q (by simp [hq]))
    have : needR (p :: rs) = 2 * p.2.length + needR rs := by simp [needR]
    rw [this, List.length_cons]; omega
theorem rp0 {rs : List (Nat × List SS)} {n s0 R : Nat} {W : World} (hroll : W.heap[R]? = some (.cells #[.slice none 0 0, .int .i64 ((n : Int) - 1)] 176 (0, 0))) (hsz : R + 7 ≤ W.heap.size) : RP1 rs n s0 R 0 W := by
  refine ⟨.slice none 0 0, [], ⟨by simpa [needR] using hroll, World.ownsRow_nil _ _ _ _, by simp⟩, rfl, ?_, hsz⟩
  rintro b (h | h | ⟨q, hq, _⟩)
  · exact .inl h
  · cases h
  · cases hq
theorem opn1 {w : World} {s : Nat} {k : DK} {calls writes : Int} (p : Int) (h : DevI G1 w s k) (hd0 : DiskAt w k.A k.B k.n (.slice none 0 0) calls writes) (hs : s < 90000) :
    Calls Tryz.prog 33 #[.pointer (some ⟨k.A, 0, none⟩), .int .i64 p, .pointer (some ⟨k.Pp, 0, none⟩)] w fun e w' => OpenQ (fun xo kk w' => if kk = 0 then ∃ F, FT w' w.heap.size F ∧ DevI G1 w' (s + 1) (k.opened xo p F) else DevI G1 w' (s + 1) k.shut) (fun b => b = k.A) k.A k.B k.n k.nn p writes w e w' := by
  obtain ⟨calls0, writes0, bs, h1, h2, h3, h4, h5, h6, h7⟩ := h
  obtain ⟨ec, ew⟩ : calls = calls0 ∧ writes = writes0 := by
    have := hd0.symm.trans h1
    simp [dcells] at this
    exact this
  subst ec ew
  refine pOpen_any ?_
  have hfail : ∀ (kk : Int), kk ≠ 0 → kk = openK p k.n k.nn → ∀ v w', ErrAt w' v kk → (∃ cl, calls ≤ cl ∧ cl ≤ calls + 1 ∧ DiskAt w' k.A k.B k.n (.slice none 0 0) cl writes) → Fr (fun b => b = k.A) w w' → OpenQ (fun xo kk w' => if kk = 0 then ∃ F, FT w' w.heap.size F ∧ DevI G1 w' (s + 1) (k.opened xo p F) else DevI G1 w' (s + 1) k.shut) (fun b => b = k.A) k.A k.B k.n k.nn p writes w (.returned (.tuple #[.pointer none, v])) w' := by
    rintro kk hk ek v w' hv ⟨cl, hc1, hc2, hd⟩ hf
    refine ⟨none, v, kk, rfl, hv, ek, by simp [hk], ⟨cl, hd⟩, ?_, hf⟩
    show (if kk = 0 then _ else _)
    rw [if_neg hk]
    have nB : k.B ≠ k.A := fun e => by have := h2.1; rw [e] at this; have := this.symm.trans h1; simp [dcells] at this
    have h7s : Dev1 w k.shut bs := dev1_shut h7
    exact ⟨cl, writes, bs, hd, ⟨hf.keep h2.1 nB, h2.2⟩, by omega, by push_cast; omega, h5, by push_cast; omega, G1.fr h7s hf (fun b h => h.elim)⟩
  by_cases hp : p < 1 ∨ 64 < p
  · refine (sOpen_pause p hp).mono ?_
    rintro e w' ⟨v, rfl, hv, hf⟩
    exact ⟨_, _, rfl, hfail 8 (by decide) (by simp [openK, hp]) v w' hv ⟨calls, Int.le_refl _, by omega, h1.fr hf id⟩ (hf.mono (fun _ _ h => h.elim))⟩
  · by_cases hi : inB k.n = true
    · obtain ⟨n8, n4⟩ := inB_iff.1 hi
      rcases h7 with ⟨hnn, hbs, _, _⟩ | ⟨hnn, _, rs, hbs, hnd, hok, hdup, hL, _⟩
      · refine (sOpen_corrupt p (by omega) (by omega) h1 h2 h3 (by omega) n8 n4 (by rw [hbs]; exact take_zeros n8)).mono ?_
        rintro e w' ⟨v, rfl, hv, hd', hf⟩
        exact ⟨_, _, rfl, hfail 6 (by decide) (by simp [openK, hp, hi, hnn]) v w' hv ⟨_, by omega, Int.le_refl _, hd'⟩ hf⟩
      · have hlen := rs_len hok
        have hAl := lt_of_heap h1
        refine (sOpen_ok (recs := rs.map recB) p (by omega) (by omega) h1 h2 h3 (by omega) n8 n4 hbs (by rw [List.length_map]; omega) (fun r hr => by obtain ⟨q, hq, rfl⟩ := List.mem_map.1 hr; exact recB_ok (hok q hq)) (fun R i W => RP1 rs k.n w.heap.size R i W)
          (fun R W hRw hroll hsz => rp0 hroll hsz)
          (fun R i W W' hRw hRP hf => by
            obtain ⟨ev, es, q1, q2, q3, q4⟩ := hRP
            refine ⟨ev, es, q1.fr hf (fun b hb h => ?_), q2, q3, Nat.le_trans q4 hf.size⟩
            rcases q3 b hb with e | e <;> rcases h with h | h <;> omega)
          (fun R i r W hRw hr hRP h3 h4 => hand1 n4 hnd hok hdup hRw hr hRP h3 h4 (by omega))).mono ?_
        rintro e w' ⟨X, rfl, V, R, J, cl, g1, g2, g3, g4, g5, g6, g7, g8, g9, g10⟩
        refine ⟨_, _, rfl, some ⟨X, 0, none⟩, _, 0, rfl, .inl ⟨rfl, rfl⟩, by simp [openK, hp, hi, hnn], by simp, ⟨cl, g4.d⟩, ?_, g10⟩
        show (if (0 : Int) = 0 then _ else _)
        rw [if_pos rfl]
        obtain ⟨ev, es, q1, q2, q3, q4⟩ := g5
        rw [List.length_map] at g4 q1 q2
        rw [List.take_length] at q1 q2
        refine ⟨fun b => b = X ∨ b = J ∨ b = V ∨ RollF R ev es b, ?_, cl, writes, _, g4.d, g4.r, by omega, by push_cast; omega, h5, by push_cast; omega, ?_⟩
        · rintro b (rfl | rfl | rfl | hb)
          · exact ⟨by omega, _, _, g1, by unfold EngT; decide⟩
          · exact ⟨by omega, _, _, g4.j, by unfold EngT; decide⟩
          · exact ⟨by omega, _, _, g4.v, by unfold EngT; decide⟩
          · obtain ⟨c, t, hc, ht⟩ := roll_f q1 hb
            refine ⟨by rcases q3 b hb with h | h <;> omega, c, t, hc, ?_⟩
            rcases ht with rfl | rfl | rfl <;> (unfold EngT; decide)
        · refine .inr ⟨rfl, hi, rs, rfl, hnd, hok, hdup, ?_, ?_⟩
          · show k.L.map AS.zero = rsL rs
            rw [hL, zero_newA]
          · intro a ha
            obtain rfl : ⟨X, 0, none⟩ = a := by simpa [DK.opened] using ha
            refine ⟨X, J, R, V, w.heap.size, _, ev, es, _, _, _, false, rfl, g1, q1, ?_, rfl, g4.j, g4.v, fun b hb => hb, g10.size⟩
            show es.map (·.2) = k.L.map AS.zero
            rw [hL, zero_newA, q2]
    · have hb : k.n < 8 ∨ 400 < k.n := by
        have := mt inB_iff.2 hi
        omega
      refine (sOpen_size p (by omega) (by omega) h1 hb).mono ?_
      rintro e w' ⟨v, rfl, hv, hf⟩
      exact ⟨_, _, rfl, hfail 7 (by decide) (by simp [openK, hp, hi]) v w' hv ⟨calls, Int.le_refl _, by omega, h1.fr hf id⟩ (hf.mono (fun _ _ h => h.elim))⟩
theorem sta1 {w : World} {s : Nat} {k : DK} {X : Addr} (id : Int) (h : DevI G1 w s k) (hs : s < 90001) (hx : k.x = some X) (hL : OkL k.L) (hls : k.L.length ≤ s) : Calls Tryz.prog 24 #[.pointer (some X), .int .i64 id] w fun e w' => StatA k.L id w e w' := by
  obtain ⟨calls0, writes0, bs, h1, h2, h3, h4, h5, h6, h7⟩ := h
  rcases h7 with ⟨_, _, _, hxn⟩ | ⟨_, _, rs, _, _, hok, _, hLr, h8⟩
  · rw [hxn] at hx; cases hx
  · obtain ⟨X', J, R, V, base, room, ev, es, clock, pause, cv, sb, rfl, g⟩ := h8 X hx
    have hlen : es.length = k.L.length := by rw [← g.m, List.length_map]
    have := eStatus_ok g.e g.r (sorted_of g.m hL.1) (by omega) (fun p hp => by
      obtain ⟨z, hz, hz2⟩ := mem_rsL.1 (by rw [← hLr]; exact mem_of_map g.m hp)
      rw [hz2, newA_len]
      exact (saga_of z.1 z.2 (hok z hz)).2.2.2.1) id
    rwa [g.m] at this
end Go.Proofs.YteebjgfalllbjaaGreatDoor
namespace Go.Proofs.YteebjgfalllbjaaGreatDoor
open Go.RowKit
theorem rows_more {w : World} {g : Nat} {st : List SS} {z : List SS} {t : TypeId} (h : w.heap[g]? = some (.cells (scells (st ++ z)).toArray t (0, 0))) : RowsOf w (some ⟨g, 0, none⟩) 2 (st.map stv) := by
  intro i cs hi
  refine rows_scells h i cs ?_
  rw [List.map_append, List.getElem?_append_left (by have := (List.getElem?_eq_some_iff.1 hi).1; exact this)]
  exact hi
/-- An engine's blocks. -/
def EngF (X J R V : Nat) (ev : Value) (es : List (Nat × AS)) (b : Nat) : Prop := b = X ∨ b = J ∨ b = V ∨ RollF R ev es b
theorem eng_ft {w : World} {k : DK} {rs : List (Nat × List SS)} {X J R V base : Nat} {room : Int} {ev : Value} {es : List (Nat × AS)} {clock pause : Int} {cv : Value} {sb : Bool} (g : EngD w k rs X J R V base room ev es clock pause cv sb) : FT w 0 (EngF X J R V ev es) := by
  rintro b (rfl | rfl | rfl | hb)
  · exact ⟨Nat.zero_le _, _, _, g.e, by unfold EngT; decide⟩
  · exact ⟨Nat.zero_le _, _, _, g.j, by unfold EngT; decide⟩
  · exact ⟨Nat.zero_le _, _, _, g.v, by unfold EngT; decide⟩
  · obtain ⟨c, t, hc, ht⟩ := roll_f g.r hb
    refine ⟨Nat.zero_le _, c, t, hc, ?_⟩
    rcases ht with rfl | rfl | rfl <;> (unfold EngT; decide)
theorem sub1 {w : World} {s : Nat} {k : DK} {X : Addr} (id : Int) (st : List SS) (g : Nat) (h : DevI G1 w s k) (hs : s < 90000) (hx : k.x = some X) (hL : OkL k.L) (hls : k.L.length ≤ s) (hg : w.heap[g]? = some (.cells (scells (st ++ [bey, bey])).toArray 58 (0, 0))) :
    Calls Tryz.prog 21 #[.pointer (some X), .int .i64 id, .slice (some ⟨g, 0, none⟩) st.length (st.length + 2)] w fun e w' =>
      ∃ v kk L' F', e = .returned v ∧ ErrAt w' v kk ∧ SubA k.L id st k.n kk L' ∧ (∀ b, F' b → k.F b ∨ w.heap.size ≤ b) ∧ FT w' 0 F' ∧ DevI G1 w' (s + 1) (k.with L' F') ∧ Fr (fun b => b = k.A ∨ b = k.B ∨ k.F b) w w' := by
  obtain ⟨calls, writes, bs, h1, h2, h3, h4, h5, h6, h7⟩ := h
  rcases h7 with ⟨_, _, _, hxn⟩ | ⟨hnn, hi, rs, hbs, hnd, hok, hdup, hLr, h8⟩
  · rw [hxn] at hx; cases hx
  obtain ⟨X', J, R, V, base, room, ev, es, clock, pause, cv, sb, rfl, gd⟩ := h8 X hx
  obtain ⟨n8, n4⟩ := inB_iff.1 hi
  have hlen : es.length = k.L.length := by rw [← gd.m, List.length_map]
  have hso := sorted_of gd.m hL.1
  have hes6 : ∀ p ∈ es, p.2.st.length ≤ 6 := fun p hp => by
    obtain ⟨z, hz, hz2⟩ := mem_rsL.1 (by rw [← hLr]; exact mem_of_map gd.m hp)
    rw [hz2, newA_len]
    exact (saga_of z.1 z.2 (hok z hz)).2.2.2.1
  have hrows := rows_more hg
  -- where nothing is changed
  have stay : ∀ w', Fr (fun _ => False) w w' → (∀ b, EngF X' J R V ev es b → k.F b ∨ w.heap.size ≤ b) ∧ FT w' 0 (EngF X' J R V ev es) ∧ DevI G1 w' (s + 1) (k.with k.L (EngF X' J R V ev es)) ∧ Fr (fun b => b = k.A ∨ b = k.B ∨ k.F b) w w' := by
    intro w' hf
    have gd' : EngD w' (k.with k.L (EngF X' J R V ev es)) rs X' J R V base room ev es clock pause cv sb := ⟨hf.keep gd.e (fun h => h), gd.r.frz hf, gd.m, gd.rm, hf.keep gd.j (fun h => h), hf.keep gd.v (fun h => h), fun b hb => hb, Nat.le_trans gd.b hf.size⟩
    refine ⟨fun b hb => .inl (gd.f b hb), eng_ft gd', ⟨calls, writes, bs, h1.fr hf (fun h => h), ⟨hf.keep h2.1 (fun h => h), h2.2⟩, h3, by push_cast; omega, h5, by push_cast; omega, .inr ⟨hnn, hi, rs, hbs, hnd, hok, hdup, hLr, fun a ha => ?_⟩⟩, hf.mono (fun _ _ h => h.elim)⟩
    have ha' : k.x = some a := ha
    rw [hx] at ha'
    cases ha'
    exact ⟨X', J, R, V, base, room, ev, es, clock, pause, cv, sb, rfl, gd'⟩
  by_cases hsok : sagaOk id st = true
  · obtain ⟨hid1, hid2, hn1, h6', h8'⟩ := saga_of id st hsok
    by_cases hin : ∃ p ∈ es, p.2.id = id
    · have HO := submit_old gd.e id st hrows gd.r hso (by omega) hes6 hsok hin
      by_cases hall : ∀ p ∈ es, p.2.id = id → p.2.st = st
      · refine (eSubmit_nil (Q := fun w' => (∃ p ∈ es, p.2.id = id) ∧ Fr (fun _ => False) w w') (HO.mono ?_)).mono ?_
        · rintro e w' ⟨p, hp, hid, rfl, hf⟩
          rw [if_pos (hall p hp hid)]
          exact ⟨rfl, ⟨p, hp, hid⟩, hf⟩
        · rintro e w' ⟨rfl, ⟨p, hp, hid⟩, hf⟩
          obtain ⟨s1, s2, s3, s4⟩ := stay w' hf
          exact ⟨_, 0, k.L, _, rfl, .inl ⟨rfl, rfl⟩, .inr (.inl ⟨hsok, p.2, mem_of_map gd.m hp, hid, by rw [if_pos (hall p hp hid)], rfl⟩), s1, s2, s3, s4⟩
      · obtain ⟨p0, hp0, hid0, hne0⟩ : ∃ p ∈ es, p.2.id = id ∧ ¬ p.2.st = st := by
          simp only [Classical.not_forall] at hall
          obtain ⟨p, hp, hid, hne⟩ := hall
          exact ⟨p, hp, hid, hne⟩
        have huniq : ∀ p ∈ es, p.2.id = id → p = p0 := by
          intro p hp hid
          obtain ⟨i, hi1, rfl⟩ := List.mem_iff_getElem.1 hp
          obtain ⟨j, hj1, rfl⟩ := List.mem_iff_getElem.1 hp0
          rcases Nat.lt_trichotomy i j with hlt | rfl | hlt
          · have := List.pairwise_iff_getElem.1 hso i j hi1 hj1 hlt; omega
          · rfl
          · have := List.pairwise_iff_getElem.1 hso j i hj1 hi1 hlt; omega
        refine (eSubmit_err (k := 2) (by decide) (Q := fun w' => Fr (fun _ => False) w w') (HO.mono ?_)).mono ?_
        · rintro e w' ⟨p, hp, hid, rfl, hf⟩
          rw [huniq p hp hid, if_neg hne0]
          exact ⟨rfl, hf⟩
        · rintro e w' ⟨v, w2, rfl, hv, hf2, hf⟩
          obtain ⟨s1, s2, s3, s4⟩ := stay w' (hf2.trans hf (fun _ _ h => h))
          exact ⟨v, 2, k.L, _, rfl, hv, .inr (.inl ⟨hsok, p0.2, mem_of_map gd.m hp0, hid0, by rw [if_neg hne0], rfl⟩), s1, s2, s3, s4⟩
    · have hno : ∀ p ∈ es, p.2.id ≠ id := fun p hp e => hin ⟨p, hp, e⟩
      have hnoL : ∀ a ∈ k.L, a.id ≠ id := by
        intro a ha
        rw [← gd.m] at ha
        obtain ⟨p, hp, rfl⟩ := List.mem_map.1 ha
        exact hno p hp
      by_cases hroom : 2 * (st.length : Int) ≤ room
      · have hkk : ((id.toNat : Nat) : Int) = id := by omega
        have hrl := rs_len hok
        have hz2 := needR_snoc rs (id.toNat, st)
        have hrm := gd.rm
        have hrecl : ∀ x ∈ rs.map recB, x.length = 128 := fun x hx => by
          obtain ⟨q, hq, rfl⟩ := List.mem_map.1 hx
          exact (recB_ok (hok q hq)).1
        have hokn : sagaOk ((id.toNat : Nat) : Int) st = true := by rw [hkk]; exact hsok
        have hjn : JnS w J V k.A k.B k.n calls writes ((rs.length + 1 : Nat) : Int) sb bs := ⟨gd.v, h1, h2, gd.j⟩
        obtain ⟨t1, t2, t3⟩ := roll_types gd.r
        have nA := roll_ne gd.r h1 (by decide)
        have nB := roll_ne gd.r h2.1 (by decide)
        have nJ := roll_ne gd.r gd.j (by decide)
        have nV := roll_ne gd.r gd.v (by decide)
        have nX := roll_ne gd.r gd.e (by decide)
        have hdis : ∀ b, RollF R ev es b → b ≠ k.A ∧ b ≠ k.B ∧ b ≠ J ∧ b ≠ V ∧ b ≠ X' := by
          intro b hb
          exact ⟨fun e => nA (e ▸ hb), fun e => nB (e ▸ hb), fun e => nJ (e ▸ hb), fun e => nV (e ▸ hb), fun e => nX (e ▸ hb)⟩
        have hzz : (bs.drop ((rs.length + 1) * 128)).take 128 = zB := by
          rw [hbs]
          exact layB_zero k.n _ hrecl (rs.length + 1) (by rw [List.length_map]; omega) (by omega)
        refine (eSubmit_nil (submit_new gd.e id st hrows id.toNat hkk hjn h3 (by omega) h5 (by omega) (by omega) n4 hzz hdis (by omega) gd.b t1 t2 t3 gd.r hso (by omega) hes6 hsok hno hroom)).mono ?_
        rintro e w' ⟨rfl, g', ev', hr', hg', hob, ⟨calls', writes', c1, c2, c3, c4, hj'⟩, he', hf'⟩
        have hmem : ∀ q ∈ insE (g', newA id st) es, q = (g', newA id st) ∨ q ∈ es := by
          intro q hq
          simp only [insE, List.mem_append, List.mem_cons] at hq
          rcases hq with h1 | h1 | h1
          · exact .inr (List.takeWhile_subset _ h1)
          · exact .inl h1
          · exact .inr (List.dropWhile_subset _ h1)
        have hLn : insA ⟨id, st, (1, 1), 0, 0⟩ k.L = rsL (rs ++ [(id.toNat, st)]) := by
          rw [rsL_snoc, ← hLr]
          show insA (newA id st) k.L = insA (newA ((id.toNat : Nat) : Int) st) k.L
          rw [hkk]
        have hrec : ldB 2 (bodyS id.toNat st.length (six st) 6) 4 = recB (id.toNat, st) := rfl
        have gd' : EngD w' (k.with (insA ⟨id, st, (1, 1), 0, 0⟩ k.L) (EngF X' J R V ev' (insE (g', newA id st) es))) (rs ++ [(id.toNat, st)]) X' J R V base (room - 2 * st.length) ev' (insE (g', newA id st) es) clock pause cv true := by
          refine ⟨he', hr', ?_, ?_, ?_, hj'.v, fun b hb => hb, Nat.le_trans gd.b hf'.size⟩
          · rw [insE_map, gd.m]; rfl
          · show room - 2 * (st.length : Int) = (k.n : Int) - 1 - ((needR (rs ++ [(id.toNat, st)]) : Nat) : Int)
            rw [hz2]; push_cast; omega
          · have := hj'.j
            rw [List.length_append, List.length_singleton]
            push_cast at this ⊢
            exact this
        refine ⟨_, 0, _, EngF X' J R V ev' (insE (g', newA id st) es), rfl, .inl ⟨rfl, rfl⟩, .inr (.inr ⟨hsok, hnoL, .inl ⟨rfl, rfl⟩⟩), ?_, eng_ft gd', ⟨calls', writes', _, hj'.d, hj'.r, by omega, by push_cast; omega, by omega, by push_cast; omega, .inr ⟨hnn, hi, rs ++ [(id.toNat, st)], ?_, ?_, ?_, ?_, hLn, fun a ha => ?_⟩⟩, ?_⟩
        · rintro b (h | h | h | h | h | ⟨q, hq, rfl⟩)
          · exact .inl (gd.f b (.inl h))
          · exact .inl (gd.f b (.inr (.inl h)))
          · exact .inl (gd.f b (.inr (.inr (.inl h))))
          · exact .inl (gd.f b (.inr (.inr (.inr (.inl h)))))
          · rcases hob b h with h | h
            · exact .inl (gd.f b (.inr (.inr (.inr (.inr (.inl h))))))
            · exact .inr h
          · rcases hmem q hq with rfl | hq
            · exact .inr hg'
            · exact .inl (gd.f _ (.inr (.inr (.inr (.inr (.inr ⟨q, hq, rfl⟩))))))
        · rw [hbs, hrec, List.map_append, List.map_singleton]
          have e0 : rs.length = (rs.map recB).length := by rw [List.length_map]
          rw [e0]
          exact layB_add k.n _ _ hrecl (recB_ok (p := (id.toNat, st)) hokn).1 (by rw [List.length_map]; show rs.length + 1 < k.n; omega)
        · show needR (rs ++ [(id.toNat, st)]) ≤ k.n - 1
          rw [hz2]; show needR rs + 2 * st.length ≤ k.n - 1; omega
        · intro p hp
          rcases List.mem_append.1 hp with hp | hp
          · exact hok p hp
          · rw [List.mem_singleton.1 hp]; exact hokn
        · rw [List.map_append, List.nodup_append]
          refine ⟨hdup, by simp, ?_⟩
          intro a ha b hb e
          obtain ⟨z, hz, rfl⟩ := List.mem_map.1 ha
          have hb' : b = id.toNat := by simpa using hb
          refine hnoL (newA z.1 z.2) (by rw [hLr]; exact mem_rsL.2 ⟨z, hz, rfl⟩) ?_
          show ((z.1 : Nat) : Int) = id
          omega
        · have ha' : k.x = some a := ha
          rw [hx] at ha'
          cases ha'
          exact ⟨X', J, R, V, base, _, ev', _, clock, pause, cv, true, rfl, gd'⟩
        · refine hf'.mono (fun b _ h => ?_)
          rcases h with h | h | h | h | h
          · exact .inl h
          · exact .inr (.inl h)
          · exact .inr (.inr (gd.f b (.inr (.inl h))))
          · exact .inr (.inr (gd.f b (.inr (.inr (.inr (.inl h))))))
          · exact .inr (.inr (gd.f b (.inr (.inr (.inr (.inr (.inl h)))))))
      · refine (eSubmit_err (k := 3) (by decide) (Q := fun w' => Fr (fun _ => False) w w') (submit_full gd.e id st hrows gd.r hso (by omega) hes6 hsok hno hroom)).mono ?_
        rintro e w' ⟨v, w2, rfl, hv, hf2, hf⟩
        obtain ⟨s1, s2, s3, s4⟩ := stay w' (hf2.trans hf (fun _ _ h => h))
        refine ⟨v, 3, k.L, _, rfl, hv, .inr (.inr ⟨hsok, hnoL, .inr ⟨rfl, ?_, rfl⟩⟩), s1, s2, s3, s4⟩
        have hsum : ∀ L : List AS, (L.map fun a => 2 * a.st.length).sum ≤ (L.map fun a => 2 * a.st.length + 2).sum := fun L => by
          induction L with
          | nil => simp
          | cons a L ih => simp only [List.map_cons, List.sum_cons]; omega
        have h9 := hsum k.L
        have h10 := sum_rsL rs
        rw [← hLr] at h10
        have hrm := gd.rm
        unfold needA
        omega
  · have hbad : sagaOk id st = false := by simpa using hsok
    refine (eSubmit_err (k := 1) (by decide) (Q := fun w' => Fr (fun _ => False) w w') (submit_bad gd.e id st hrows hbad)).mono ?_
    rintro e w' ⟨v, w2, rfl, hv, hf2, hf⟩
    obtain ⟨s1, s2, s3, s4⟩ := stay w' (hf2.trans hf (fun _ _ h => h))
    exact ⟨v, 1, k.L, _, rfl, hv, .inl ⟨hbad, rfl, rfl⟩, s1, s2, s3, s4⟩
end Go.Proofs.YteebjgfalllbjaaGreatDoor
namespace Go.Proofs.YteebjgfalllbjaaGreatDoor
open Go.RowKit
theorem all1 {w : World} {s : Nat} {k : DK} {X : Addr} (most : Int) (h : DevI G1 w s k) (hs : s < 90001) (hx : k.x = some X) (hls : k.L.length ≤ s) : Calls Tryz.prog 35 #[.pointer (some X), .int .i64 most] w fun e w' => AllQ ((k.L.take most.toNat).map AS.told) w e w' := by
  obtain ⟨calls0, writes0, bs, h1, h2, h3, h4, h5, h6, h7⟩ := h
  rcases h7 with ⟨_, _, _, hxn⟩ | ⟨_, _, rs, _, _, hok, _, hLr, h8⟩
  · rw [hxn] at hx; cases hx
  · obtain ⟨X', J, R, V, base, room, ev, es, clock, pause, cv, sb, rfl, g⟩ := h8 X hx
    have hlen : es.length = k.L.length := by rw [← g.m, List.length_map]
    have := pAll_ok g.e g.r (by omega) (fun p hp => by
      obtain ⟨z, hz, hz2⟩ := mem_rsL.1 (by rw [← hLr]; exact mem_of_map g.m hp)
      rw [hz2, newA_len]
      exact (saga_of z.1 z.2 (hok z hz)).2.2.2.1) most
    have e : (sts es).take most.toNat = (k.L.take most.toNat).map AS.told := by
      rw [← g.m, List.map_take, List.map_map]; rfl
    rwa [e] at this
theorem good1 : Good G1 where
  shut := dev1_shut
  fmt := fun h hs _ => fmt1 h hs
  opn := fun p h hd hs _ _ _ => opn1 p h hd hs
  all := fun most h hs hx _ hls => all1 most h hs hx hls
  sta := fun id h hs hx hL hls => sta1 id h hs hx hL hls
  sub := fun id st g h hs _ hx hL hls _ hg => sub1 id st g h hs hx hL hls hg
end Go.Proofs.YteebjgfalllbjaaGreatDoor
