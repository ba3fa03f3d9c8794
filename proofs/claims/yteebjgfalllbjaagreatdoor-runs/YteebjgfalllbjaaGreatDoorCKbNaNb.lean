import Derived.Test.YteebjgfalllbjaaGreatDoorCTjTmKa
import Derived.Test.YteebjgfalllbjaaGreatDoorCAqTiDz
import Derived.Test.YteebjgfalllbjaaGreatDoorCEaEbTn
import Derived.Test.YteebjgfalllbjaaGreatDoorCRpAlRs
import Derived.Test.YteebjgfalllbjaaGreatDoorCRg2FeAd
namespace Go.Proofs.YteebjgfalllbjaaGreatDoor
open Go.RowKit
/-- The types of an engine's blocks. -/
def EngU (t : TypeId) : Prop := t = 91 ∨ t = 179 ∨ t = 212 ∨ t = 176 ∨ t = 136 ∨ t = 140
def FU (w : World) (F : Nat → Prop) : Prop := ∀ b, F b → ∃ c t, w.heap[b]? = some (.cells c t (0, 0)) ∧ EngU t
/-- What is known of an engine's sagas and of the records of its journal. -/
structure ENp (n : Nat) (clock : Int) (L : List AS) (rs : List Rec) : Prop where
  n8 : 8 ≤ n
  n4 : n ≤ 400
  ck : 0 ≤ clock
  ok : RecsOk rs
  nd : needC rs ≤ n - 1
  zL : L.map AS.zero = recL rs
  tr : ∀ a ∈ L, 0 ≤ a.tries ∧ a.tries ≤ clock
section
variable {n : Nat} {clock : Int} {L : List AS} {rs : List Rec}
theorem ENp.so (h : ENp n clock L rs) : L.Pairwise (fun a b => a.id < b.id) := by
  have h1 := (recG h.ok).so
  rw [← h.zL, sorted_ids_iff, List.map_map] at h1
  exact sorted_ids_iff.2 h1
theorem ENp.mem (h : ENp n clock L rs) {a : AS} (ha : a ∈ L) : a.Ok clock ∧ sagaOk a.id a.st = true := by
  have h1 : a.zero ∈ recL rs := by rw [← h.zL]; exact List.mem_map.2 ⟨a, ha, rfl⟩
  have h2 := (recG h.ok).ok _ h1
  have h3 := h.tr a ha
  exact ⟨AS.zero_ok (h2.1.mono h.ck) h3.1 h3.2, h2.2.1⟩
theorem ENp.len (h : ENp n clock L rs) : L.length ≤ 200 ∧ rs.length + (L.map AS.left).sum ≤ n - 1 := by
  have h1 := recG h.ok
  have h2 : (recL rs).length = L.length := by rw [← h.zL, List.length_map]
  have h3 : (recL rs).map AS.left = L.map AS.left := by rw [← h.zL, List.map_map]; rfl
  have h4 := h1.ln
  have h5 := h1.lf
  have h6 := h.nd
  have h7 := h.n4
  rw [h3] at h5
  omega
theorem ENp.need (h : ENp n clock L rs) : (L.map fun a => 2 * a.st.length).sum = needC rs := by
  have h1 := (recG h.ok).nd
  rw [← h.zL, List.map_map] at h1
  exact h1
theorem ENp.add (h : ENp n clock L rs) {id : Int} {st : List SS} (hok : sagaOk id st = true) (hno : ∀ a ∈ L, a.id ≠ id) (hr : needC rs + 2 * st.length ≤ n - 1) : ENp n clock (insA (newA id st) L) (rs ++ [Rec.take id.toNat st]) := by
  obtain ⟨h1, h2, _⟩ := saga_of id st hok
  have hk : ((id.toNat : Nat) : Int) = id := by omega
  refine ⟨h.n8, h.n4, h.ck, recsOk_snoc.2 ⟨h.ok, ?_⟩, by rw [needC_snoc]; exact hr, ?_, ?_⟩
  · refine ⟨by rw [hk]; exact hok, ?_⟩
    intro a ha
    rw [← h.zL] at ha
    obtain ⟨b, hb, rfl⟩ := List.mem_map.1 ha
    rw [hk]
    exact hno b hb
  · rw [insA_zero, h.zL, recL_snoc]
    show insA (newA id st) (recL rs) = insA (newA ((id.toNat : Nat) : Int) st) (recL rs)
    rw [hk]
  · intro a ha
    rcases mem_insA.1 ha with rfl | ha
    · exact ⟨Int.le_refl _, h.ck⟩
    · exact h.tr a ha
theorem ENp.tick {cv : Value} (P : Ptn cv) (s0 : P.σ) (pause : Int) (h : ENp n clock L rs) : ENp n (clock + 1) (tickL P (clock + 1) pause L s0).1 (rs ++ (tickL P (clock + 1) pause L s0).2.2.map mvR) := by
  have hck := h.ck
  have h1 := tickL_recs P (clock + 1) pause L s0 [] rs (by simpa using h.so) (fun a ha => by have := saga_of _ _ (h.mem ha).2; omega) h.ok (by simpa using h.zL)
  have h2 := tickL_ok P (clock + 1) pause L s0 (fun a ha => by have := (h.mem ha).1; simpa using this) (by omega)
  refine ⟨h.n8, h.n4, by omega, h1.1, ?_, by simpa using h1.2, fun a ha => ⟨(h2.1 a ha).t0, (h2.1 a ha).t1⟩⟩
  have e : needC (rs ++ (tickL P (clock + 1) pause L s0).2.2.map mvR) = needC rs := by
    unfold needC
    rw [List.map_append, List.sum_append_nat, List.map_map]
    have : ∀ l : List (Nat × Nat), (l.map (Rec.need ∘ mvR)).sum = 0 := fun l => by
      induction l with
      | nil => rfl
      | cons m l ih => rw [List.map_cons, List.sum_cons, ih]; rfl
    rw [this]; rfl
  rw [e]; exact h.nd
end
/-- An engine, as it lies in memory. -/
structure ENw (w : World) (X J R V A B n base : Nat) (room clock pause calls writes : Int) (ev cv : Value) (es : List (Nat × AS)) (sb : Bool) (L : List AS) (rs : List Rec) (F : Nat → Prop) : Prop where
  E : ES w X J R V A B n base (rs.length + 1) room clock pause calls writes ev cv es sb (layB n (rs.map Rec.bytes))
  m : es.map (·.2) = L
  rm : room = (n : Int) - 1 - needC rs
  b : base ≤ w.heap.size
  f : ∀ c, EngF X J R V ev es c → F c
def EN (w : World) (s X A B n : Nat) (clock pause : Int) (cv : Value) (L : List AS) (rs : List Rec) (F : Nat → Prop) : Prop := ENp n clock L rs ∧ ∃ J R V base room ev es sb calls writes, (0 ≤ calls ∧ calls ≤ 1000 * (s : Int) ∧ 0 ≤ writes ∧ writes ≤ 1000 * (s : Int)) ∧ ENw w X J R V A B n base room clock pause calls writes ev cv es sb L rs F
section
variable {w w' : World} {s X A B n : Nat} {clock pause : Int} {cv : Value} {L : List AS} {rs : List Rec} {F : Nat → Prop}
theorem es_fu {J R V base e : Nat} {room calls writes : Int} {ev : Value} {es : List (Nat × AS)} {sb : Bool} {bs : List Value} (g : ES w X J R V A B n base e room clock pause calls writes ev cv es sb bs) : FU w (EngF X J R V ev es) := by
  rintro b (rfl | rfl | rfl | hb)
  · exact ⟨_, _, g.eng, .inl rfl⟩
  · exact ⟨_, _, g.jn.j, .inr (.inl rfl)⟩
  · exact ⟨_, _, g.jn.v, .inr (.inr (.inl rfl))⟩
  · obtain ⟨c, t, hc, ht⟩ := roll_f g.roll hb
    refine ⟨c, t, hc, ?_⟩
    rcases ht with rfl | rfl | rfl
    · exact .inr (.inr (.inr (.inl rfl)))
    · exact .inr (.inr (.inr (.inr (.inl rfl))))
    · exact .inr (.inr (.inr (.inr (.inr rfl))))
theorem ES.fr {S : Nat → Prop} {J R V base e : Nat} {room calls writes : Int} {ev : Value} {es : List (Nat × AS)} {sb : Bool} {bs : List Value} (g : ES w X J R V A B n base e room clock pause calls writes ev cv es sb bs) (hf : Fr S w w') (hA : ¬ S A) (hB : ¬ S B) (hF : ∀ b, EngF X J R V ev es b → ¬ S b) : ES w' X J R V A B n base e room clock pause calls writes ev cv es sb bs :=
  ⟨hf.keep g.eng (hF _ (.inl rfl)), g.roll.fr hf (fun _ hb => hF _ (.inr (.inr (.inr hb)))), g.jn.fr hf (hF _ (.inr (.inr (.inl rfl)))) hA hB (hF _ (.inr (.inl rfl)))⟩
theorem EN.fr {S : Nat → Prop} (h : EN w s X A B n clock pause cv L rs F) (hf : Fr S w w') (hA : ¬ S A) (hB : ¬ S B) (hF : ∀ b, F b → ¬ S b) : EN w' s X A B n clock pause cv L rs F := by
  obtain ⟨hp, J, R, V, base, room, ev, es, sb, calls, writes, hb, g⟩ := h
  exact ⟨hp, J, R, V, base, room, ev, es, sb, calls, writes, hb, g.E.fr hf hA hB (fun b hb => hF b (g.f b hb)), g.m, g.rm, Nat.le_trans g.b hf.size, g.f⟩
theorem EN.mono {s' : Nat} (h : EN w s X A B n clock pause cv L rs F) (hs : s ≤ s') : EN w s' X A B n clock pause cv L rs F := by
  obtain ⟨hp, J, R, V, base, room, ev, es, sb, calls, writes, hb, g⟩ := h
  exact ⟨hp, J, R, V, base, room, ev, es, sb, calls, writes, ⟨hb.1, by omega, hb.2.2.1, by omega⟩, g⟩
/-- With just its own blocks. -/
theorem EN.tight (h : EN w s X A B n clock pause cv L rs F) : ∃ F', FU w F' ∧ (∀ b, F' b → F b) ∧ EN w s X A B n clock pause cv L rs F' := by
  obtain ⟨hp, J, R, V, base, room, ev, es, sb, calls, writes, hb, g⟩ := h
  exact ⟨_, es_fu g.E, g.f, hp, J, R, V, base, room, ev, es, sb, calls, writes, hb, g.E, g.m, g.rm, g.b, fun _ h => h⟩
theorem EN.sta (h : EN w s X A B n clock pause cv L rs F) (id : Int) : Calls Tryz.prog 24 #[.pointer (some ⟨X, 0, none⟩), .int .i64 id] w fun e w' => StatA L id w e w' := by
  obtain ⟨hp, J, R, V, base, room, ev, es, sb, calls, writes, hb, g⟩ := h
  have hlen : es.length = L.length := by rw [← g.m, List.length_map]
  have hl := hp.len
  have := eStatus_ok g.E.eng g.E.roll (sorted_of g.m hp.so) (by omega) (fun p hp' => (hp.mem (mem_of_map g.m hp')).1.l6) id
  rwa [g.m] at this
theorem EN.all (h : EN w s X A B n clock pause cv L rs F) (most : Int) : Calls Tryz.prog 35 #[.pointer (some ⟨X, 0, none⟩), .int .i64 most] w fun e w' => AllQ ((L.take most.toNat).map AS.told) w e w' := by
  obtain ⟨hp, J, R, V, base, room, ev, es, sb, calls, writes, hb, g⟩ := h
  have hlen : es.length = L.length := by rw [← g.m, List.length_map]
  have hl := hp.len
  have := pAll_ok g.E.eng g.E.roll (by omega) (fun p hp' => (hp.mem (mem_of_map g.m hp')).1.l6) most
  have e : (sts es).take most.toNat = (L.take most.toNat).map AS.told := by
    rw [← g.m, List.map_take, List.map_map]; rfl
  rwa [e] at this
/-- What Submit answers, and what is there then, on the disk too. -/
def SubC (L : List AS) (rs : List Rec) (id : Int) (st : List SS) (n : Nat) (k : Int) (L' : List AS) (rs' : List Rec) : Prop :=
  (sagaOk id st = false ∧ k = 1 ∧ L' = L ∧ rs' = rs) ∨ (sagaOk id st = true ∧ ∃ a ∈ L, a.id = id ∧ (k = if a.st = st then 0 else 2) ∧ L' = L ∧ rs' = rs) ∨
  (sagaOk id st = true ∧ (∀ a ∈ L, a.id ≠ id) ∧ ((k = 0 ∧ L' = insA (newA id st) L ∧ rs' = rs ++ [Rec.take id.toNat st]) ∨ (k = 3 ∧ n < 1 + (L.map fun a => 2 * a.st.length).sum + 2 * st.length ∧ L' = L ∧ rs' = rs)))
theorem EN.sub (h : EN w s X A B n clock pause cv L rs F) (hs : s < 60000) (id : Int) (st : List SS) {ao : Option Addr} (cap : Nat) (hrows : RowsOf w ao 2 (st.map stv)) (hao : sagaOk id st = true → ∃ g, ao = some ⟨g, 0, none⟩) :
    Calls Tryz.prog 21 #[.pointer (some ⟨X, 0, none⟩), .int .i64 id, .slice ao st.length cap] w fun e w' => ∃ v kk L' rs' F', e = .returned v ∧ ErrAt w' v kk ∧ SubC L rs id st n kk L' rs' ∧ (∀ b, F' b → F b ∨ w.heap.size ≤ b) ∧ FU w' F' ∧ EN w' (s + 1) X A B n clock pause cv L' rs' F' ∧ Fr (fun b => b = A ∨ b = B ∨ F b) w w' := by
  obtain ⟨hp, J, R, V, base, room, ev, es, sb, calls, writes, ⟨h3, h4, h5, h6⟩, gd⟩ := h
  have hlen : es.length = L.length := by rw [← gd.m, List.length_map]
  have hl := hp.len
  have n8 := hp.n8
  have n4 := hp.n4
  have hso := sorted_of gd.m hp.so
  have hes6 : ∀ p ∈ es, p.2.st.length ≤ 6 := fun p hp' => (hp.mem (mem_of_map gd.m hp')).1.l6
  -- where nothing is changed
  have stay : ∀ w', Fr (fun _ => False) w w' → (∀ b, EngF X J R V ev es b → F b ∨ w.heap.size ≤ b) ∧ FU w' (EngF X J R V ev es) ∧ EN w' (s + 1) X A B n clock pause cv L rs (EngF X J R V ev es) ∧ Fr (fun b => b = A ∨ b = B ∨ F b) w w' := by
    intro w' hf
    have gE := gd.E.frz hf
    exact ⟨fun b hb => .inl (gd.f b hb), es_fu gE, ⟨hp, J, R, V, base, room, ev, es, sb, calls, writes, ⟨h3, by push_cast; omega, h5, by push_cast; omega⟩, gE, gd.m, gd.rm, Nat.le_trans gd.b hf.size, fun b hb => hb⟩, hf.mono (fun _ _ h => h.elim)⟩
  by_cases hsok : sagaOk id st = true
  · obtain ⟨g, rfl⟩ := hao hsok
    obtain ⟨hid1, hid2, hn1, h6', h8'⟩ := saga_of id st hsok
    by_cases hin : ∃ p ∈ es, p.2.id = id
    · have HO := submit_old (sc := cap) gd.E.eng id st hrows gd.E.roll hso (by omega) hes6 hsok hin
      obtain ⟨p0, hp0, hid0⟩ := hin
      have huniq : ∀ p ∈ es, p.2.id = id → p = p0 := fun p hp hid => sorted_uniq hso hp hp0 (by omega)
      by_cases hst : p0.2.st = st
      · refine (eSubmit_nil (Q := fun w' => Fr (fun _ => False) w w') (HO.mono ?_)).mono ?_
        · rintro e w' ⟨p, hp, hid, rfl, hf⟩
          rw [huniq p hp hid, if_pos hst]
          exact ⟨rfl, hf⟩
        · rintro e w' ⟨rfl, hf⟩
          obtain ⟨s1, s2, s3, s4⟩ := stay w' hf
          exact ⟨_, 0, L, rs, _, rfl, .inl ⟨rfl, rfl⟩, .inr (.inl ⟨hsok, p0.2, mem_of_map gd.m hp0, hid0, by rw [if_pos hst], rfl, rfl⟩), s1, s2, s3, s4⟩
      · refine (eSubmit_err (k := 2) (by decide) (Q := fun w' => Fr (fun _ => False) w w') (HO.mono ?_)).mono ?_
        · rintro e w' ⟨p, hp, hid, rfl, hf⟩
          rw [huniq p hp hid, if_neg hst]
          exact ⟨rfl, hf⟩
        · rintro e w' ⟨v, w2, rfl, hv, hf2, hf⟩
          obtain ⟨s1, s2, s3, s4⟩ := stay w' (hf2.trans hf (fun _ _ h => h))
          exact ⟨v, 2, L, rs, _, rfl, hv, .inr (.inl ⟨hsok, p0.2, mem_of_map gd.m hp0, hid0, by rw [if_neg hst], rfl, rfl⟩), s1, s2, s3, s4⟩
    · have hno : ∀ p ∈ es, p.2.id ≠ id := fun p hp e => hin ⟨p, hp, e⟩
      have hnoL : ∀ a ∈ L, a.id ≠ id := by
        intro a ha
        rw [← gd.m] at ha
        obtain ⟨p, hp, rfl⟩ := List.mem_map.1 ha
        exact hno p hp
      have hrm := gd.rm
      have hnd := hp.nd
      by_cases hroom : 2 * (st.length : Int) ≤ room
      · have hkk : ((id.toNat : Nat) : Int) = id := by omega
        have hrecl : ∀ x ∈ rs.map Rec.bytes, x.length = 128 := fun x hx => (recs_bytes hp.ok x hx).1
        have hadd := hp.add hsok hnoL (by omega)
        have hlen2 := hadd.len
        rw [List.length_append, List.length_singleton] at hlen2
        have hrsl : rs.length + 1 < n := by
          have h9 := (recG hp.ok).lf
          omega
        obtain ⟨t1, t2, t3⟩ := roll_types gd.E.roll
        have hzz : ((layB n (rs.map Rec.bytes)).drop ((rs.length + 1) * 128)).take 128 = zB := layB_zero n _ hrecl (rs.length + 1) (by rw [List.length_map]; omega) (by omega)
        refine (eSubmit_nil (submit_new gd.E.eng id st hrows id.toNat hkk gd.E.jn h3 (by omega) h5 (by omega) (by omega) n4 hzz gd.E.dis (by omega) gd.b t1 t2 t3 gd.E.roll hso (by omega) hes6 hsok hno hroom)).mono ?_
        rintro e w' ⟨rfl, g', ev', hr', hg', hob, ⟨calls', writes', c1, c2, c3, c4, hj'⟩, he', hf'⟩
        have hmem : ∀ q ∈ insE (g', newA id st) es, q = (g', newA id st) ∨ q ∈ es := by
          intro q hq
          simp only [insE, List.mem_append, List.mem_cons] at hq
          rcases hq with h1 | h1 | h1
          · exact .inr (List.takeWhile_subset _ h1)
          · exact .inl h1
          · exact .inr (List.dropWhile_subset _ h1)
        have e0 : rs.length = (rs.map Rec.bytes).length := by rw [List.length_map]
        have hokn : sagaOk ((id.toNat : Nat) : Int) st = true := by rw [hkk]; exact hsok
        have hlay : splice (layB n (rs.map Rec.bytes)) ((rs.length + 1) * 128) (ldB 2 (bodyS id.toNat st.length (six st) 6) 4) = layB n ((rs ++ [Rec.take id.toNat st]).map Rec.bytes) := by
          have := layB_add n (rs.map Rec.bytes) (recB (id.toNat, st)) hrecl (recB_ok (p := (id.toNat, st)) hokn).1 (by rw [List.length_map]; omega)
          rw [List.length_map] at this
          rw [List.map_append]
          exact this
        have gE : ES w' X J R V A B n base ((rs ++ [Rec.take id.toNat st]).length + 1) (room - 2 * st.length) clock pause calls' writes' ev' cv (insE (g', newA id st) es) true (layB n ((rs ++ [Rec.take id.toNat st]).map Rec.bytes)) := by
          refine ⟨he', hr', ?_⟩
          rw [hlay] at hj'
          rw [List.length_append, List.length_singleton]
          push_cast at hj' ⊢
          exact hj'
        refine ⟨_, 0, _, _, EngF X J R V ev' (insE (g', newA id st) es), rfl, .inl ⟨rfl, rfl⟩, .inr (.inr ⟨hsok, hnoL, .inl ⟨rfl, rfl, rfl⟩⟩), ?_, es_fu gE, ⟨hadd, J, R, V, base, _, ev', _, true, calls', writes', ⟨by omega, by push_cast; omega, by omega, by push_cast; omega⟩, gE, ?_, ?_, Nat.le_trans gd.b hf'.size, fun b hb => hb⟩, ?_⟩
        · rintro b (h | h | h | h | h | ⟨q, hq, rfl⟩)
          · exact .inl (gd.f b (.inl h))
          · exact .inl (gd.f b (.inr (.inl h)))
          · exact .inl (gd.f b (.inr (.inr (.inl h))))
          · exact .inl (gd.f b (.inr (.inr (.inr (.inl h)))))
          · rcases hob b h with h | h
            · exact .inl (gd.f b (.inr (.inr (.inr (.inr (.inl h))))))
            · exact .inr h
          · rcases hmem q hq with rfl | hq
            · exact .inr hg'
            · exact .inl (gd.f _ (.inr (.inr (.inr (.inr (.inr ⟨q, hq, rfl⟩))))))
        · rw [insE_map, gd.m]
        · rw [needC_snoc, hrm]
          show (n : Int) - 1 - (needC rs : Nat) - 2 * (st.length : Int) = (n : Int) - 1 - ((needC rs + 2 * st.length : Nat) : Int)
          push_cast; omega
        · refine hf'.mono (fun b _ h => ?_)
          rcases h with h | h | h | h | h
          · exact .inl h
          · exact .inr (.inl h)
          · exact .inr (.inr (gd.f b (.inr (.inl h))))
          · exact .inr (.inr (gd.f b (.inr (.inr (.inr (.inl h))))))
          · exact .inr (.inr (gd.f b (.inr (.inr (.inr (.inr (.inl h)))))))
      · refine (eSubmit_err (k := 3) (by decide) (Q := fun w' => Fr (fun _ => False) w w') (submit_full gd.E.eng id st hrows gd.E.roll hso (by omega) hes6 hsok hno hroom)).mono ?_
        rintro e w' ⟨v, w2, rfl, hv, hf2, hf⟩
        obtain ⟨s1, s2, s3, s4⟩ := stay w' (hf2.trans hf (fun _ _ h => h))
        refine ⟨v, 3, L, rs, _, rfl, hv, .inr (.inr ⟨hsok, hnoL, .inr ⟨rfl, ?_, rfl, rfl⟩⟩), s1, s2, s3, s4⟩
        rw [hp.need]
        omega
  · have hbad : sagaOk id st = false := by simpa using hsok
    refine (eSubmit_err (k := 1) (by decide) (Q := fun w' => Fr (fun _ => False) w w') (submit_bad gd.E.eng id st hrows hbad)).mono ?_
    rintro e w' ⟨v, w2, rfl, hv, hf2, hf⟩
    obtain ⟨s1, s2, s3, s4⟩ := stay w' (hf2.trans hf (fun _ _ h => h))
    exact ⟨v, 1, L, rs, _, rfl, hv, .inl ⟨hbad, rfl, rfl, rfl⟩, s1, s2, s3, s4⟩
theorem EN.tick (P : Ptn cv) {s0 : P.σ} {F0 : Nat → Prop} (h : EN w s X A B n clock pause cv L rs F) (hs : s < 60000) (hp1 : 1 ≤ pause) (hp2 : pause ≤ 64) (hc1 : clock < 1000000) (hPA : P.PA s0 F0 w) (hsz : P.sz s0 + L.length ≤ 20000000) :
    Calls Tryz.prog 23 #[.pointer (some ⟨X, 0, none⟩)] w fun e w' => e = .returned .nilIface ∧ ∃ F', (∀ b, F' b → F b ∨ w.heap.size ≤ b) ∧ FU w' F' ∧ EN w' (s + 1) X A B n (clock + 1) pause cv (tickL P (clock + 1) pause L s0).1 (rs ++ (tickL P (clock + 1) pause L s0).2.2.map mvR) F' ∧ (∃ F0', P.PA (tickL P (clock + 1) pause L s0).2.1 F0' w' ∧ ∀ b, F0' b → F0 b ∨ w.heap.size ≤ b) ∧ Fr (fun b => b = A ∨ b = B ∨ F b ∨ F0 b) w w' := by
  obtain ⟨hp, J, R, V, base, room, ev, es, sb, calls, writes, ⟨h3, h4, h5, h6⟩, gd⟩ := h
  have hlen : es.length = L.length := by rw [← gd.m, List.length_map]
  have hl := hp.len
  have n8 := hp.n8
  have n4 := hp.n4
  have hso := sorted_of gd.m hp.so
  have hrecl : ∀ x ∈ rs.map Rec.bytes, x.length = 128 := fun x hx => (recs_bytes hp.ok x hx).1
  have E : ES w X J R V A B n base ((rs.map Rec.bytes).length + 1) room clock pause calls writes ev cv es sb (layB n (rs.map Rec.bytes)) := by rw [List.length_map]; exact gd.E
  have hm2 : (es.map (·.2)).map AS.left = L.map AS.left := by rw [gd.m]
  refine (eTick_nil (tick_ok P E hso (fun p hp' => (hp.mem (mem_of_map gd.m hp')).1) (fun p hp' => by have := saga_of _ _ (hp.mem (mem_of_map gd.m hp')).2; omega) hrecl (by rw [hm2, List.length_map]; omega) n4 (by omega) h3 (by omega) h5 (by omega) hp1 hp2 hp.ck hc1 hPA (by omega))).mono ?_
  rintro e w' ⟨rfl, es', calls', writes', sb', e1, e2, hE, ⟨b1, b2, b3, b4⟩, ⟨F0', hPA', hF0'⟩, hfr⟩
  rw [List.take_of_length_le (by rw [List.length_map]; omega), List.drop_of_length_le (by rw [List.length_map]; omega), List.append_nil] at e2
  rw [List.take_of_length_le (by rw [List.length_map]; omega), List.length_map] at hE
  rw [List.take_of_length_le (by rw [List.length_map]; omega)] at hPA'
  rw [gd.m] at e2 hE hPA'
  have hsx := sx_le sb
  have hsx' := sx_le sb'
  have hRF : ∀ b, RollF R ev es' b → RollF R ev es b := fun b hb => (rollF_fst e1 R ev b).1 hb
  have gE : ES w' X J R V A B n base ((rs ++ (tickL P (clock + 1) pause L s0).2.2.map mvR).length + 1) room (clock + 1) pause calls' writes' ev cv es' sb' (layB n ((rs ++ (tickL P (clock + 1) pause L s0).2.2.map mvR).map Rec.bytes)) := by
    rw [List.map_append, mvR_bytes, List.length_append, List.length_map]
    rw [show rs.length + (tickL P (clock + 1) pause L s0).2.2.length + 1 = rs.length + 1 + (tickL P (clock + 1) pause L s0).2.2.length by omega]
    exact hE
  refine ⟨rfl, EngF X J R V ev es', ?_, es_fu gE, ⟨hp.tick P s0 pause, J, R, V, base, room, ev, es', sb', calls', writes', ⟨by omega, ?_, by omega, ?_⟩, gE, e2, ?_, Nat.le_trans gd.b hfr.size, fun b hb => hb⟩, ⟨F0', hPA', hF0'⟩, ?_⟩
  · rintro b (h | h | h | h)
    · exact .inl (gd.f b (.inl h))
    · exact .inl (gd.f b (.inr (.inl h)))
    · exact .inl (gd.f b (.inr (.inr (.inl h))))
    · exact .inl (gd.f b (.inr (.inr (.inr (hRF b h)))))
  · push_cast; omega
  · push_cast; omega
  · rw [gd.rm, ← hp.need, ← (hp.tick P s0 pause).need]
    have e3 : (tickL P (clock + 1) pause L s0).1.map (fun a => 2 * a.st.length) = L.map (fun a => 2 * a.st.length) := by
      have h1 := tickL_sts P (clock + 1) pause L s0
      have h2 : ∀ l : List AS, l.map (fun a => 2 * a.st.length) = (l.map (·.st)).map (fun t => 2 * t.length) := fun l => by rw [List.map_map]; rfl
      rw [h2, h2, h1]
    rw [e3]
  · refine hfr.mono (fun b _ h => ?_)
    rcases h with h | h | h | h | h | h
    · exact .inr (.inr (.inl (gd.f b (.inl h))))
    · exact .inl h
    · exact .inr (.inl h)
    · exact .inr (.inr (.inl (gd.f b (.inr (.inl h)))))
    · exact .inr (.inr (.inr h))
    · exact .inr (.inr (.inl (gd.f b (.inr (.inr (.inr h))))))
end
end Go.Proofs.YteebjgfalllbjaaGreatDoor
namespace Go.Proofs.YteebjgfalllbjaaGreatDoor
open Go.RowKit
theorem move_size : (Tryz.prog.info? 196).map (·.size) = some 2 := by kernel_rfl
theorem run_store2 {w : World} {g : Nat} {cs r : List Value} {t : TypeId} (hg : w.heap[g]? = some (.cells cs.toArray t (0, 0))) (hc : cs.length = 2) (hl : r.length = 2) (h1 : ∀ v ∈ r, v.oneCell' = true) : (Instr.storeAt 196 (.pointer (some ⟨g, 0, none⟩)) (.agg r.toArray)).run Tryz.prog w = .ok () (w.setRow g r.toArray) := by
  have := run_storeAt_row (P := Tryz.prog) (o := 0) (ty := 196) (vs := r) hg (by omega) h1 (by rw [move_size, hl])
  rwa [show splice cs 0 r = r from by simp [splice, hl, hc]] at this
theorem run_build_move (id r : Int) (w : World) : (Instr.build 196 #[(0, .int .i64 id), (1, .int .i64 r)]).run Tryz.prog w = .ok (.agg #[.int .i64 id, .int .i64 r]) w := by kernel_rfl
theorem exec_buildM {ρ : Operand → Value} {o : Oper} {x y : Operand} {u v z : Value} {w w' : World} (ho : o.op = .build 196 #[(0, x), (1, y)]) (hx : ρ x = u) (hy : ρ y = v) (hr : (Instr.build 196 #[(0, u), (1, v)]).run Tryz.prog w = .ok z w') : (execOp ρ o).run Tryz.prog w = .ok (.value z) w' := by
  simp [execOp, ho, hx, hy, hr]
theorem exec_alloc_move (ρ : Operand → Value) (o : Oper) (ho : o.op = .alloc 196) (w : World) : (execOp ρ o).run Tryz.prog w = .ok (.value (.pointer (some ⟨w.heap.size, 0, none⟩))) (w.alloc (.cells ([.int .i64 0, .int .i64 0] : List Value).toArray 196)) := by
  simp only [execOp, ho]
  kernel_rfl
theorem loadBody {w : World} {g : Nat} {bd : List Value} {t : TypeId} (h : w.heap[g]? = some (.cells bd.toArray t (0, 0))) (hl : bd.length = 124) : (Instr.loadAt 182 (.pointer (some ⟨g, 0, none⟩))).run Tryz.prog w = .ok (.agg bd.toArray) w :=
  run_loadAt_mid w g 0 182 bd _ (fun j v hv => (cell_of_row w g (0 + j) _ _ _ h).trans (by simpa using hv)) Tryz.underlying182 rfl (by rw [body_size, hl])
theorem loadBlk {w : World} {g : Nat} {bd : List Value} {t : TypeId} (h : w.heap[g]? = some (.cells bd.toArray t (0, 0))) (hl : bd.length = 128) : (Instr.loadAt 130 (.pointer (some ⟨g, 0, none⟩))).run Tryz.prog w = .ok (.agg bd.toArray) w :=
  run_loadAt_mid w g 0 130 bd _ (fun j v hv => (cell_of_row w g (0 + j) _ _ _ h).trans (by simpa using hv)) Tryz.underlying130 rfl (by rw [block_size, hl])
theorem exec_cu8i {ρ : Operand → Value} {o : Oper} {x : Operand} {r : Nat} (ho : o.op = .convert 5 3 x) (hx : ρ x = .int .u8 r) (hr : r ≤ 2) (w : World) : (execOp ρ o).run Tryz.prog w = .ok (.value (.int .i64 r)) w := by
  simp only [execOp, ho, hx]
  obtain h | h | h : r = 0 ∨ r = 1 ∨ r = 2 := by omega
  all_goals subst h; kernel_rfl
set_option maxRecDepth 100000 in
set_option maxHeartbeats 4000000 in
theorem readMove_ok (w : World) (id r : Nat) (hid : id ≤ 1000) (hr : r ≤ 2) : Calls Tryz.prog 154 #[.agg (mvB id r).toArray] w fun e w' => e = .returned (.tuple #[.agg #[.int .i64 id, .int .i64 r], .bool true]) ∧ Fr (fun _ => False) w w' := by
  have hlift : Tryz.prog.follows .mixedOrders = true := by kernel_rfl
  have hbl := bodyM_len id r
  have hb1 : ∀ v ∈ bodyS id r [] 0, v.oneCell' = true := bodyS_one _ _ _ _
  have hll : (mvB id r).length = 128 := ldB_len 3 _ hbl 4 (by omega)
  have hl1 : ∀ v ∈ mvB id r, v.oneCell' = true := ldB_one 3 _ hb1 4
  have HMB : ∀ w', Calls Tryz.prog 151 #[.agg #[.int .i64 id, .int .i64 r]] w' fun e w'' => e = .returned (.agg (mvB id r).toArray) ∧ Fr (fun _ => False) w' w'' := fun w' => mBlock_ok w' id r hid hr
  have HG : ∀ w', Calls Tryz.prog 165 #[.agg (bodyS id r [] 0).toArray] w' fun e w'' => e = .returned (.int .i64 id) ∧ Fr (fun _ => False) w' w'' := fun w' => getId_ok w' id hid _
  have hb2 : (bodyS id r [] 0).toArray[2]? = some (.int .u8 r) := by rw [bodyS_nil]; rfl
  obtain ⟨blk, HB⟩ : ∃ blk, Hid (blk = mvB id r) := ⟨_, rfl⟩
  obtain ⟨bd, HD⟩ : ∃ bd, Hid (bd = bodyS id r [] 0) := ⟨_, rfl⟩
  have HRD : Hid (rdB blk 4 = bd) := by unfold Hid; rw [HB.out, HD.out]; exact rdB_ldB 3 _ hbl
  have hneq : ∀ w', (binOp .neq 130 (.agg blk.toArray) (.agg blk.toArray)).run Tryz.prog w' = .ok (.bool false) w' := by
    intro w'
    rw [run_neq_struct, equal_self 9998 blk.toArray w' (by rw [HB.out]; exact ldB_ints 3 _ hbl (bodyS_ints _ _ _ _))]
    rfl
  rw [← HB.out] at hll hl1 HMB ⊢
  rw [← HD.out] at hbl hb1 HG hb2
  obtain ⟨W, HW⟩ : ∃ W, Hid (W = (w.alloc (.cells blk.toArray 130)).alloc (.cells #[.int .i64 0, .int .i64 0] 196)) := ⟨_, rfl⟩
  have hF : Fr (fun _ => False) w W := by rw [HW.out]; exact ((Fr.refl _ _).alloc _).alloc _
  have r0 : W.heap[w.heap.size]? = some (.cells blk.toArray 130 (0, 0)) := by rw [HW.out, heap_alloc_lt _ _ _ (by simp)]; exact heap_alloc_at _ _
  have r1 : W.heap[w.heap.size + 1]? = some (.cells #[.int .i64 0, .int .i64 0] 196 (0, 0)) := by rw [HW.out]; exact heap_alloc2_new w _ _
  have hM : ((w.alloc (.cells blk.toArray 130)).alloc (.cells #[.int .i64 0, .int .i64 0] 196)).rangeAt w.heap.size 0 blk := by rw [← HW.out]; exact fun j v hv => (cell_of_row W _ (0 + j) _ _ _ r0).trans (by simpa using hv)
  go_enter Tryz.func154, Tryz.ntmps154
  go_wp2_with (first | (refine wpList_load_mid rfl 130 _ rfl w.heap.size 0 ?_ _ _ hM Tryz.underlying130 rfl ?_ ?_; rfl; (rw [block_size, hll])))
  rw [← HW.out]
  refine (rcread_ok W blk hll hl1).mono ?_
  rintro e w2 ⟨rfl, hf2⟩
  rw [HRD.out]
  have r02 := hf2.keep r0 (fun h => h)
  have r12 := hf2.keep r1 (fun h => h)
  have hF2 : Fr (fun _ => False) w w2 := hF.trans hf2 (fun _ _ h => h)
  clear HW hM r0 r1 hF hf2
  have hzr := heap_alloc_at w2 (.cells Tryz.zeroCells182 182)
  rw [zeroB_eq] at hzr
  have hst := run_store_body hzr (by simp) hbl hb1
  have hr3 := setRow_heap (w2.alloc (.cells (List.replicate 124 zv).toArray 182)) w2.heap.size _ bd.toArray 182 (0, 0) hzr
  have hf3 : Fr (fun _ => False) w2 ((w2.alloc (.cells (List.replicate 124 zv).toArray 182)).setRow w2.heap.size bd.toArray) := Fr.setRow (S := fun _ => False) ((Fr.refl _ _).alloc _) _ (fun h => by omega) _
  obtain ⟨W3, HW3⟩ : ∃ W3, Hid (W3 = (w2.alloc (.cells (List.replicate 124 zv).toArray 182)).setRow w2.heap.size bd.toArray) := ⟨_, rfl⟩
  rw [← HW3.out] at hst hr3 hf3
  rw [← zeroB_eq] at hst
  have r03 := hf3.keep r02 (fun h => h)
  have r13 := hf3.keep r12 (fun h => h)
  have hF3 : Fr (fun _ => False) w W3 := hF2.trans hf3 (fun _ _ h => h)
  have hlt2 : w.heap.size + 1 < w2.heap.size := lt_of_heap r12
  clear HW3 r02 r12 hF2 hzr hf3
  go_wp2_with (first | (refine wpList_store 182 (w' := W3) _ _ rfl rfl ?_ ?_; exact hst))
  clear hst
  obtain ⟨U, HU⟩ : ∃ U, Hid (U = W3.drew) := ⟨_, rfl⟩
  have hfU : Fr (fun _ => False) W3 U := by rw [HU.out]; exact (Fr.refl _ _).drew
  let S2 : World → Prop := fun w' => w'.heap[w2.heap.size]? = some (.cells bd.toArray 182 (0, 0))
  have hS : S2 U := hfU.keep hr3 (fun h => h)
  refine wp_region_held (S := S2) hlift ?_
  change wpAnyH _ _ _ _ S2 _ _ _ (World.drew _)
  rw [← HU.out]
  clear HU
  refine tkY (S := S2) (i := 0) (oi := ⟨some 8, .load 182 (.tmp 4), _, _, _, none⟩) (v := .agg bd.toArray) rfl (Or.inl ⟨rfl, fun w' hs => exec_load 182 (.tmp 4) rfl ⟨w2.heap.size, 0, none⟩ rfl (loadBody hs hbl)⟩) hS ?_
  simp only [Act.put, lsE, lsZ, lsS]
  refine tkY (S := S2) (i := 2) (oi := ⟨some 10, .indexAddr 182 (.tmp 4) (.const (.int .i64 2)), _, _, _, none⟩) (v := .pointer (some ⟨w2.heap.size, 2, none⟩)) rfl (Or.inl ⟨rfl, fun w' _ => exec_indexAddr 182 _ _ rfl rfl rfl (index_body _ 2 (by omega) w')⟩) hS ?_
  simp only [Act.put, lsE, lsZ, lsS]
  refine tkY (S := S2) (i := 3) (oi := ⟨some 11, .load 5 (.tmp 10), _, _, _, none⟩) (v := .int .u8 r) rfl (Or.inl ⟨rfl, fun w' hs => exec_load 5 (.tmp 10) rfl ⟨w2.heap.size, 2, none⟩ rfl (run_loadAt_one ((cell_of_row w' _ _ _ _ _ hs).trans hb2) Tryz.underlying5 rfl)⟩) hS ?_
  simp only [Act.put, lsE, lsZ, lsS]
  refine tkY (S := S2) (i := 4) (oi := ⟨some 12, .convert 5 3 (.tmp 11), _, _, _, none⟩) (v := .int .i64 r) rfl (Or.inl ⟨rfl, fun w' _ => exec_cu8i rfl rfl hr w'⟩) hS ?_
  simp only [Act.put, lsE, lsZ, lsS]
  refine wpAnyH_all (rs := [1, 6]) (by kernel_rfl) (by simp) ?_
  intro iz hiz
  have hzz : iz = 1 ∨ iz = 6 := by simpa using hiz
  rcases hzz with rfl | rfl
  · refine wpOp_call (o := ⟨some 9, .call { callee := .value (.func 165), args := #[(.tmp 8)], argTypes := _ }, _, _, _, none⟩) (f := 165) (args := #[.agg bd.toArray]) rfl rfl (by kernel_rfl) ?_
    refine (HG U).mono ?_
    rintro e w5 ⟨rfl, hf5⟩
    have hS5 : S2 w5 := hf5.keep hS (fun h => h)
    refine ⟨_, rfl, hS5, ?_⟩
    simp only [Act.put, lsE, lsZ, lsS]
    refine tkY (S := S2) (i := 5) (oi := ⟨some 13, .build 196 #[(0, .tmp 9), (1, .tmp 12)], _, _, _, none⟩) (v := .agg #[.int .i64 id, .int .i64 r]) rfl (Or.inl ⟨rfl, fun w' _ => exec_buildM rfl rfl rfl (run_build_move id r w')⟩) hS5 ?_
    simp only [Act.put, lsE, lsZ, lsS]
    refine wpAnyH_all (rs := [6]) (by kernel_rfl) (by simp) ?_
    intro i6 hi6
    obtain rfl : i6 = 6 := by simpa using hi6
    have hm5 := heap_alloc_at w5 (.cells ([.int .i64 0, .int .i64 0] : List Value).toArray 196)
    have hFm : Fr (fun _ => False) W3 (w5.alloc (.cells ([.int .i64 0, .int .i64 0] : List Value).toArray 196)) := (hfU.trans hf5 (fun _ _ h => h)).alloc _
    have hSm : S2 (w5.alloc (.cells ([.int .i64 0, .int .i64 0] : List Value).toArray 196)) := ((Fr.refl (fun _ => False) w5).alloc _).keep hS5 (fun h => h)
    have hgl := (hfU.trans hf5 (fun _ _ h => h)).size
    have hgne : w2.heap.size ≠ w5.heap.size := by have := lt_of_heap hr3; omega
    refine wpOp_value (o := ⟨some 5, .alloc 196, _, _, _, none⟩) (v := .pointer (some ⟨w5.heap.size, 0, none⟩)) (w' := w5.alloc (.cells ([.int .i64 0, .int .i64 0] : List Value).toArray 196)) rfl rfl (exec_alloc_move _ _ rfl _) ⟨hSm, ?_⟩
    simp only [Act.put, lsE, lsZ, lsS]
    obtain ⟨W5, HW5⟩ : ∃ W5, Hid (W5 = w5.alloc (.cells ([.int .i64 0, .int .i64 0] : List Value).toArray 196)) := ⟨_, rfl⟩
    rw [← HW5.out] at hm5 hFm hSm ⊢
    have hwl3 := hF3.size
    have hr1l := lt_of_heap r13
    clear HW5 hf5 hS5
    generalize w5.heap.size = g5 at *
    refine wpAnyH_all (rs := [7]) (by kernel_rfl) (by simp) ?_
    intro i7 hi7
    obtain rfl : i7 = 7 := by simpa using hi7
    have hst := run_store2 (r := [.int .i64 id, .int .i64 r]) hm5 rfl rfl (by intro v hv; simp at hv; rcases hv with rfl | rfl <;> rfl)
    have hM := setRow_heap W5 g5 _ ([.int .i64 id, .int .i64 r] : List Value).toArray 196 (0, 0) hm5
    have hfM : Fr (fun b => b = g5) W5 (W5.setRow g5 ([.int .i64 id, .int .i64 r] : List Value).toArray) := Fr.setRow (S := fun b => b = g5) (Fr.refl _ _) _ (fun _ => rfl) _
    obtain ⟨WE, HWE⟩ : ∃ WE, Hid (WE = W5.setRow g5 ([.int .i64 id, .int .i64 r] : List Value).toArray) := ⟨_, rfl⟩
    rw [← HWE.out] at hst hM hfM
    have hSE : S2 WE := hfM.keep hSm hgne
    refine wpOp_skip (o := ⟨none, .store 196 (.tmp 5) (.tmp 13), _, _, _, none⟩) (w' := WE) rfl rfl (exec_store 196 _ _ rfl ⟨g5, 0, none⟩ _ rfl rfl hst) ⟨hSE, ?_⟩
    simp only [Act.put]
    refine wpAnyH_done (by kernel_rfl) ?_ _
    have HE : Hid (WE.heap[g5]? = some (.cells #[.int .i64 id, .int .i64 r] 196 (0, 0)) ∧ WE.heap[w.heap.size]? = some (.cells blk.toArray 130 (0, 0)) ∧ WE.heap[w.heap.size + 1]? = some (.cells #[.int .i64 0, .int .i64 0] 196 (0, 0)) ∧ Fr (fun _ => False) w WE ∧ w.heap.size + 1 < g5) := ⟨hM, hfM.keep (hFm.keep r03 (fun h => h)) (by omega), hfM.keep (hFm.keep r13 (fun h => h)) (by omega), (hF3.trans hFm (fun _ _ h => h)).trans hfM (fun b hb h => by omega), by omega⟩
    clear HWE hst hM hfM hSE hSm hm5
    generalize g5 = gm at *
    go_wp2_with fail
    obtain ⟨h1, h2, h3, h4, h5⟩ := HE.out
    obtain ⟨U3, HU3⟩ : ∃ U3, Hid (U3 = WE.drew) := ⟨_, rfl⟩
    have hfU3 : Fr (fun _ => False) WE U3 := by rw [HU3.out]; exact (Fr.refl _ _).drew
    let S3 : World → Prop := fun w' => w'.heap[gm]? = some (.cells #[.int .i64 id, .int .i64 r] 196 (0, 0)) ∧ w'.heap[w.heap.size]? = some (.cells blk.toArray 130 (0, 0))
    have hS3 : S3 U3 := ⟨hfU3.keep h1 (fun h => h), hfU3.keep h2 (fun h => h)⟩
    refine wp_region_held (S := S3) hlift ?_
    change wpAnyH _ _ _ _ S3 _ _ _ (World.drew _)
    rw [← HU3.out]
    clear HU3
    refine tkY (S := S3) (i := 0) (oi := ⟨some 14, .load 196 (.tmp 5), _, _, _, none⟩) (v := .agg #[.int .i64 id, .int .i64 r]) rfl (Or.inl ⟨rfl, fun w' hs => exec_load 196 (.tmp 5) rfl ⟨gm, 0, none⟩ rfl (loadM hs.1)⟩) hS3 ?_
    simp only [Act.put, lsE, lsZ, lsS]
    refine tkY (S := S3) (i := 2) (oi := ⟨some 16, .load 130 (.tmp 1), _, _, _, none⟩) (v := .agg blk.toArray) rfl (Or.inl ⟨rfl, fun w' hs => exec_load 130 (.tmp 1) rfl ⟨w.heap.size, 0, none⟩ rfl (loadBlk hs.2 hll)⟩) hS3 ?_
    simp only [Act.put, lsE, lsZ, lsS]
    refine wpAnyH_all (rs := [1]) (by kernel_rfl) (by simp) ?_
    intro i1 hi1
    obtain rfl : i1 = 1 := by simpa using hi1
    refine wpOp_call (o := ⟨some 15, .call { callee := .value (.func 151), args := #[(.tmp 14)], argTypes := _ }, _, _, _, none⟩) (f := 151) (args := #[.agg #[.int .i64 id, .int .i64 r]]) rfl rfl (by kernel_rfl) ?_
    refine (HMB U3).mono ?_
    rintro e w8 ⟨rfl, hf8⟩
    have hS8 : S3 w8 := ⟨hf8.keep hS3.1 (fun h => h), hf8.keep hS3.2 (fun h => h)⟩
    refine ⟨_, rfl, hS8, ?_⟩
    simp only [Act.put, lsE, lsZ, lsS]
    refine tkY (S := S3) (i := 3) (oi := ⟨some 17, .binOp .neq 130 (.tmp 15) (.tmp 16) 130, _, _, _, none⟩) (v := .bool false) rfl (Or.inl ⟨rfl, fun w' _ => exec_neq_block rfl rfl rfl (hneq w')⟩) hS8 ?_
    simp only [Act.put, lsE, lsZ, lsS]
    refine wpAnyH_done (by kernel_rfl) ?_ _
    have hf38 := hfU3.trans hf8 (fun _ _ h => h)
    have hm8 := hf38.keep h1 (fun h => h)
    have hz8 := hf38.keep h3 (fun h => h)
    have hF8 : Fr (fun _ => False) w w8 := h4.trans hf38 (fun _ _ h => h)
    have hL8 := loadM hm8
    have hst8 := run_store2 (r := [.int .i64 id, .int .i64 r]) hz8 rfl rfl (by intro v hv; simp at hv; rcases hv with rfl | rfl <;> rfl)
    have hR8 := setRow_heap w8 (w.heap.size + 1) _ ([.int .i64 id, .int .i64 r] : List Value).toArray 196 (0, 0) hz8
    have hfE : Fr (fun b => b = w.heap.size + 1) w8 (w8.setRow (w.heap.size + 1) ([.int .i64 id, .int .i64 r] : List Value).toArray) := Fr.setRow (S := fun b => b = w.heap.size + 1) (Fr.refl _ _) _ (fun _ => rfl) _
    obtain ⟨W9, HW9⟩ : ∃ W9, Hid (W9 = w8.setRow (w.heap.size + 1) ([.int .i64 id, .int .i64 r] : List Value).toArray) := ⟨_, rfl⟩
    rw [← HW9.out] at hst8 hR8 hfE
    have hF9 : Fr (fun _ => False) w W9 := hF8.trans hfE (fun b hb h => by omega)
    have hrg8 : w8.rangeAt gm 0 [.int .i64 id, .int .i64 r] := fun j v hv => (cell_of_row _ _ (0 + j) _ _ _ hm8).trans (by simpa using hv)
    clear HW9 hfE hf38 hz8 hF8 h1 h2 h3 h4 hfU3 hf8 HE
    go_wp2_with (first | (refine wpList_load_mid rfl 196 _ rfl gm 0 ?_ _ _ hrg8 Tryz.underlying196 rfl ?_ ?_; rfl; exact move_size) | (refine wpList_store 196 (w' := W9) _ _ rfl rfl ?_ ?_; exact hst8))
    refine bodyPost_ret (results_row_tmp Tryz.results154 _ _ (w.heap.size + 1) 196 _ (0, 0) _ rfl hR8 Tryz.underlying196 rfl (by rw [move_size]; rfl)) rfl ⟨rfl, hF9⟩
  · have hm4 := heap_alloc_at U (.cells ([.int .i64 0, .int .i64 0] : List Value).toArray 196)
    have hf4 : Fr (fun _ => False) U (U.alloc (.cells ([.int .i64 0, .int .i64 0] : List Value).toArray 196)) := (Fr.refl _ _).alloc _
    have hS4 : S2 (U.alloc (.cells ([.int .i64 0, .int .i64 0] : List Value).toArray 196)) := hf4.keep hS (fun h => h)
    refine wpOp_value (o := ⟨some 5, .alloc 196, _, _, _, none⟩) (v := .pointer (some ⟨U.heap.size, 0, none⟩)) (w' := U.alloc (.cells ([.int .i64 0, .int .i64 0] : List Value).toArray 196)) rfl rfl (exec_alloc_move _ _ rfl _) ⟨hS4, ?_⟩
    simp only [Act.put, lsE, lsZ, lsS]
    obtain ⟨U4, HU4⟩ : ∃ U4, Hid (U4 = U.alloc (.cells ([.int .i64 0, .int .i64 0] : List Value).toArray 196)) := ⟨_, rfl⟩
    rw [← HU4.out] at hm4 hf4 hS4 ⊢
    clear HU4
    refine wpAnyH_all (rs := [1]) (by kernel_rfl) (by simp) ?_
    intro i1 hi1
    obtain rfl : i1 = 1 := by simpa using hi1
    refine wpOp_call (o := ⟨some 9, .call { callee := .value (.func 165), args := #[(.tmp 8)], argTypes := _ }, _, _, _, none⟩) (f := 165) (args := #[.agg bd.toArray]) rfl rfl (by kernel_rfl) ?_
    refine (HG U4).mono ?_
    rintro e w5 ⟨rfl, hf5⟩
    have hSm : S2 w5 := hf5.keep hS4 (fun h => h)
    have hS5 := hSm
    refine ⟨_, rfl, hSm, ?_⟩
    simp only [Act.put, lsE, lsZ, lsS]
    refine tkY (S := S2) (i := 5) (oi := ⟨some 13, .build 196 #[(0, .tmp 9), (1, .tmp 12)], _, _, _, none⟩) (v := .agg #[.int .i64 id, .int .i64 r]) rfl (Or.inl ⟨rfl, fun w' _ => exec_buildM rfl rfl rfl (run_build_move id r w')⟩) hS5 ?_
    simp only [Act.put, lsE, lsZ, lsS]
    have hm5 := hf5.keep hm4 (fun h => h)
    have hFm : Fr (fun _ => False) W3 w5 := (hfU.trans hf4 (fun _ _ h => h)).trans hf5 (fun _ _ h => h)
    have hgl := hfU.size
    have hgne : w2.heap.size ≠ U.heap.size := by have := lt_of_heap hr3; omega
    have hwl3 := hF3.size
    have hr1l := lt_of_heap r13
    clear hf5 hm4 hf4 hS4 hS5
    generalize U.heap.size = g5 at *
    refine wpAnyH_all (rs := [7]) (by kernel_rfl) (by simp) ?_
    intro i7 hi7
    obtain rfl : i7 = 7 := by simpa using hi7
    have hst := run_store2 (r := [.int .i64 id, .int .i64 r]) hm5 rfl rfl (by intro v hv; simp at hv; rcases hv with rfl | rfl <;> rfl)
    have hM := setRow_heap w5 g5 _ ([.int .i64 id, .int .i64 r] : List Value).toArray 196 (0, 0) hm5
    have hfM : Fr (fun b => b = g5) w5 (w5.setRow g5 ([.int .i64 id, .int .i64 r] : List Value).toArray) := Fr.setRow (S := fun b => b = g5) (Fr.refl _ _) _ (fun _ => rfl) _
    obtain ⟨WE, HWE⟩ : ∃ WE, Hid (WE = w5.setRow g5 ([.int .i64 id, .int .i64 r] : List Value).toArray) := ⟨_, rfl⟩
    rw [← HWE.out] at hst hM hfM
    have hSE : S2 WE := hfM.keep hSm hgne
    refine wpOp_skip (o := ⟨none, .store 196 (.tmp 5) (.tmp 13), _, _, _, none⟩) (w' := WE) rfl rfl (exec_store 196 _ _ rfl ⟨g5, 0, none⟩ _ rfl rfl hst) ⟨hSE, ?_⟩
    simp only [Act.put]
    refine wpAnyH_done (by kernel_rfl) ?_ _
    have HE : Hid (WE.heap[g5]? = some (.cells #[.int .i64 id, .int .i64 r] 196 (0, 0)) ∧ WE.heap[w.heap.size]? = some (.cells blk.toArray 130 (0, 0)) ∧ WE.heap[w.heap.size + 1]? = some (.cells #[.int .i64 0, .int .i64 0] 196 (0, 0)) ∧ Fr (fun _ => False) w WE ∧ w.heap.size + 1 < g5) := ⟨hM, hfM.keep (hFm.keep r03 (fun h => h)) (by omega), hfM.keep (hFm.keep r13 (fun h => h)) (by omega), (hF3.trans hFm (fun _ _ h => h)).trans hfM (fun b hb h => by omega), by omega⟩
    clear HWE hst hM hfM hSE hSm hm5
    generalize g5 = gm at *
    go_wp2_with fail
    obtain ⟨h1, h2, h3, h4, h5⟩ := HE.out
    obtain ⟨U3, HU3⟩ : ∃ U3, Hid (U3 = WE.drew) := ⟨_, rfl⟩
    have hfU3 : Fr (fun _ => False) WE U3 := by rw [HU3.out]; exact (Fr.refl _ _).drew
    let S3 : World → Prop := fun w' => w'.heap[gm]? = some (.cells #[.int .i64 id, .int .i64 r] 196 (0, 0)) ∧ w'.heap[w.heap.size]? = some (.cells blk.toArray 130 (0, 0))
    have hS3 : S3 U3 := ⟨hfU3.keep h1 (fun h => h), hfU3.keep h2 (fun h => h)⟩
    refine wp_region_held (S := S3) hlift ?_
    change wpAnyH _ _ _ _ S3 _ _ _ (World.drew _)
    rw [← HU3.out]
    clear HU3
    refine tkY (S := S3) (i := 0) (oi := ⟨some 14, .load 196 (.tmp 5), _, _, _, none⟩) (v := .agg #[.int .i64 id, .int .i64 r]) rfl (Or.inl ⟨rfl, fun w' hs => exec_load 196 (.tmp 5) rfl ⟨gm, 0, none⟩ rfl (loadM hs.1)⟩) hS3 ?_
    simp only [Act.put, lsE, lsZ, lsS]
    refine tkY (S := S3) (i := 2) (oi := ⟨some 16, .load 130 (.tmp 1), _, _, _, none⟩) (v := .agg blk.toArray) rfl (Or.inl ⟨rfl, fun w' hs => exec_load 130 (.tmp 1) rfl ⟨w.heap.size, 0, none⟩ rfl (loadBlk hs.2 hll)⟩) hS3 ?_
    simp only [Act.put, lsE, lsZ, lsS]
    refine wpAnyH_all (rs := [1]) (by kernel_rfl) (by simp) ?_
    intro i1 hi1
    obtain rfl : i1 = 1 := by simpa using hi1
    refine wpOp_call (o := ⟨some 15, .call { callee := .value (.func 151), args := #[(.tmp 14)], argTypes := _ }, _, _, _, none⟩) (f := 151) (args := #[.agg #[.int .i64 id, .int .i64 r]]) rfl rfl (by kernel_rfl) ?_
    refine (HMB U3).mono ?_
    rintro e w8 ⟨rfl, hf8⟩
    have hS8 : S3 w8 := ⟨hf8.keep hS3.1 (fun h => h), hf8.keep hS3.2 (fun h => h)⟩
    refine ⟨_, rfl, hS8, ?_⟩
    simp only [Act.put, lsE, lsZ, lsS]
    refine tkY (S := S3) (i := 3) (oi := ⟨some 17, .binOp .neq 130 (.tmp 15) (.tmp 16) 130, _, _, _, none⟩) (v := .bool false) rfl (Or.inl ⟨rfl, fun w' _ => exec_neq_block rfl rfl rfl (hneq w')⟩) hS8 ?_
    simp only [Act.put, lsE, lsZ, lsS]
    refine wpAnyH_done (by kernel_rfl) ?_ _
    have hf38 := hfU3.trans hf8 (fun _ _ h => h)
    have hm8 := hf38.keep h1 (fun h => h)
    have hz8 := hf38.keep h3 (fun h => h)
    have hF8 : Fr (fun _ => False) w w8 := h4.trans hf38 (fun _ _ h => h)
    have hL8 := loadM hm8
    have hst8 := run_store2 (r := [.int .i64 id, .int .i64 r]) hz8 rfl rfl (by intro v hv; simp at hv; rcases hv with rfl | rfl <;> rfl)
    have hR8 := setRow_heap w8 (w.heap.size + 1) _ ([.int .i64 id, .int .i64 r] : List Value).toArray 196 (0, 0) hz8
    have hfE : Fr (fun b => b = w.heap.size + 1) w8 (w8.setRow (w.heap.size + 1) ([.int .i64 id, .int .i64 r] : List Value).toArray) := Fr.setRow (S := fun b => b = w.heap.size + 1) (Fr.refl _ _) _ (fun _ => rfl) _
    obtain ⟨W9, HW9⟩ : ∃ W9, Hid (W9 = w8.setRow (w.heap.size + 1) ([.int .i64 id, .int .i64 r] : List Value).toArray) := ⟨_, rfl⟩
    rw [← HW9.out] at hst8 hR8 hfE
    have hF9 : Fr (fun _ => False) w W9 := hF8.trans hfE (fun b hb h => by omega)
    have hrg8 : w8.rangeAt gm 0 [.int .i64 id, .int .i64 r] := fun j v hv => (cell_of_row _ _ (0 + j) _ _ _ hm8).trans (by simpa using hv)
    clear HW9 hfE hf38 hz8 hF8 h1 h2 h3 h4 hfU3 hf8 HE
    go_wp2_with (first | (refine wpList_load_mid rfl 196 _ rfl gm 0 ?_ _ _ hrg8 Tryz.underlying196 rfl ?_ ?_; rfl; exact move_size) | (refine wpList_store 196 (w' := W9) _ _ rfl rfl ?_ ?_; exact hst8))
    refine bodyPost_ret (results_row_tmp Tryz.results154 _ _ (w.heap.size + 1) 196 _ (0, 0) _ rfl hR8 Tryz.underlying196 rfl (by rw [move_size]; rfl)) rfl ⟨rfl, hF9⟩
end Go.Proofs.YteebjgfalllbjaaGreatDoor
namespace Go.Proofs.YteebjgfalllbjaaGreatDoor
open Go.RowKit
theorem move_box (w : World) (id r : Int) : ∃ WS, (Instr.storeAt 196 (.pointer (some ⟨w.heap.size, 0, none⟩)) (.agg #[.int .i64 id, .int .i64 r])).run Tryz.prog (w.alloc (.cells #[.int .i64 0, .int .i64 0] 196)) = .ok () WS ∧ WS.heap[w.heap.size]? = some (.cells #[.int .i64 id, .int .i64 r] 196 (0, 0)) ∧ Fr (fun _ => False) w WS := by
  have zr := heap_alloc_at w (.cells ([.int .i64 0, .int .i64 0] : List Value).toArray 196)
  exact ⟨_, run_store2 (r := [.int .i64 id, .int .i64 r]) zr rfl rfl (by intro v hv; simp at hv; rcases hv with rfl | rfl <;> rfl), setRow_heap _ _ _ _ _ _ zr, Fr.setRow (S := fun _ => False) ((Fr.refl _ _).alloc _) _ (fun h => by omega) _⟩
set_option maxRecDepth 100000 in
set_option maxHeartbeats 1000000 in
theorem rcReadM_ok {w : World} {R : Nat} {Q : World → Prop} {fv : Fn} {fa fc : Array Value} (id r : Nat) (hid : id ≤ 1000) (hr : r ≤ 2) (HT : ∀ w', Fr (fun _ => False) w w' → Calls Tryz.prog 76 #[.pointer (some ⟨R, 0, none⟩), .agg #[.int .i64 id, .int .i64 r]] w' fun e w'' => e = .returned (.bool true) ∧ Q w'') :
    Calls Tryz.prog 116 #[.agg (mvB id r).toArray, .func fv fa fc, .func (.func 76) #[.pointer (some ⟨R, 0, none⟩)] #[]] w fun e w' => e = .returned (.bool true) ∧ Q w' := by
  have hbl := bodyM_len id r
  have hll : (mvB id r).length = 128 := ldB_len 3 _ hbl 4 (by omega)
  have hk : (mvB id r)[0]? = some (.int .u8 3) := ldB_kind 3 _ hbl 0 (by omega)
  have HS := fun w' => readMove_ok w' id r hid hr
  obtain ⟨blk, HB⟩ : ∃ blk, Hid (blk = mvB id r) := ⟨_, rfl⟩
  rw [← HB.out] at hll hk HS ⊢
  have hrow := heap_alloc_at w (.cells blk.toArray 130)
  have hfa : Fr (fun _ => False) w (w.alloc (.cells blk.toArray 130)) := (Fr.refl _ _).alloc _
  have c0 : (w.alloc (.cells blk.toArray 130)).cell? ⟨w.heap.size, 0, none⟩ = some (.int .u8 3) := (cell_of_row _ _ 0 _ _ _ hrow).trans (by rw [List.getElem?_toArray]; exact hk)
  have hM : (w.alloc (.cells blk.toArray 130)).rangeAt w.heap.size 0 blk := fun j v hv => (cell_of_row _ _ (0 + j) _ _ _ hrow).trans (by simpa using hv)
  go_enter Tryz.func116, Tryz.ntmps116
  go_wp2_with (first | (refine wpList_load_mid rfl 130 _ rfl w.heap.size 0 ?_ _ _ hM Tryz.underlying130 rfl ?_ ?_; rfl; (rw [block_size, hll])))
  refine (HS _).mono ?_
  rintro e w2 ⟨rfl, hf2⟩
  have hF2 : Fr (fun _ => False) w w2 := hfa.trans hf2 (fun _ _ h => h)
  clear hrow hfa c0 hM hf2 HS
  obtain ⟨WS, hst, hrS, hfS⟩ := move_box w2 id r
  have hFS : Fr (fun _ => False) w WS := hF2.trans hfS (fun _ _ h => h)
  have hL := loadM hrS
  have HT' := HT WS hFS
  clear hF2 hfS HT
  go_wp2_with (first | (refine wpList_store 196 (w' := WS) _ _ rfl rfl ?_ ?_; exact hst) | (refine wpList_wanted ?_ (exec_load 196 (.tmp 7) rfl ⟨w2.heap.size, 0, none⟩ rfl hL) ?_; (first | rfl | kernel_rfl | simp [Region.wanted, yielded])))
  refine HT'.mono ?_
  rintro e w5 ⟨rfl, hQ⟩
  have HQ : Hid (Q w5) := hQ
  clear hQ HT' hL hst hrS hFS
  go_wp2
  go_ret
  exact ⟨rfl, HQ.out⟩
set_option maxRecDepth 100000 in
theorem Find11M_ok {w : World} {R X3 X4 : Nat} {Q : World → Prop} {fv : Fn} {fa fc : Array Value} (id r : Nat) (hid : id ≤ 1000) (hr : r ≤ 2)
    (h3 : w.heap[X3]? = some (.cells #[.func fv fa fc] 127 (0, 0))) (h4 : w.heap[X4]? = some (.cells #[.func (.func 76) #[.pointer (some ⟨R, 0, none⟩)] #[]] 162 (0, 0)))
    (HT : ∀ w', Fr (fun _ => False) w w' → Calls Tryz.prog 76 #[.pointer (some ⟨R, 0, none⟩), .agg #[.int .i64 id, .int .i64 r]] w' fun e w'' => e = .returned (.bool true) ∧ Q w'') :
    Calls Tryz.prog 115 #[.agg (mvB id r).toArray, .pointer (some ⟨X3, 0, none⟩), .pointer (some ⟨X4, 0, none⟩)] w fun e w' => e = .returned (.bool true) ∧ Q w' := by
  have hbl := bodyM_len id r
  have hll : (mvB id r).length = 128 := ldB_len 3 _ hbl 4 (by omega)
  have HR : ∀ W, Fr (fun _ => False) w W → Calls Tryz.prog 116 #[.agg (mvB id r).toArray, .func fv fa fc, .func (.func 76) #[.pointer (some ⟨R, 0, none⟩)] #[]] W fun e w' => e = .returned (.bool true) ∧ Q w' := fun W hf => rcReadM_ok id r hid hr (fun w' hf' => HT w' (hf.trans hf' (fun _ _ h => h)))
  obtain ⟨blk, HB⟩ : ∃ blk, Hid (blk = mvB id r) := ⟨_, rfl⟩
  rw [← HB.out] at hll HR ⊢
  have hrow := heap_alloc_at w (.cells blk.toArray 130)
  have hfa : Fr (fun _ => False) w (w.alloc (.cells blk.toArray 130)) := (Fr.refl _ _).alloc _
  have hM : (w.alloc (.cells blk.toArray 130)).rangeAt w.heap.size 0 blk := fun j v hv => (cell_of_row _ _ (0 + j) _ _ _ hrow).trans (by simpa using hv)
  have c3 : (w.alloc (.cells blk.toArray 130)).cell? ⟨X3, 0, none⟩ = some (.func fv fa fc) := (cell_of_row _ _ 0 _ _ _ (hfa.keep h3 (fun h => h))).trans rfl
  have c4 : (w.alloc (.cells blk.toArray 130)).cell? ⟨X4, 0, none⟩ = some (.func (.func 76) #[.pointer (some ⟨R, 0, none⟩)] #[]) := (cell_of_row _ _ 0 _ _ _ (hfa.keep h4 (fun h => h))).trans rfl
  have HR' := HR _ hfa
  clear HR HT
  go_enter Tryz.func115, Tryz.ntmps115
  go_wp2_with (first | (refine wpList_load_mid rfl 130 _ rfl w.heap.size 0 ?_ _ _ hM Tryz.underlying130 rfl ?_ ?_; rfl; (rw [block_size, hll])))
  refine HR'.mono ?_
  rintro e w5 ⟨rfl, hQ⟩
  have HQ : Hid (Q w5) := hQ
  clear hQ HR' hrow hfa hM c3 c4
  go_wp2
  go_ret
  exact ⟨rfl, HQ.out⟩
end Go.Proofs.YteebjgfalllbjaaGreatDoor
