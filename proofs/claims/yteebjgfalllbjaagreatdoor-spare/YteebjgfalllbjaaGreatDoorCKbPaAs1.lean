import Derived.Test.YteebjgfalllbjaaGreatDoorCTjTmKa
import Derived.Test.YteebjgfalllbjaaGreatDoorCAqTiDz
import Derived.Test.YteebjgfalllbjaaGreatDoorCEaEbTn
import Derived.Test.YteebjgfalllbjaaGreatDoorCRpAlRs
import Derived.Test.YteebjgfalllbjaaGreatDoorCVbVcVd
import Derived.Test.YteebjgfalllbjaaGreatDoorCNsNtOwn
import Derived.Test.YteebjgfalllbjaaGreatDoorCFoReAk
namespace Go.Proofs.YteebjgfalllbjaaGreatDoor
open Go.RowKit
/-- The types of an engine's blocks. -/
def EngU (t : TypeId) : Prop := t = 91 ∨ t = 179 ∨ t = 212 ∨ t = 176 ∨ t = 136 ∨ t = 140
def FU (w : World) (F : Nat → Prop) : Prop := ∀ b, F b → ∃ c t, w.heap[b]? = some (.cells c t (0, 0)) ∧ EngU t
theorem FU.ne {w : World} {F : Nat → Prop} (h : FU w F) {b : Nat} {c : Array Value} {t : TypeId} (hb : w.heap[b]? = some (.cells c t (0, 0))) (ht : ¬ EngU t) : ¬ F b := by
  intro hF
  obtain ⟨c', t', hc, hu⟩ := h b hF
  have := hb.symm.trans hc
  simp at this
  rw [this.2] at ht
  exact ht hu
/-- What is known of an engine's sagas and of the records of its journal. -/
structure ENp (n : Nat) (clock : Int) (L : List AS) (rs : List Rec) : Prop where
  n8 : 8 ≤ n
  n4 : n ≤ 400
  ck : 0 ≤ clock
  ok : RecsOk rs
  nd : needC rs ≤ n - 1
  zL : L.map AS.zero = recL rs
  tr : ∀ a ∈ L, 0 ≤ a.tries ∧ a.tries ≤ clock
section
variable {n : Nat} {clock : Int} {L : List AS} {rs : List Rec}
theorem ENp.so (h : ENp n clock L rs) : L.Pairwise (fun a b => a.id < b.id) := by
  have h1 := (recG h.ok).so
  rw [← h.zL, sorted_ids_iff, List.map_map] at h1
  exact sorted_ids_iff.2 h1
theorem ENp.mem (h : ENp n clock L rs) {a : AS} (ha : a ∈ L) : a.Ok clock ∧ sagaOk a.id a.st = true := by
  have h1 : a.zero ∈ recL rs := by rw [← h.zL]; exact List.mem_map.2 ⟨a, ha, rfl⟩
  have h2 := (recG h.ok).ok _ h1
  have h3 := h.tr a ha
  exact ⟨AS.zero_ok (h2.1.mono h.ck) h3.1 h3.2, h2.2.1⟩
theorem ENp.len (h : ENp n clock L rs) : L.length ≤ 200 ∧ rs.length + (L.map AS.left).sum ≤ n - 1 := by
  have h1 := recG h.ok
  have h2 : (recL rs).length = L.length := by rw [← h.zL, List.length_map]
  have h3 : (recL rs).map AS.left = L.map AS.left := by rw [← h.zL, List.map_map]; rfl
  have h4 := h1.ln
  have h5 := h1.lf
  have h6 := h.nd
  have h7 := h.n4
  rw [h3] at h5
  omega
theorem ENp.need (h : ENp n clock L rs) : (L.map fun a => 2 * a.st.length).sum = needC rs := by
  have h1 := (recG h.ok).nd
  rw [← h.zL, List.map_map] at h1
  exact h1
theorem ENp.add (h : ENp n clock L rs) {id : Int} {st : List SS} (hok : sagaOk id st = true) (hno : ∀ a ∈ L, a.id ≠ id) (hr : needC rs + 2 * st.length ≤ n - 1) : ENp n clock (insA (newA id st) L) (rs ++ [Rec.take id.toNat st]) := by
  obtain ⟨h1, h2, _⟩ := saga_of id st hok
  have hk : ((id.toNat : Nat) : Int) = id := by omega
  refine ⟨h.n8, h.n4, h.ck, recsOk_snoc.2 ⟨h.ok, ?_⟩, by rw [needC_snoc]; exact hr, ?_, ?_⟩
  · refine ⟨by rw [hk]; exact hok, ?_⟩
    intro a ha
    rw [← h.zL] at ha
    obtain ⟨b, hb, rfl⟩ := List.mem_map.1 ha
    rw [hk]
    exact hno b hb
  · rw [insA_zero, h.zL, recL_snoc]
    show insA (newA id st) (recL rs) = insA (newA ((id.toNat : Nat) : Int) st) (recL rs)
    rw [hk]
  · intro a ha
    rcases mem_insA.1 ha with rfl | ha
    · exact ⟨Int.le_refl _, h.ck⟩
    · exact h.tr a ha
theorem ENp.tick {cv : Value} (P : Ptn cv) (s0 : P.σ) (pause : Int) (h : ENp n clock L rs) : ENp n (clock + 1) (tickL P (clock + 1) pause L s0).1 (rs ++ (tickL P (clock + 1) pause L s0).2.2.map mvR) := by
  have hck := h.ck
  have h1 := tickL_recs P (clock + 1) pause L s0 [] rs (by simpa using h.so) (fun a ha => by have := saga_of _ _ (h.mem ha).2; omega) h.ok (by simpa using h.zL)
  have h2 := tickL_ok P (clock + 1) pause L s0 (fun a ha => by have := (h.mem ha).1; simpa using this) (by omega)
  refine ⟨h.n8, h.n4, by omega, h1.1, ?_, by simpa using h1.2, fun a ha => ⟨(h2.1 a ha).t0, (h2.1 a ha).t1⟩⟩
  have e : needC (rs ++ (tickL P (clock + 1) pause L s0).2.2.map mvR) = needC rs := by
    unfold needC
    rw [List.map_append, List.sum_append_nat, List.map_map]
    have : ∀ l : List (Nat × Nat), (l.map (Rec.need ∘ mvR)).sum = 0 := fun l => by
      induction l with
      | nil => rfl
      | cons m l ih => rw [List.map_cons, List.sum_cons, ih]; rfl
    rw [this]; rfl
  rw [e]; exact h.nd
end
/-- An engine, as it lies in memory. -/
structure ENw (w : World) (X J R V A B n base : Nat) (room clock pause calls writes : Int) (ev cv : Value) (es : List (Nat × AS)) (sb : Bool) (L : List AS) (rs : List Rec) (F : Nat → Prop) : Prop where
  E : ES w X J R V A B n base (rs.length + 1) room clock pause calls writes ev cv es sb (layB n (rs.map Rec.bytes))
  m : es.map (·.2) = L
  rm : room = (n : Int) - 1 - needC rs
  b : base ≤ w.heap.size
  f : ∀ c, EngF X J R V ev es c → F c
def EN (w : World) (s X A B n : Nat) (clock pause : Int) (cv : Value) (L : List AS) (rs : List Rec) (F : Nat → Prop) : Prop := ENp n clock L rs ∧ ∃ J R V base room ev es sb calls writes, (0 ≤ calls ∧ calls ≤ 1000 * (s : Int) ∧ 0 ≤ writes ∧ writes ≤ 1000 * (s : Int)) ∧ ENw w X J R V A B n base room clock pause calls writes ev cv es sb L rs F
section
variable {w w' : World} {s X A B n : Nat} {clock pause : Int} {cv : Value} {L : List AS} {rs : List Rec} {F : Nat → Prop}
theorem es_fu {J R V base e : Nat} {room calls writes : Int} {ev : Value} {es : List (Nat × AS)} {sb : Bool} {bs : List Value} (g : ES w X J R V A B n base e room clock pause calls writes ev cv es sb bs) : FU w (EngF X J R V ev es) := by
  rintro b (rfl | rfl | rfl | hb)
  · exact ⟨_, _, g.eng, .inl rfl⟩
  · exact ⟨_, _, g.jn.j, .inr (.inl rfl)⟩
  · exact ⟨_, _, g.jn.v, .inr (.inr (.inl rfl))⟩
  · obtain ⟨c, t, hc, ht⟩ := roll_f g.roll hb
    refine ⟨c, t, hc, ?_⟩
    rcases ht with rfl | rfl | rfl
    · exact .inr (.inr (.inr (.inl rfl)))
    · exact .inr (.inr (.inr (.inr (.inl rfl))))
    · exact .inr (.inr (.inr (.inr (.inr rfl))))
theorem ES.fr {S : Nat → Prop} {J R V base e : Nat} {room calls writes : Int} {ev : Value} {es : List (Nat × AS)} {sb : Bool} {bs : List Value} (g : ES w X J R V A B n base e room clock pause calls writes ev cv es sb bs) (hf : Fr S w w') (hA : ¬ S A) (hB : ¬ S B) (hF : ∀ b, EngF X J R V ev es b → ¬ S b) : ES w' X J R V A B n base e room clock pause calls writes ev cv es sb bs :=
  ⟨hf.keep g.eng (hF _ (.inl rfl)), g.roll.fr hf (fun _ hb => hF _ (.inr (.inr (.inr hb)))), g.jn.fr hf (hF _ (.inr (.inr (.inl rfl)))) hA hB (hF _ (.inr (.inl rfl)))⟩
theorem EN.fr {S : Nat → Prop} (h : EN w s X A B n clock pause cv L rs F) (hf : Fr S w w') (hA : ¬ S A) (hB : ¬ S B) (hF : ∀ b, F b → ¬ S b) : EN w' s X A B n clock pause cv L rs F := by
  obtain ⟨hp, J, R, V, base, room, ev, es, sb, calls, writes, hb, g⟩ := h
  exact ⟨hp, J, R, V, base, room, ev, es, sb, calls, writes, hb, g.E.fr hf hA hB (fun b hb => hF b (g.f b hb)), g.m, g.rm, Nat.le_trans g.b hf.size, g.f⟩
theorem EN.mono {s' : Nat} (h : EN w s X A B n clock pause cv L rs F) (hs : s ≤ s') : EN w s' X A B n clock pause cv L rs F := by
  obtain ⟨hp, J, R, V, base, room, ev, es, sb, calls, writes, hb, g⟩ := h
  exact ⟨hp, J, R, V, base, room, ev, es, sb, calls, writes, ⟨hb.1, by omega, hb.2.2.1, by omega⟩, g⟩
/-- With just its own blocks. -/
theorem EN.tight (h : EN w s X A B n clock pause cv L rs F) : ∃ F', FU w F' ∧ (∀ b, F' b → F b) ∧ EN w s X A B n clock pause cv L rs F' := by
  obtain ⟨hp, J, R, V, base, room, ev, es, sb, calls, writes, hb, g⟩ := h
  exact ⟨_, es_fu g.E, g.f, hp, J, R, V, base, room, ev, es, sb, calls, writes, hb, g.E, g.m, g.rm, g.b, fun _ h => h⟩
theorem EN.disk (h : EN w s X A B n clock pause cv L rs F) : ∃ calls writes, DiskAt w A B n (.slice none 0 0) calls writes ∧ RowsAt w B n (layB n (rs.map Rec.bytes)) := by
  obtain ⟨hp, J, R, V, base, room, ev, es, sb, calls, writes, hb, g⟩ := h
  exact ⟨_, _, g.E.jn.d, g.E.jn.r⟩
theorem EN.eng (h : EN w s X A B n clock pause cv L rs F) : ∃ J R, EngAt w X J R clock pause cv ∧ F X := by
  obtain ⟨hp, J, R, V, base, room, ev, es, sb, calls, writes, hb, g⟩ := h
  exact ⟨_, _, g.E.eng, g.f _ (.inl rfl)⟩
theorem EN.sta (h : EN w s X A B n clock pause cv L rs F) (id : Int) : Calls Tryz.prog 24 #[.pointer (some ⟨X, 0, none⟩), .int .i64 id] w fun e w' => StatA L id w e w' := by
  obtain ⟨hp, J, R, V, base, room, ev, es, sb, calls, writes, hb, g⟩ := h
  have hlen : es.length = L.length := by rw [← g.m, List.length_map]
  have hl := hp.len
  have := eStatus_ok g.E.eng g.E.roll (sorted_of g.m hp.so) (by omega) (fun p hp' => (hp.mem (mem_of_map g.m hp')).1.l6) id
  rwa [g.m] at this
theorem EN.all (h : EN w s X A B n clock pause cv L rs F) (most : Int) : Calls Tryz.prog 35 #[.pointer (some ⟨X, 0, none⟩), .int .i64 most] w fun e w' => AllQ ((L.take most.toNat).map AS.told) w e w' := by
  obtain ⟨hp, J, R, V, base, room, ev, es, sb, calls, writes, hb, g⟩ := h
  have hlen : es.length = L.length := by rw [← g.m, List.length_map]
  have hl := hp.len
  have := pAll_ok g.E.eng g.E.roll (by omega) (fun p hp' => (hp.mem (mem_of_map g.m hp')).1.l6) most
  have e : (sts es).take most.toNat = (L.take most.toNat).map AS.told := by
    rw [← g.m, List.map_take, List.map_map]; rfl
  rwa [e] at this
/-- What Submit answers, and what is there then, on the disk too. -/
def SubC (L : List AS) (rs : List Rec) (id : Int) (st : List SS) (n : Nat) (k : Int) (L' : List AS) (rs' : List Rec) : Prop :=
  (sagaOk id st = false ∧ k = 1 ∧ L' = L ∧ rs' = rs) ∨ (sagaOk id st = true ∧ ∃ a ∈ L, a.id = id ∧ (k = if a.st = st then 0 else 2) ∧ L' = L ∧ rs' = rs) ∨
  (sagaOk id st = true ∧ (∀ a ∈ L, a.id ≠ id) ∧ ((k = 0 ∧ L' = insA (newA id st) L ∧ rs' = rs ++ [Rec.take id.toNat st]) ∨ (k = 3 ∧ n < 1 + (L.map fun a => 2 * a.st.length).sum + 2 * st.length ∧ L' = L ∧ rs' = rs)))
theorem EN.sub (h : EN w s X A B n clock pause cv L rs F) (hs : s < 60000) (id : Int) (st : List SS) {ao : Option Addr} (cap : Nat) (hrows : RowsOf w ao 2 (st.map stv)) (hao : sagaOk id st = true → ∃ g, ao = some ⟨g, 0, none⟩) :
    Calls Tryz.prog 21 #[.pointer (some ⟨X, 0, none⟩), .int .i64 id, .slice ao st.length cap] w fun e w' => ∃ v kk L' rs' F', e = .returned v ∧ ErrAt w' v kk ∧ SubC L rs id st n kk L' rs' ∧ (∀ b, F' b → F b ∨ w.heap.size ≤ b) ∧ FU w' F' ∧ EN w' (s + 1) X A B n clock pause cv L' rs' F' ∧ Fr (fun b => b = A ∨ b = B ∨ F b) w w' := by
  obtain ⟨hp, J, R, V, base, room, ev, es, sb, calls, writes, ⟨h3, h4, h5, h6⟩, gd⟩ := h
  have hlen : es.length = L.length := by rw [← gd.m, List.length_map]
  have hl := hp.len
  have n8 := hp.n8
  have n4 := hp.n4
  have hso := sorted_of gd.m hp.so
  have hes6 : ∀ p ∈ es, p.2.st.length ≤ 6 := fun p hp' => (hp.mem (mem_of_map gd.m hp')).1.l6
  -- where nothing is changed
  have stay : ∀ w', Fr (fun _ => False) w w' → (∀ b, EngF X J R V ev es b → F b ∨ w.heap.size ≤ b) ∧ FU w' (EngF X J R V ev es) ∧ EN w' (s + 1) X A B n clock pause cv L rs (EngF X J R V ev es) ∧ Fr (fun b => b = A ∨ b = B ∨ F b) w w' := by
    intro w' hf
    have gE := gd.E.frz hf
    exact ⟨fun b hb => .inl (gd.f b hb), es_fu gE, ⟨hp, J, R, V, base, room, ev, es, sb, calls, writes, ⟨h3, by push_cast; omega, h5, by push_cast; omega⟩, gE, gd.m, gd.rm, Nat.le_trans gd.b hf.size, fun b hb => hb⟩, hf.mono (fun _ _ h => h.elim)⟩
  by_cases hsok : sagaOk id st = true
  · obtain ⟨g, rfl⟩ := hao hsok
    obtain ⟨hid1, hid2, hn1, h6', h8'⟩ := saga_of id st hsok
    by_cases hin : ∃ p ∈ es, p.2.id = id
    · have HO := submit_old (sc := cap) gd.E.eng id st hrows gd.E.roll hso (by omega) hes6 hsok hin
      obtain ⟨p0, hp0, hid0⟩ := hin
      have huniq : ∀ p ∈ es, p.2.id = id → p = p0 := fun p hp hid => sorted_uniq hso hp hp0 (by omega)
      by_cases hst : p0.2.st = st
      · refine (eSubmit_nil (Q := fun w' => Fr (fun _ => False) w w') (HO.mono ?_)).mono ?_
        · rintro e w' ⟨p, hp, hid, rfl, hf⟩
          rw [huniq p hp hid, if_pos hst]
          exact ⟨rfl, hf⟩
        · rintro e w' ⟨rfl, hf⟩
          obtain ⟨s1, s2, s3, s4⟩ := stay w' hf
          exact ⟨_, 0, L, rs, _, rfl, .inl ⟨rfl, rfl⟩, .inr (.inl ⟨hsok, p0.2, mem_of_map gd.m hp0, hid0, by rw [if_pos hst], rfl, rfl⟩), s1, s2, s3, s4⟩
      · refine (eSubmit_err (k := 2) (by decide) (Q := fun w' => Fr (fun _ => False) w w') (HO.mono ?_)).mono ?_
        · rintro e w' ⟨p, hp, hid, rfl, hf⟩
          rw [huniq p hp hid, if_neg hst]
          exact ⟨rfl, hf⟩
        · rintro e w' ⟨v, w2, rfl, hv, hf2, hf⟩
          obtain ⟨s1, s2, s3, s4⟩ := stay w' (hf2.trans hf (fun _ _ h => h))
          exact ⟨v, 2, L, rs, _, rfl, hv, .inr (.inl ⟨hsok, p0.2, mem_of_map gd.m hp0, hid0, by rw [if_neg hst], rfl, rfl⟩), s1, s2, s3, s4⟩
    · have hno : ∀ p ∈ es, p.2.id ≠ id := fun p hp e => hin ⟨p, hp, e⟩
      have hnoL : ∀ a ∈ L, a.id ≠ id := by
        intro a ha
        rw [← gd.m] at ha
        obtain ⟨p, hp, rfl⟩ := List.mem_map.1 ha
        exact hno p hp
      have hrm := gd.rm
      have hnd := hp.nd
      by_cases hroom : 2 * (st.length : Int) ≤ room
      · have hkk : ((id.toNat : Nat) : Int) = id := by omega
        have hrecl : ∀ x ∈ rs.map Rec.bytes, x.length = 128 := fun x hx => (recs_bytes hp.ok x hx).1
        have hadd := hp.add hsok hnoL (by omega)
        have hlen2 := hadd.len
        rw [List.length_append, List.length_singleton] at hlen2
        have hrsl : rs.length + 1 < n := by
          have h9 := (recG hp.ok).lf
          omega
        obtain ⟨t1, t2, t3⟩ := roll_types gd.E.roll
        have hzz : ((layB n (rs.map Rec.bytes)).drop ((rs.length + 1) * 128)).take 128 = zB := layB_zero n _ hrecl (rs.length + 1) (by rw [List.length_map]; omega) (by omega)
        refine (eSubmit_nil (submit_new gd.E.eng id st hrows id.toNat hkk gd.E.jn h3 (by omega) h5 (by omega) (by omega) n4 hzz gd.E.dis (by omega) gd.b t1 t2 t3 gd.E.roll hso (by omega) hes6 hsok hno hroom)).mono ?_
        rintro e w' ⟨rfl, g', ev', hr', hg', hob, ⟨calls', writes', c1, c2, c3, c4, hj'⟩, he', hf'⟩
        have hmem : ∀ q ∈ insE (g', newA id st) es, q = (g', newA id st) ∨ q ∈ es := by
          intro q hq
          simp only [insE, List.mem_append, List.mem_cons] at hq
          rcases hq with h1 | h1 | h1
          · exact .inr (List.takeWhile_subset _ h1)
          · exact .inl h1
          · exact .inr (List.dropWhile_subset _ h1)
        have e0 : rs.length = (rs.map Rec.bytes).length := by rw [List.length_map]
        have hokn : sagaOk ((id.toNat : Nat) : Int) st = true := by rw [hkk]; exact hsok
        have hlay : splice (layB n (rs.map Rec.bytes)) ((rs.length + 1) * 128) (ldB 2 (bodyS id.toNat st.length (six st) 6) 4) = layB n ((rs ++ [Rec.take id.toNat st]).map Rec.bytes) := by
          have := layB_add n (rs.map Rec.bytes) (recB (id.toNat, st)) hrecl (recB_ok (p := (id.toNat, st)) hokn).1 (by rw [List.length_map]; omega)
          rw [List.length_map] at this
          rw [List.map_append]
          exact this
        have gE : ES w' X J R V A B n base ((rs ++ [Rec.take id.toNat st]).length + 1) (room - 2 * st.length) clock pause calls' writes' ev' cv (insE (g', newA id st) es) true (layB n ((rs ++ [Rec.take id.toNat st]).map Rec.bytes)) := by
          refine ⟨he', hr', ?_⟩
          rw [hlay] at hj'
          rw [List.length_append, List.length_singleton]
          push_cast at hj' ⊢
          exact hj'
        refine ⟨_, 0, _, _, EngF X J R V ev' (insE (g', newA id st) es), rfl, .inl ⟨rfl, rfl⟩, .inr (.inr ⟨hsok, hnoL, .inl ⟨rfl, rfl, rfl⟩⟩), ?_, es_fu gE, ⟨hadd, J, R, V, base, _, ev', _, true, calls', writes', ⟨by omega, by push_cast; omega, by omega, by push_cast; omega⟩, gE, ?_, ?_, Nat.le_trans gd.b hf'.size, fun b hb => hb⟩, ?_⟩
        · rintro b (h | h | h | h | h | ⟨q, hq, rfl⟩)
          · exact .inl (gd.f b (.inl h))
          · exact .inl (gd.f b (.inr (.inl h)))
          · exact .inl (gd.f b (.inr (.inr (.inl h))))
          · exact .inl (gd.f b (.inr (.inr (.inr (.inl h)))))
          · rcases hob b h with h | h
            · exact .inl (gd.f b (.inr (.inr (.inr (.inr (.inl h))))))
            · exact .inr h
          · rcases hmem q hq with rfl | hq
            · exact .inr hg'
            · exact .inl (gd.f _ (.inr (.inr (.inr (.inr (.inr ⟨q, hq, rfl⟩))))))
        · rw [insE_map, gd.m]
        · rw [needC_snoc, hrm]
          show (n : Int) - 1 - (needC rs : Nat) - 2 * (st.length : Int) = (n : Int) - 1 - ((needC rs + 2 * st.length : Nat) : Int)
          push_cast; omega
        · refine hf'.mono (fun b _ h => ?_)
          rcases h with h | h | h | h | h
          · exact .inl h
          · exact .inr (.inl h)
          · exact .inr (.inr (gd.f b (.inr (.inl h))))
          · exact .inr (.inr (gd.f b (.inr (.inr (.inr (.inl h))))))
          · exact .inr (.inr (gd.f b (.inr (.inr (.inr (.inr (.inl h)))))))
      · refine (eSubmit_err (k := 3) (by decide) (Q := fun w' => Fr (fun _ => False) w w') (submit_full gd.E.eng id st hrows gd.E.roll hso (by omega) hes6 hsok hno hroom)).mono ?_
        rintro e w' ⟨v, w2, rfl, hv, hf2, hf⟩
        obtain ⟨s1, s2, s3, s4⟩ := stay w' (hf2.trans hf (fun _ _ h => h))
        refine ⟨v, 3, L, rs, _, rfl, hv, .inr (.inr ⟨hsok, hnoL, .inr ⟨rfl, ?_, rfl, rfl⟩⟩), s1, s2, s3, s4⟩
        rw [hp.need]
        omega
  · have hbad : sagaOk id st = false := by simpa using hsok
    refine (eSubmit_err (k := 1) (by decide) (Q := fun w' => Fr (fun _ => False) w w') (submit_bad gd.E.eng id st hrows hbad)).mono ?_
    rintro e w' ⟨v, w2, rfl, hv, hf2, hf⟩
    obtain ⟨s1, s2, s3, s4⟩ := stay w' (hf2.trans hf (fun _ _ h => h))
    exact ⟨v, 1, L, rs, _, rfl, hv, .inl ⟨hbad, rfl, rfl, rfl⟩, s1, s2, s3, s4⟩
theorem EN.tick (P : Ptn cv) {s0 : P.σ} {F0 : Nat → Prop} (h : EN w s X A B n clock pause cv L rs F) (hs : s < 60000) (hp1 : 1 ≤ pause) (hp2 : pause ≤ 64) (hc1 : clock < 1000000) (hPA : P.PA s0 F0 w) (hsz : P.sz s0 + L.length ≤ 1000000) :
    Calls Tryz.prog 23 #[.pointer (some ⟨X, 0, none⟩)] w fun e w' => e = .returned .nilIface ∧ ∃ F', (∀ b, F' b → F b ∨ w.heap.size ≤ b) ∧ FU w' F' ∧ EN w' (s + 1) X A B n (clock + 1) pause cv (tickL P (clock + 1) pause L s0).1 (rs ++ (tickL P (clock + 1) pause L s0).2.2.map mvR) F' ∧ (∃ F0', P.PA (tickL P (clock + 1) pause L s0).2.1 F0' w' ∧ ∀ b, F0' b → F0 b ∨ w.heap.size ≤ b) ∧ Fr (fun b => b = A ∨ b = B ∨ F b ∨ F0 b) w w' := by
  obtain ⟨hp, J, R, V, base, room, ev, es, sb, calls, writes, ⟨h3, h4, h5, h6⟩, gd⟩ := h
  have hlen : es.length = L.length := by rw [← gd.m, List.length_map]
  have hl := hp.len
  have n8 := hp.n8
  have n4 := hp.n4
  have hso := sorted_of gd.m hp.so
  have hrecl : ∀ x ∈ rs.map Rec.bytes, x.length = 128 := fun x hx => (recs_bytes hp.ok x hx).1
  have E : ES w X J R V A B n base ((rs.map Rec.bytes).length + 1) room clock pause calls writes ev cv es sb (layB n (rs.map Rec.bytes)) := by rw [List.length_map]; exact gd.E
  have hm2 : (es.map (·.2)).map AS.left = L.map AS.left := by rw [gd.m]
  refine (eTick_nil (tick_ok P E hso (fun p hp' => (hp.mem (mem_of_map gd.m hp')).1) (fun p hp' => by have := saga_of _ _ (hp.mem (mem_of_map gd.m hp')).2; omega) hrecl (by rw [hm2, List.length_map]; omega) n4 (by omega) h3 (by omega) h5 (by omega) hp1 hp2 hp.ck hc1 hPA (by omega))).mono ?_
  rintro e w' ⟨rfl, es', calls', writes', sb', e1, e2, hE, ⟨b1, b2, b3, b4⟩, ⟨F0', hPA', hF0'⟩, hfr⟩
  rw [List.take_of_length_le (by rw [List.length_map]; omega), List.drop_of_length_le (by rw [List.length_map]; omega), List.append_nil] at e2
  rw [List.take_of_length_le (by rw [List.length_map]; omega), List.length_map] at hE
  rw [List.take_of_length_le (by rw [List.length_map]; omega)] at hPA'
  rw [gd.m] at e2 hE hPA'
  have hsx := sx_le sb
  have hsx' := sx_le sb'
  have hRF : ∀ b, RollF R ev es' b → RollF R ev es b := fun b hb => (rollF_fst e1 R ev b).1 hb
  have gE : ES w' X J R V A B n base ((rs ++ (tickL P (clock + 1) pause L s0).2.2.map mvR).length + 1) room (clock + 1) pause calls' writes' ev cv es' sb' (layB n ((rs ++ (tickL P (clock + 1) pause L s0).2.2.map mvR).map Rec.bytes)) := by
    rw [List.map_append, mvR_bytes, List.length_append, List.length_map]
    rw [show rs.length + (tickL P (clock + 1) pause L s0).2.2.length + 1 = rs.length + 1 + (tickL P (clock + 1) pause L s0).2.2.length by omega]
    exact hE
  refine ⟨rfl, EngF X J R V ev es', ?_, es_fu gE, ⟨hp.tick P s0 pause, J, R, V, base, room, ev, es', sb', calls', writes', ⟨by omega, ?_, by omega, ?_⟩, gE, e2, ?_, Nat.le_trans gd.b hfr.size, fun b hb => hb⟩, ⟨F0', hPA', hF0'⟩, ?_⟩
  · rintro b (h | h | h | h)
    · exact .inl (gd.f b (.inl h))
    · exact .inl (gd.f b (.inr (.inl h)))
    · exact .inl (gd.f b (.inr (.inr (.inl h))))
    · exact .inl (gd.f b (.inr (.inr (.inr (hRF b h)))))
  · push_cast; omega
  · push_cast; omega
  · rw [gd.rm, ← hp.need, ← (hp.tick P s0 pause).need]
    have e3 : (tickL P (clock + 1) pause L s0).1.map (fun a => 2 * a.st.length) = L.map (fun a => 2 * a.st.length) := by
      have h1 := tickL_sts P (clock + 1) pause L s0
      have h2 : ∀ l : List AS, l.map (fun a => 2 * a.st.length) = (l.map (·.st)).map (fun t => 2 * t.length) := fun l => by rw [List.map_map]; rfl
      rw [h2, h2, h1]
    rw [e3]
  · refine hfr.mono (fun b _ h => ?_)
    rcases h with h | h | h | h | h | h
    · exact .inr (.inr (.inl (gd.f b (.inl h))))
    · exact .inl h
    · exact .inr (.inl h)
    · exact .inr (.inr (.inl (gd.f b (.inr (.inl h)))))
    · exact .inr (.inr (.inr h))
    · exact .inr (.inr (.inl (gd.f b (.inr (.inr (.inr h))))))
end
end Go.Proofs.YteebjgfalllbjaaGreatDoor
namespace Go.Proofs.YteebjgfalllbjaaGreatDoor
open Go.RowKit
/-- Was it done already? -/
def CL.same (e c : CL) : Bool := decide (e.saga = c.saga ∧ e.step = c.step ∧ e.back = c.back)
def effC (l : List CL) : List Value := (l.map CL.cs).flatten
theorem effC_len (l : List CL) : (effC l).length = l.length * 4 := by
  induction l with
  | nil => rfl
  | cons a l ih => simp [effC, CL.cs] at ih ⊢; omega
theorem acall_size : (Tryz.prog.info? 50).map (·.size) = some 4 := by kernel_rfl
set_option maxRecDepth 100000 in
set_option maxHeartbeats 4000000 in
theorem pDone_ok {w : World} {Pp : Nat} (c : CL) {lg l : Value} {ao : Option Addr} {cap : Nat} {at' : Int} {eff : List CL} (h : w.heap[Pp]? = some (.cells #[lg, .slice ao eff.length cap, l, .int .i64 at'] 48 (0, 0))) (hl : RowsOf w ao 4 (eff.map CL.cs)) (hn : eff.length ≤ 1000000) : Calls Tryz.prog 77 #[.pointer (some ⟨Pp, 0, none⟩), .agg c.cs.toArray] w fun e w' => e = .returned (.bool (eff.any (·.same c))) ∧ Fr (fun _ => False) w w' := by
  obtain ⟨a1, a2, a3, a4⟩ := c
  obtain ⟨W, HW⟩ : ∃ W, Hid (W = w.alloc (.cells #[.int .i64 a1, .int .i64 a2, .bool a3, .string a4] 50)) := ⟨_, rfl⟩
  have hfa : Fr (fun _ => False) w W := by rw [HW.out]; exact (Fr.refl _ _).alloc _
  have hrow : W.heap[w.heap.size]? = some (.cells #[.int .i64 a1, .int .i64 a2, .bool a3, .string a4] 50 (0, 0)) := by rw [HW.out]; exact heap_alloc_at _ _
  have c1 : (w.alloc (.cells #[.int .i64 a1, .int .i64 a2, .bool a3, .string a4] 50)).cell? ⟨Pp, 1, none⟩ = some (.slice ao eff.length cap) := by rw [← HW.out]; exact (cell_of_row W Pp 1 _ _ _ (hfa.keep h (fun h => h))).trans rfl
  have HF : Hid (Fr (fun _ => False) w W ∧ W.heap[w.heap.size]? = some (.cells #[.int .i64 a1, .int .i64 a2, .bool a3, .string a4] 50 (0, 0)) ∧ RowsOf w ao 4 (eff.map CL.cs)) := ⟨hfa, hrow, hl⟩
  clear hfa hrow hl h
  unfold CL.cs
  go_enter Tryz.func77, Tryz.ntmps77
  go_wp2
  rw [← HW.out] at *
  clear HW
  go_loopw [12] (fun c wr => ∃ i : Nat, i ≤ eff.length ∧ c = .int .i64 i ∧ Hid (Fr (fun _ => False) W wr ∧ (eff.take i).any (·.same ⟨a1, a2, a3, a4⟩) = false)) (fun c _ => eff.length - (intOf c).toNat)
  case atStart => exact ⟨0, Nat.zero_le _, rfl, Fr.refl _ _, rfl⟩
  case round =>
    obtain ⟨i, hi, rfl, HR⟩ := hrel
    by_cases hlt : i < eff.length
    · have hlt' : (i : Int) < eff.length := by omega
      obtain ⟨p, hp⟩ : ∃ p, eff[i]? = some p := ⟨_, List.getElem?_eq_getElem hlt⟩
      obtain ⟨g, off, rfl, hr⟩ := HF.out.2.2 i p.cs (by simp [hp])
      have hF2 := HF.out.1.trans HR.out.1 (fun _ _ h => h)
      have hrg : wr.rangeAt g (off + i * 4) p.cs := fun j v hv => hF2.cell (hr j v hv) (fun h => h)
      obtain ⟨p1, p2, p3, p4⟩ := p
      have hb := HR.out.1.keep HF.out.2.1 (fun h => h)
      have hfz : Fr (fun _ => False) W (wr.alloc (.cells #[.int .i64 p1, .int .i64 p2, .bool p3, .string p4] 50)) := HR.out.1.alloc _
      have b0 : (wr.alloc (.cells #[.int .i64 p1, .int .i64 p2, .bool p3, .string p4] 50)).cell? ⟨w.heap.size, 0, none⟩ = some (.int .i64 a1) := (cell_of_row _ _ 0 _ _ _ (hfz.keep HF.out.2.1 (fun h => h))).trans rfl
      have b1 : (wr.alloc (.cells #[.int .i64 p1, .int .i64 p2, .bool p3, .string p4] 50)).cell? ⟨w.heap.size, 1, none⟩ = some (.int .i64 a2) := (cell_of_row _ _ 1 _ _ _ (hfz.keep HF.out.2.1 (fun h => h))).trans rfl
      have b2 : (wr.alloc (.cells #[.int .i64 p1, .int .i64 p2, .bool p3, .string p4] 50)).cell? ⟨w.heap.size, 2, none⟩ = some (.bool a3) := (cell_of_row _ _ 2 _ _ _ (hfz.keep HF.out.2.1 (fun h => h))).trans rfl
      have HP : Hid (eff[i]? = some ⟨p1, p2, p3, p4⟩) := hp
      clear hp hr hF2 hb hfz
      unfold CL.cs at hrg
      have HX : Hid (∀ b, CL.same ⟨p1, p2, p3, p4⟩ ⟨a1, a2, a3, a4⟩ = b → (eff.take (i + 1)).any (·.same ⟨a1, a2, a3, a4⟩) = b) := fun b hb => by
        rw [List.take_add_one, HP.out, List.any_append, HR.out.2]
        simp [hb]
      have HY : Hid (CL.same ⟨p1, p2, p3, p4⟩ ⟨a1, a2, a3, a4⟩ = true → eff.any (·.same ⟨a1, a2, a3, a4⟩) = true) := fun hb => List.any_eq_true.2 ⟨_, List.mem_of_getElem? HP.out, hb⟩
      by_cases e1 : p1 = a1
      · subst e1
        by_cases e2 : p2 = a2
        · subst e2
          by_cases e3 : p3 = a3
          · subst e3
            go_wp2_with (first | (refine wpList_load_mid rfl 50 _ rfl g (off + i * 4) ?_ _ _ hrg Tryz.underlying50 rfl ?_ ?_; rfl; exact acall_size))
            go_ret
            refine ⟨?_, (HF.out.1.trans HR.out.1 (fun _ _ h => h)).alloc _⟩
            rw [HY.out (by simp [CL.same])]
            rfl
          · have e3' : (p3 == a3) = false := by simpa using e3
            go_wp2_with (first | (refine wpList_load_mid rfl 50 _ rfl g (off + i * 4) ?_ _ _ hrg Tryz.underlying50 rfl ?_ ?_; rfl; exact acall_size))
            go_roundw
            case rel => exact ⟨i + 1, by omega, by go_num, HR.out.1.alloc _, HX.out _ (by simp [CL.same, e3])⟩
            case measure => simp [intOf]; omega
        · go_wp2_with (first | (refine wpList_load_mid rfl 50 _ rfl g (off + i * 4) ?_ _ _ hrg Tryz.underlying50 rfl ?_ ?_; rfl; exact acall_size))
          go_roundw
          case rel => exact ⟨i + 1, by omega, by go_num, HR.out.1.alloc _, HX.out _ (by simp [CL.same, e2])⟩
          case measure => simp [intOf]; omega
      · go_wp2_with (first | (refine wpList_load_mid rfl 50 _ rfl g (off + i * 4) ?_ _ _ hrg Tryz.underlying50 rfl ?_ ?_; rfl; exact acall_size))
        go_roundw
        case rel => exact ⟨i + 1, by omega, by go_num, HR.out.1.alloc _, HX.out _ (by simp [CL.same, e1])⟩
        case measure => simp [intOf]; omega
    · go_wp2
      go_ret
      refine ⟨?_, HF.out.1.trans HR.out.1 (fun _ _ h => h)⟩
      have e := HR.out.2
      rw [List.take_of_length_le (by omega)] at e
      rw [e]
      rfl
end Go.Proofs.YteebjgfalllbjaaGreatDoor
namespace Go.Proofs.YteebjgfalllbjaaGreatDoor
open Go.RowKit
theorem asked_info : (Tryz.prog.info? 52).map (fun i => (i.zero, i.size, i.bytes)) = some (some (.agg #[.int .i64 0, .int .i64 0, .bool false, .string ⟨#[]⟩, .int .i64 0]), 5, 48) := by kernel_rfl
theorem call_info : (Tryz.prog.info? 50).map (fun i => (i.zero, i.size, i.bytes)) = some (some (.agg #[.int .i64 0, .int .i64 0, .bool false, .string ⟨#[]⟩]), 4, 40) := by kernel_rfl
theorem run_build_asked (c : CL) (r : Nat) (w : World) : (Instr.build 52 #[(0, .agg c.cs.toArray), (1, .int .i64 r)]).run Tryz.prog w = .ok (.agg (c.cs ++ [Value.int .i64 r]).toArray) w := by kernel_rfl
theorem exec_buildK {ρ : Operand → Value} {o : Oper} {x y : Operand} {u v z : Value} {w w' : World} (ho : o.op = .build 52 #[(0, x), (1, y)]) (hx : ρ x = u) (hy : ρ y = v) (hr : (Instr.build 52 #[(0, u), (1, v)]).run Tryz.prog w = .ok z w') : (execOp ρ o).run Tryz.prog w = .ok (.value z) w' := by
  simp [execOp, ho, hx, hy, hr]
theorem run_bs_asked (c : CL) (r : Nat) (w : World) : (Instr.buildSlice 45 1 #[(0, .agg (c.cs ++ [Value.int .i64 r]).toArray)]).run Tryz.prog w = .ok (.slice (some ⟨w.heap.size, 0, none⟩) 1 1) (w.alloc (.cells (c.cs ++ [Value.int .i64 r]).toArray 52)) := by kernel_rfl
theorem run_bs_call (c : CL) (w : World) : (Instr.buildSlice 46 1 #[(0, .agg c.cs.toArray)]).run Tryz.prog w = .ok (.slice (some ⟨w.heap.size, 0, none⟩) 1 1) (w.alloc (.cells c.cs.toArray 50)) := by kernel_rfl
def logC (l : List (CL × Nat)) : List Value := (l.map fun p => p.1.cs ++ [Value.int .i64 p.2]).flatten
theorem logC_snoc (l : List (CL × Nat)) (c : CL) (r : Nat) : logC (l ++ [(c, r)]) = logC l ++ (c.cs ++ [Value.int .i64 r]) := by simp [logC]
theorem effC_snoc (l : List CL) (c : CL) : effC (l ++ [c]) = effC l ++ c.cs := by simp [effC]
theorem own_ty {w : World} {base e size n : Nat} {v : Value} {xs : List Value} (h : w.ownsRow base e size v n xs) {b : Nat} (hb : v.ownBlock = some b) : ∃ cs, w.heap[b]? = some (.cells cs e (0, 0)) := by
  rcases h.2 with ⟨rfl, _⟩ | ⟨g, cap, cur, rfl, _, hg, _⟩
  · cases hb
  · cases hb; exact ⟨_, hg⟩
/-- A partner's block, its lists. -/
structure PrtAt (w : World) (Pp b0 : Nat) (lg ef l : Value) (log : List (CL × Nat)) (eff : List CL) (rl : List Int) (at' : Int) : Prop where
  p : w.heap[Pp]? = some (.cells #[lg, ef, l, .int .i64 at'] 48 (0, 0))
  lo : w.ownsRow b0 52 5 lg log.length (logC log)
  eo : w.ownsRow b0 50 4 ef eff.length (effC eff)
  la : w.ownsRow b0 3 1 l rl.length (rl.map fun x => Value.int .i64 x)
/-- The blocks of a partner. -/
def PartF (Pp : Nat) (lg ef l : Value) (b : Nat) : Prop := b = Pp ∨ lg.ownBlock = some b ∨ ef.ownBlock = some b ∨ l.ownBlock = some b
/-- While a partner is asked. -/
structure AkI (w : World) (Pp b0 : Nat) (lg ef l : Value) (log : List (CL × Nat)) (rl : List Int) (at' : Int) (c : CL) (ef' : Value) (eff' : List CL) (W : World) : Prop where
  p : W.heap[Pp]? = some (.cells #[lg, ef', l, .int .i64 at'] 48 (0, 0))
  c : W.heap[w.heap.size]? = some (.cells c.cs.toArray 50 (0, 0))
  lo : W.ownsRow b0 52 5 lg log.length (logC log)
  eo : W.ownsRow b0 50 4 ef' eff'.length (effC eff')
  la : W.ownsRow b0 3 1 l rl.length (rl.map fun x => Value.int .i64 x)
  fr : Fr (PartF Pp lg ef l) w W
  ef : ∀ b, ef'.ownBlock = some b → PartF Pp lg ef l b ∨ w.heap.size ≤ b
/-- What a partner replies; what is done then. -/
def askR (k : Int) (done back : Bool) : Nat := if done then (if k = 3 ∨ k = 4 then 1 else 0) else if k = 3 ∨ (k = 5 ∧ back = true) then 1 else if k = 5 then 2 else if k = 4 then 1 else 0
def askE (k : Int) (done : Bool) (eff : List CL) (c : CL) : List CL := if done = true ∨ k = 3 ∨ k = 5 then eff else eff ++ [c]
/-- Behind it. -/
def AskQ (w : World) (Pp b0 : Nat) (lg ef l : Value) (log : List (CL × Nat)) (rl : List Int) (at' : Int) (c : CL) (r : Nat) (ef' : Value) (eff' : List CL) (W : World) : Prop :=
  ∃ lg', PrtAt W Pp b0 lg' ef' l (log ++ [(c, r)]) eff' rl at' ∧ Fr (PartF Pp lg ef l) w W ∧ (∀ b, lg'.ownBlock = some b → PartF Pp lg ef l b ∨ w.heap.size ≤ b) ∧ ∀ b, ef'.ownBlock = some b → PartF Pp lg ef l b ∨ w.heap.size ≤ b
section
variable {w : World} {Pp b0 : Nat} {lg ef l : Value} {log : List (CL × Nat)} {eff : List CL} {rl : List Int} {at0 : Int}
theorem AkI.frz {at' : Int} {c : CL} {ef' : Value} {eff' : List CL} {W W' : World} (h : AkI w Pp b0 lg ef l log rl at' c ef' eff' W) (hf : Fr (fun _ => False) W W') : AkI w Pp b0 lg ef l log rl at' c ef' eff' W' :=
  ⟨hf.keep h.p (fun h => h), hf.keep h.c (fun h => h), own_fr h.lo hf (fun _ _ _ _ h => h), own_fr h.eo hf (fun _ _ _ _ h => h), own_fr h.la hf (fun _ _ _ _ h => h), h.fr.trans (hf.mono (fun _ _ h => h.elim)) (fun _ _ h => h), h.ef⟩
theorem effC_get (l : List CL) (i : Nat) (c : CL) (h : l[i]? = some c) (j : Nat) (v : Value) (hv : c.cs[j]? = some v) : (effC l)[i * 4 + j]? = some v := by
  induction l generalizing i with
  | nil => simp at h
  | cons a l ih =>
    have hj : j < 4 := (List.getElem?_eq_some_iff.1 hv).1
    have e : effC (a :: l) = a.cs ++ effC l := rfl
    have e4 : a.cs.length = 4 := rfl
    rw [e]
    cases i with
    | zero =>
      obtain rfl : a = c := by simpa using h
      rw [List.getElem?_append_left (by rw [e4]; omega), Nat.zero_mul, Nat.zero_add]
      exact hv
    | succ i =>
      rw [List.getElem?_append_right (by rw [e4]; omega), e4, show (i + 1) * 4 + j - 4 = i * 4 + j by omega]
      exact ih i (by simpa using h)
theorem own_rowsC {W : World} {ao : Option Addr} {n cap : Nat} {eff : List CL} (h : W.ownsRow b0 50 4 (.slice ao n cap) n (effC eff)) : RowsOf W ao 4 (eff.map CL.cs) := by
  intro i r hr
  rw [List.getElem?_map] at hr
  obtain ⟨c, hc, rfl⟩ := Option.map_eq_some_iff.1 hr
  have hi := (List.getElem?_eq_some_iff.1 hc).1
  have hlen := h.1
  rcases h.2 with ⟨hv, hn⟩ | ⟨g, cap', cur, hv, _, hg, _, _, _, hx⟩
  · rw [effC_len, hn] at hlen; omega
  · cases hv
    refine ⟨g, 0, rfl, fun j v hj => ?_⟩
    refine (cell_of_row W g _ _ _ _ hg).trans ?_
    have h1 := effC_get eff i c hc j v hj
    rw [← hx, List.getElem?_take] at h1
    split at h1
    · rw [Nat.zero_add]; simpa using h1
    · cases h1
theorem pDone_of {at' : Int} {c : CL} {W : World} (h : AkI w Pp b0 lg ef l log rl at' c ef eff W) (hn : eff.length ≤ 1000000) : Calls Tryz.prog 77 #[.pointer (some ⟨Pp, 0, none⟩), .agg c.cs.toArray] W fun e w' => e = .returned (.bool (eff.any (·.same c))) ∧ Fr (fun _ => False) W w' := by
  obtain ⟨ao, cap, rfl⟩ : ∃ ao cap, ef = .slice ao eff.length cap := by
    rcases h.eo.2 with ⟨e, hn⟩ | ⟨g, cap, cur, e, _⟩
    · exact ⟨none, 0, by rw [e, hn]⟩
    · exact ⟨_, _, e⟩
  exact pDone_ok c h.p (own_rowsC h.eo) hn
set_option maxRecDepth 100000 in
set_option maxHeartbeats 8000000 in
theorem Ask_nil (h : PrtAt w Pp b0 lg ef l log eff rl at0) (hb0 : b0 ≤ w.heap.size) (hnl : log.length ≤ 1000000) (hne : eff.length ≤ 1000000) (hrl : rl = []) (c : CL) : Calls Tryz.prog 47 #[.pointer (some ⟨Pp, 0, none⟩), .agg c.cs.toArray] w fun e w' => e = .returned (.int .i64 (askR 0 (eff.any (·.same c)) c.back : Nat)) ∧ ∃ ef', AskQ w Pp b0 lg ef l log rl at0 c (askR 0 (eff.any (·.same c)) c.back) ef' (askE 0 (eff.any (·.same c)) eff c) w' := by
  generalize hRR : askR 0 (eff.any (·.same c)) c.back = RR
  generalize hEE : askE 0 (eff.any (·.same c)) eff c = EE
  have HRR : Hid (askR 0 (eff.any (·.same c)) c.back = RR) := hRR
  have HEE : Hid (askE 0 (eff.any (·.same c)) eff c = EE) := hEE
  clear hRR hEE
  have hlift : Tryz.prog.follows .mixedOrders = true := by kernel_rfl
  have hPl := lt_of_heap h.p
  have hlgl : ∀ b, lg.ownBlock = some b → b < w.heap.size := fun b hb => (h.lo.lt b hb).2
  have hefl : ∀ b, ef.ownBlock = some b → b < w.heap.size := fun b hb => (h.eo.lt b hb).2
  have hfa : Fr (fun _ => False) w (w.alloc (.cells c.cs.toArray 50)) := (Fr.refl _ _).alloc _
  have hC0 := heap_alloc_at w (.cells c.cs.toArray 50)
  obtain ⟨W1, HW1⟩ : ∃ W1, Hid (W1 = w.alloc (.cells c.cs.toArray 50)) := ⟨_, rfl⟩
  obtain ⟨la, lc, hle⟩ : ∃ la lc, l = .slice la 0 lc := by
    rcases h.la.2 with ⟨e, hn⟩ | ⟨g, cap, cur, e, _⟩
    · exact ⟨none, 0, by rw [e]⟩
    · rw [hrl] at e; exact ⟨_, _, e⟩
  have x2 : (w.alloc (.cells c.cs.toArray 50)).cell? ⟨Pp, 2, none⟩ = some (.slice la 0 lc) := (cell_of_row _ Pp 2 _ _ _ (hfa.keep h.p (fun h => h))).trans (by rw [← hle]; rfl)
  have hrg : (w.alloc (.cells c.cs.toArray 50)).rangeAt w.heap.size 0 c.cs := fun j v hv => (cell_of_row _ _ (0 + j) _ _ _ hC0).trans (by simpa using hv)
  have hA1 : AkI w Pp b0 lg ef l log rl at0 c ef eff W1 := by
    rw [HW1.out]
    exact ⟨hfa.keep h.p (fun h => h), hC0, own_fr h.lo hfa (fun _ _ _ _ h => h), own_fr h.eo hfa (fun _ _ _ _ h => h), own_fr h.la hfa (fun _ _ _ _ h => h), hfa.mono (fun _ _ h => h.elim), fun b hb => .inl (.inr (.inr (.inl hb)))⟩
  obtain ⟨at', hat⟩ : ∃ at', at' = at0 := ⟨_, rfl⟩
  rw [← hat] at hA1 ⊢
  clear hat hle hrl
  go_enter Tryz.func47, Tryz.ntmps47
  go_wp2_with (first | (refine wpList_load_mid rfl 50 (.tmp 3) rfl w.heap.size 0 ?_ _ _ hrg Tryz.underlying50 rfl ?_ ?_; rfl; exact call_size))
  rename_i K2 hK2 K1 hK1 K0 hK0
  rw [← HW1.out]
  have TAIL : ∀ (u1 u2 u4 u5 u7 u8 u9 u10 u11 u12 u13 u14 u15 u16 u17 u18 u19 u20 u21 u22 u23 u24 u25 u26 u27 u28 u29 u30 u31 u32 u33 u34 u35 u36 u37 u38 u39 u40 u41 u42 u43 u44 u45 u46 u47 u48 u49 u50 u51 u52 u53 u54 u55 u56 u57 u58 u59 u60 u61 u62 u63 u64 u65 u66 u67 u68 u69 u70 u71 u72 u73 u74 u75 u76 u77 u78 u79 u80 u81 u82 u83 u84 u85 u86 u87 u88 u89 : Value) (r : Nat) (ef' : Value) (eff' : List CL) (W0 : World), r = RR → eff' = EE → AkI w Pp b0 lg ef l log rl at' c ef' eff' W0 → K2 { tmps := #[.pointer (some ⟨Pp, 0, none⟩), u1, u2, .pointer (some ⟨w.heap.size, 0, none⟩), u4, u5, .int .i64 r, u7, u8, u9, u10, u11, u12, u13, u14, u15, u16, u17, u18, u19, u20, u21, u22, u23, u24, u25, u26, u27, u28, u29, u30, u31, u32, u33, u34, u35, u36, u37, u38, u39, u40, u41, u42, u43, u44, u45, u46, u47, u48, u49, u50, u51, u52, u53, u54, u55, u56, u57, u58, u59, u60, u61, u62, u63, u64, u65, u66, u67, u68, u69, u70, u71, u72, u73, u74, u75, u76, u77, u78, u79, u80, u81, u82, u83, u84, u85, u86, u87, u88, u89], defers := [] } W0 := by
    intro u1 u2 u4 u5 u7 u8 u9 u10 u11 u12 u13 u14 u15 u16 u17 u18 u19 u20 u21 u22 u23 u24 u25 u26 u27 u28 u29 u30 u31 u32 u33 u34 u35 u36 u37 u38 u39 u40 u41 u42 u43 u44 u45 u46 u47 u48 u49 u50 u51 u52 u53 u54 u55 u56 u57 u58 u59 u60 u61 u62 u63 u64 u65 u66 u67 u68 u69 u70 u71 u72 u73 u74 u75 u76 u77 u78 u79 u80 u81 u82 u83 u84 u85 u86 u87 u88 u89 r ef' eff' W0 hr1 he1 hW
    have HR1 : Hid (r = RR) := hr1
    have HE1 : Hid (eff' = EE) := he1
    clear hr1 he1
    apply hK2
    have hP0 := hW.p
    have hsz0 : w.heap.size < W0.heap.size := lt_of_heap hW.c
    have NBOX : ∀ b, lg.ownBlock = some b → b ≠ w.heap.size := fun b hb => by have := hlgl b hb; omega
    have NPP : ∀ b, lg.ownBlock = some b → b ≠ Pp := fun b hb e => by
      obtain ⟨cs, hcs⟩ := own_ty hW.lo hb
      rw [e, hP0] at hcs
      simp at hcs
    have NEF : ∀ b cs, W0.heap[b]? = some (.cells cs 50 (0, 0)) → ef'.ownBlock = some b → ¬ (b = Pp ∨ lg.ownBlock = some b) := by
      rintro b cs hb hv (h | h)
      · rw [h, hP0] at hb; simp at hb
      · obtain ⟨cs', hcs⟩ := own_ty hW.lo h
        rw [hb] at hcs; simp at hcs
    have NLA : ∀ b cs, W0.heap[b]? = some (.cells cs 3 (0, 0)) → l.ownBlock = some b → ¬ (b = Pp ∨ lg.ownBlock = some b) := by
      rintro b cs hb hv (h | h)
      · rw [h, hP0] at hb; simp at hb
      · obtain ⟨cs', hcs⟩ := own_ty hW.lo h
        rw [hb] at hcs; simp at hcs
    go_wp2_with fail
    obtain ⟨W8, HW8⟩ : ∃ W8, Hid (W8 = W0.drew) := ⟨_, rfl⟩
    have hfW8 : Fr (fun _ => False) W0 W8 := by rw [HW8.out]; exact (Fr.refl _ _).drew
    let S8 : World → Prop := fun w' => w'.heap[w.heap.size]? = some (.cells c.cs.toArray 50 (0, 0))
    have hS8 : S8 W8 := hfW8.keep hW.c (fun h => h)
    refine wp_region_held (S := S8) hlift ?_
    change wpAnyH _ _ _ _ S8 _ _ _ (World.drew _)
    rw [← HW8.out]
    clear HW8
    refine wpAnyH_take (S := S8) (i := 0) (oi := ⟨some 77, .move (.tmp 0), _, _, _, none⟩) (v := .pointer (some ⟨Pp, 0, none⟩)) rfl (by kernel_rfl) (by kernel_rfl) (by kernel_rfl) (fun _ _ _ h => h) (Or.inl ⟨rfl, fun _ _ => rfl⟩) hS8 ?_
    simp only [Act.put, List.setIfInBounds_toArray, List.set_cons_zero, List.set_cons_succ]
    refine wpAnyH_take (S := S8) (i := 1) (oi := ⟨some 78, .move (.tmp 0), _, _, _, none⟩) (v := .pointer (some ⟨Pp, 0, none⟩)) rfl (by kernel_rfl) (by kernel_rfl) (by kernel_rfl) (fun _ _ _ h => h) (Or.inl ⟨rfl, fun _ _ => rfl⟩) hS8 ?_
    simp only [Act.put, List.setIfInBounds_toArray, List.set_cons_zero, List.set_cons_succ]
    refine wpAnyH_take (S := S8) (i := 2) (oi := ⟨some 79, .nilCheck (.tmp 78), _, _, _, none⟩) (v := .pointer (some ⟨Pp, 0, none⟩)) rfl (by kernel_rfl) (by kernel_rfl) (by kernel_rfl) (fun _ _ _ h => h) (Or.inl ⟨rfl, fun _ _ => by kernel_rfl⟩) hS8 ?_
    simp only [Act.put, List.setIfInBounds_toArray, List.set_cons_zero, List.set_cons_succ]
    refine wpAnyH_take (S := S8) (i := 3) (oi := ⟨some 80, .fieldAddr 48 (.tmp 79) 0, _, _, _, none⟩) (v := .pointer (some ⟨Pp, 0, none⟩)) rfl (by kernel_rfl) (by kernel_rfl) (by kernel_rfl) (fun _ _ _ h => h) (Or.inl ⟨rfl, fun _ _ => by kernel_rfl⟩) hS8 ?_
    simp only [Act.put, List.setIfInBounds_toArray, List.set_cons_zero, List.set_cons_succ]
    refine wpAnyH_take (S := S8) (i := 5) (oi := ⟨some 82, .load 50 (.tmp 3), _, _, _, none⟩) (v := .agg c.cs.toArray) rfl (by kernel_rfl) (by kernel_rfl) (by kernel_rfl) (fun _ _ _ h => h) (Or.inl ⟨rfl, fun w' hs => exec_load 50 (.tmp 3) rfl ⟨w.heap.size, 0, none⟩ rfl (loadC hs)⟩) hS8 ?_
    simp only [Act.put, List.setIfInBounds_toArray, List.set_cons_zero, List.set_cons_succ]
    refine wpAnyH_take (S := S8) (i := 6) (oi := ⟨some 83, .move (.tmp 6), _, _, _, none⟩) (v := .int .i64 r) rfl (by kernel_rfl) (by kernel_rfl) (by kernel_rfl) (fun _ _ _ h => h) (Or.inl ⟨rfl, fun _ _ => rfl⟩) hS8 ?_
    simp only [Act.put, List.setIfInBounds_toArray, List.set_cons_zero, List.set_cons_succ]
    refine wpAnyH_take (S := S8) (i := 7) (oi := ⟨some 84, .build 52 #[(0, (.tmp 82)), (1, (.tmp 83))], _, _, _, none⟩) (v := .agg (c.cs ++ [Value.int .i64 r]).toArray) rfl (by kernel_rfl) (by kernel_rfl) (by kernel_rfl) (fun _ _ _ h => h) (Or.inl ⟨rfl, fun w' _ => exec_buildK rfl rfl rfl (run_build_asked c r w')⟩) hS8 ?_
    simp only [Act.put, List.setIfInBounds_toArray, List.set_cons_zero, List.set_cons_succ]
    have hl1 : (Instr.loadAt 45 (.pointer (some ⟨Pp, 0, none⟩))).run Tryz.prog W8 = .ok lg W8 := run_loadAt_one ((cell_of_row W8 Pp 0 _ _ _ (hfW8.keep hP0 (fun h => h))).trans rfl) Tryz.underlying45 rfl
    have hPA := (((Fr.refl (fun _ => False) W8).alloc (.cells (c.cs ++ [Value.int .i64 r]).toArray 52))).keep (hfW8.keep hP0 (fun h => h)) (fun h => h)
    have hl2 : (Instr.loadAt 45 (.pointer (some ⟨Pp, 0, none⟩))).run Tryz.prog (W8.alloc (.cells (c.cs ++ [Value.int .i64 r]).toArray 52)) = .ok lg (W8.alloc (.cells (c.cs ++ [Value.int .i64 r]).toArray 52)) := run_loadAt_one ((cell_of_row _ Pp 0 _ _ _ hPA).trans rfl) Tryz.underlying45 rfl
    have hbs : (Instr.buildSlice 45 1 #[(0, .agg (c.cs ++ [Value.int .i64 r]).toArray)]).run Tryz.prog W8 = .ok (.slice (some ⟨W8.heap.size, 0, none⟩) 1 1) (W8.alloc (.cells (c.cs ++ [Value.int .i64 r]).toArray 52)) := run_bs_asked c r W8
    have hFA : Fr (fun _ => False) W8 (W8.alloc (.cells (c.cs ++ [Value.int .i64 r]).toArray 52)) := (Fr.refl _ _).alloc _
    have hSA : S8 (W8.alloc (.cells (c.cs ++ [Value.int .i64 r]).toArray 52)) := hFA.keep hS8 (fun h => h)
    have hownA := own_fr (own_fr hW.lo hfW8 (fun _ _ _ _ h => h)) hFA (fun _ _ _ _ h => h)
    have hnewsA := World.news_of_block (w := W8.alloc (.cells (c.cs ++ [Value.int .i64 r]).toArray 52)) (B := W8.heap.size) (heap_alloc_at W8 (.cells (c.cs ++ [Value.int .i64 r]).toArray 52))
    have hsW := hfW8.size
    have hzA : b0 ≤ (W8.alloc (.cells (c.cs ++ [Value.int .i64 r]).toArray 52)).heap.size := by simp; omega
    obtain ⟨inf, hi0, hz0, hz1, hz2⟩ := info_parts asked_info
    refine wpAnyH_all (rs := [4, 8]) (by kernel_rfl) (by simp) ?_
    intro iz hiz
    have hzz : iz = 4 ∨ iz = 8 := by simpa using hiz
    rcases hzz with rfl | rfl
    · refine wpOp_value (o := ⟨some 81, .load 45 (.tmp 80), _, _, _, none⟩) (v := lg) rfl rfl (exec_load 45 (.tmp 80) rfl ⟨Pp, 0, none⟩ rfl hl1) ⟨hS8, ?_⟩
      simp only [Act.put, List.setIfInBounds_toArray, List.set_cons_zero, List.set_cons_succ]
      refine wpAnyH_all (rs := [8]) (by kernel_rfl) (by simp) ?_
      intro ib hib
      obtain rfl : ib = 8 := by simpa using hib
      refine wpOp_value (o := ⟨some 85, .buildSlice 45 1 #[(0, .tmp 84)], _, _, _, none⟩) (v := .slice (some ⟨W8.heap.size, 0, none⟩) 1 1) (w' := W8.alloc (.cells (c.cs ++ [Value.int .i64 r]).toArray 52)) rfl rfl (exec_buildSlice 45 1 #[(0, .tmp 84)] rfl #[(0, .agg (c.cs ++ [Value.int .i64 r]).toArray)] (by simp [Act.eval]) hbs) ⟨hSA, ?_⟩
      simp only [Act.put, List.setIfInBounds_toArray, List.set_cons_zero, List.set_cons_succ]
      refine wpAnyH_all (rs := [9]) (by kernel_rfl) (by simp) ?_
      intro ia hia
      obtain rfl : ia = 9 := by simpa using hia
      refine wpOp_of_wp (o := ⟨some 86, .call { callee := .builtin .append, args := #[.tmp 81, .tmp 85], argTypes := #[45, 45] }, _, _, _, none⟩) rfl rfl ?_
      refine wp_append_lies _ (.tmp 81) (.tmp 85) 45 rfl b0 52 inf (.agg #[.int .i64 0, .int .i64 0, .bool false, .string ⟨#[]⟩, .int .i64 0]) 5 48 Tryz.underlying45 hi0 hz0 hz1 hz2 rfl (by decide) lg log.length (logC log) rfl hownA ⟨W8.heap.size, 0, none⟩ 1 1 (c.cs ++ [Value.int .i64 r]) rfl rfl hnewsA (by intro v hv; simp [CL.cs] at hv; rcases hv with rfl | rfl | rfl | rfl | rfl <;> rfl) (by decide) (by unfold maxLen; omega) (by omega) hzA _ rfl ?_
      intro gn cap wn hon hgrow hat hlt
      have hSn : S8 wn := by
        show wn.heap[w.heap.size]? = _
        rw [hgrow.block w.heap.size (lt_of_heap hSA) (fun e => NBOX _ e.symm rfl)]; exact hSA
      refine ⟨hSn, ?_⟩
      simp only [Act.put, List.setIfInBounds_toArray, List.set_cons_zero, List.set_cons_succ]
      refine wpAnyH_take (S := S8) (i := 10) (oi := ⟨some 87, .nilCheck (.tmp 77), _, _, _, none⟩) (v := .pointer (some ⟨Pp, 0, none⟩)) rfl (by kernel_rfl) (by kernel_rfl) (by kernel_rfl) (fun _ _ _ h => h) (Or.inl ⟨rfl, fun _ _ => by kernel_rfl⟩) hSn ?_
      simp only [Act.put, List.setIfInBounds_toArray, List.set_cons_zero, List.set_cons_succ]
      refine wpAnyH_take (S := S8) (i := 11) (oi := ⟨some 88, .fieldAddr 48 (.tmp 87) 0, _, _, _, none⟩) (v := .pointer (some ⟨Pp, 0, none⟩)) rfl (by kernel_rfl) (by kernel_rfl) (by kernel_rfl) (fun _ _ _ h => h) (Or.inl ⟨rfl, fun _ _ => by kernel_rfl⟩) hSn ?_
      simp only [Act.put, List.setIfInBounds_toArray, List.set_cons_zero, List.set_cons_succ]
      refine wpAnyH_all (rs := [12]) (by kernel_rfl) (by simp) ?_
      intro is his
      obtain rfl : is = 12 := by simpa using his
      have hPn : wn.heap[Pp]? = _ := (hgrow.block Pp (lt_of_heap hPA) (fun e => NPP _ e.symm rfl)).trans hPA
      have hPE := heap_setCell_at wn Pp 0 _ _ (.slice (some ⟨gn, 0, none⟩) (log.length + 1) cap) hPn
      have hcn : wn.cell? ⟨Pp, 0, none⟩ = some lg := (cell_of_row wn Pp 0 _ _ _ hPn).trans rfl
      have hSw : S8 (wn.setCell ⟨Pp, 0, none⟩ (.slice (some ⟨gn, 0, none⟩) (log.length + 1) cap)) := (heap_setCell_ne wn ⟨Pp, 0, none⟩ w.heap.size _ (by simp; omega)).trans hSn
      refine wpOp_skip (o := ⟨none, .store 45 (.tmp 88) (.tmp 86), _, _, _, none⟩) (w' := wn.setCell ⟨Pp, 0, none⟩ (.slice (some ⟨gn, 0, none⟩) (log.length + 1) cap)) rfl rfl (exec_store 45 (.tmp 88) (.tmp 86) rfl ⟨Pp, 0, none⟩ (.slice (some ⟨gn, 0, none⟩) (log.length + 1) cap) rfl rfl (run_storeAt_one hcn (frozen_of_row wn Pp 0 _ _ hPn) (by kernel_rfl) rfl)) ⟨hSw, ?_⟩
      simp only [Act.put]
      refine wpAnyH_done (by kernel_rfl) ?_ _
      have hgW : lg.ownBlock = some gn ∨ W8.heap.size ≤ gn := by
        rcases hat with e | e
        · exact .inl e
        · right; simp at e; omega
      have hFn : Fr (fun b => b = Pp ∨ lg.ownBlock = some b) W0 (wn.setCell ⟨Pp, 0, none⟩ (.slice (some ⟨gn, 0, none⟩) (log.length + 1) cap)) := Fr.setCell (S := fun b => b = Pp ∨ lg.ownBlock = some b) ((((hfW8.mono (fun _ _ h => h.elim)).trans (hFA.mono (fun _ _ h => h.elim)) (fun _ _ h => h)).grown hgrow (fun b _ hb => .inr hb))) ⟨Pp, 0, none⟩ (fun _ => .inl rfl) _
      have honE : (wn.setCell ⟨Pp, 0, none⟩ (.slice (some ⟨gn, 0, none⟩) (log.length + 1) cap)).ownsRow b0 52 5 (.slice (some ⟨gn, 0, none⟩) (log.length + 1) cap) (log.length + 1) ((logC log) ++ (c.cs ++ [Value.int .i64 r])) := own_set hPn (by decide) hon
      have hgl : gn < (wn.setCell ⟨Pp, 0, none⟩ (.slice (some ⟨gn, 0, none⟩) (log.length + 1) cap)).heap.size := by simpa [World.setCell] using hlt
      obtain ⟨WE, HWE⟩ : ∃ WE, Hid (WE = wn.setCell ⟨Pp, 0, none⟩ (.slice (some ⟨gn, 0, none⟩) (log.length + 1) cap)) := ⟨_, rfl⟩
      have hSw' : WE.heap[w.heap.size]? = some (.cells c.cs.toArray 50 (0, 0)) := by rw [HWE.out]; exact hSw
      rw [← HWE.out] at hPE hFn honE hgl ⊢
      clear HWE hSw hcn hPn hon hgrow hat hSn hlt
      have HE : Hid (AskQ w Pp b0 lg ef l log rl at' c r ef' eff' WE) := ⟨_, ⟨hPE, by rw [List.length_append, List.length_singleton, logC_snoc]; exact honE, own_fr hW.eo hFn (fun b cs hb hv h => NEF b cs hb hv h), own_fr hW.la hFn (fun b cs hb hv h => NLA b cs hb hv h)⟩, hW.fr.trans hFn (fun b hb h => by rcases h with h | h; exact .inl h; exact .inr (.inl h)), fun b hb => by
        simp only [Value.ownBlock, Option.some.injEq] at hb
        subst hb
        rcases hgW with h | h
        · exact .inl (.inr (.inl h))
        · exact .inr (by have := hW.fr.size; omega), hW.ef⟩
      clear hPE hFn honE hgl hSw' hgW
      go_wp2
      go_ret
      exact ⟨by rw [← HR1.out]; rfl, _, by rw [← HR1.out, ← HE1.out]; exact HE.out⟩
    · refine wpOp_value (o := ⟨some 85, .buildSlice 45 1 #[(0, .tmp 84)], _, _, _, none⟩) (v := .slice (some ⟨W8.heap.size, 0, none⟩) 1 1) (w' := W8.alloc (.cells (c.cs ++ [Value.int .i64 r]).toArray 52)) rfl rfl (exec_buildSlice 45 1 #[(0, .tmp 84)] rfl #[(0, .agg (c.cs ++ [Value.int .i64 r]).toArray)] (by simp [Act.eval]) hbs) ⟨hSA, ?_⟩
      simp only [Act.put, List.setIfInBounds_toArray, List.set_cons_zero, List.set_cons_succ]
      refine wpAnyH_all (rs := [4]) (by kernel_rfl) (by simp) ?_
      intro ib hib
      obtain rfl : ib = 4 := by simpa using hib
      refine wpOp_value (o := ⟨some 81, .load 45 (.tmp 80), _, _, _, none⟩) (v := lg) rfl rfl (exec_load 45 (.tmp 80) rfl ⟨Pp, 0, none⟩ rfl hl2) ⟨hSA, ?_⟩
      simp only [Act.put, List.setIfInBounds_toArray, List.set_cons_zero, List.set_cons_succ]
      refine wpAnyH_all (rs := [9]) (by kernel_rfl) (by simp) ?_
      intro ia hia
      obtain rfl : ia = 9 := by simpa using hia
      refine wpOp_of_wp (o := ⟨some 86, .call { callee := .builtin .append, args := #[.tmp 81, .tmp 85], argTypes := #[45, 45] }, _, _, _, none⟩) rfl rfl ?_
      refine wp_append_lies _ (.tmp 81) (.tmp 85) 45 rfl b0 52 inf (.agg #[.int .i64 0, .int .i64 0, .bool false, .string ⟨#[]⟩, .int .i64 0]) 5 48 Tryz.underlying45 hi0 hz0 hz1 hz2 rfl (by decide) lg log.length (logC log) rfl hownA ⟨W8.heap.size, 0, none⟩ 1 1 (c.cs ++ [Value.int .i64 r]) rfl rfl hnewsA (by intro v hv; simp [CL.cs] at hv; rcases hv with rfl | rfl | rfl | rfl | rfl <;> rfl) (by decide) (by unfold maxLen; omega) (by omega) hzA _ rfl ?_
      intro gn cap wn hon hgrow hat hlt
      have hSn : S8 wn := by
        show wn.heap[w.heap.size]? = _
        rw [hgrow.block w.heap.size (lt_of_heap hSA) (fun e => NBOX _ e.symm rfl)]; exact hSA
      refine ⟨hSn, ?_⟩
      simp only [Act.put, List.setIfInBounds_toArray, List.set_cons_zero, List.set_cons_succ]
      refine wpAnyH_take (S := S8) (i := 10) (oi := ⟨some 87, .nilCheck (.tmp 77), _, _, _, none⟩) (v := .pointer (some ⟨Pp, 0, none⟩)) rfl (by kernel_rfl) (by kernel_rfl) (by kernel_rfl) (fun _ _ _ h => h) (Or.inl ⟨rfl, fun _ _ => by kernel_rfl⟩) hSn ?_
      simp only [Act.put, List.setIfInBounds_toArray, List.set_cons_zero, List.set_cons_succ]
      refine wpAnyH_take (S := S8) (i := 11) (oi := ⟨some 88, .fieldAddr 48 (.tmp 87) 0, _, _, _, none⟩) (v := .pointer (some ⟨Pp, 0, none⟩)) rfl (by kernel_rfl) (by kernel_rfl) (by kernel_rfl) (fun _ _ _ h => h) (Or.inl ⟨rfl, fun _ _ => by kernel_rfl⟩) hSn ?_
      simp only [Act.put, List.setIfInBounds_toArray, List.set_cons_zero, List.set_cons_succ]
      refine wpAnyH_all (rs := [12]) (by kernel_rfl) (by simp) ?_
      intro is his
      obtain rfl : is = 12 := by simpa using his
      have hPn : wn.heap[Pp]? = _ := (hgrow.block Pp (lt_of_heap hPA) (fun e => NPP _ e.symm rfl)).trans hPA
      have hPE := heap_setCell_at wn Pp 0 _ _ (.slice (some ⟨gn, 0, none⟩) (log.length + 1) cap) hPn
      have hcn : wn.cell? ⟨Pp, 0, none⟩ = some lg := (cell_of_row wn Pp 0 _ _ _ hPn).trans rfl
      have hSw : S8 (wn.setCell ⟨Pp, 0, none⟩ (.slice (some ⟨gn, 0, none⟩) (log.length + 1) cap)) := (heap_setCell_ne wn ⟨Pp, 0, none⟩ w.heap.size _ (by simp; omega)).trans hSn
      refine wpOp_skip (o := ⟨none, .store 45 (.tmp 88) (.tmp 86), _, _, _, none⟩) (w' := wn.setCell ⟨Pp, 0, none⟩ (.slice (some ⟨gn, 0, none⟩) (log.length + 1) cap)) rfl rfl (exec_store 45 (.tmp 88) (.tmp 86) rfl ⟨Pp, 0, none⟩ (.slice (some ⟨gn, 0, none⟩) (log.length + 1) cap) rfl rfl (run_storeAt_one hcn (frozen_of_row wn Pp 0 _ _ hPn) (by kernel_rfl) rfl)) ⟨hSw, ?_⟩
      simp only [Act.put]
      refine wpAnyH_done (by kernel_rfl) ?_ _
      have hgW : lg.ownBlock = some gn ∨ W8.heap.size ≤ gn := by
        rcases hat with e | e
        · exact .inl e
        · right; simp at e; omega
      have hFn : Fr (fun b => b = Pp ∨ lg.ownBlock = some b) W0 (wn.setCell ⟨Pp, 0, none⟩ (.slice (some ⟨gn, 0, none⟩) (log.length + 1) cap)) := Fr.setCell (S := fun b => b = Pp ∨ lg.ownBlock = some b) ((((hfW8.mono (fun _ _ h => h.elim)).trans (hFA.mono (fun _ _ h => h.elim)) (fun _ _ h => h)).grown hgrow (fun b _ hb => .inr hb))) ⟨Pp, 0, none⟩ (fun _ => .inl rfl) _
      have honE : (wn.setCell ⟨Pp, 0, none⟩ (.slice (some ⟨gn, 0, none⟩) (log.length + 1) cap)).ownsRow b0 52 5 (.slice (some ⟨gn, 0, none⟩) (log.length + 1) cap) (log.length + 1) ((logC log) ++ (c.cs ++ [Value.int .i64 r])) := own_set hPn (by decide) hon
      have hgl : gn < (wn.setCell ⟨Pp, 0, none⟩ (.slice (some ⟨gn, 0, none⟩) (log.length + 1) cap)).heap.size := by simpa [World.setCell] using hlt
      obtain ⟨WE, HWE⟩ : ∃ WE, Hid (WE = wn.setCell ⟨Pp, 0, none⟩ (.slice (some ⟨gn, 0, none⟩) (log.length + 1) cap)) := ⟨_, rfl⟩
      have hSw' : WE.heap[w.heap.size]? = some (.cells c.cs.toArray 50 (0, 0)) := by rw [HWE.out]; exact hSw
      rw [← HWE.out] at hPE hFn honE hgl ⊢
      clear HWE hSw hcn hPn hon hgrow hat hSn hlt
      have HE : Hid (AskQ w Pp b0 lg ef l log rl at' c r ef' eff' WE) := ⟨_, ⟨hPE, by rw [List.length_append, List.length_singleton, logC_snoc]; exact honE, own_fr hW.eo hFn (fun b cs hb hv h => NEF b cs hb hv h), own_fr hW.la hFn (fun b cs hb hv h => NLA b cs hb hv h)⟩, hW.fr.trans hFn (fun b hb h => by rcases h with h | h; exact .inl h; exact .inr (.inl h)), fun b hb => by
        simp only [Value.ownBlock, Option.some.injEq] at hb
        subst hb
        rcases hgW with h | h
        · exact .inl (.inr (.inl h))
        · exact .inr (by have := hW.fr.size; omega), hW.ef⟩
      clear hPE hFn honE hgl hSw' hgW
      go_wp2
      go_ret
      exact ⟨by rw [← HR1.out]; rfl, _, by rw [← HR1.out, ← HE1.out]; exact HE.out⟩
  clear hK2 hrg x2 HW1 hC0 hfa
  refine (pDone_of hA1 hne).mono ?_
  rintro e w2 ⟨rfl, hf2⟩
  have hW : AkI w Pp b0 lg ef l log rl at' c ef eff w2 := hA1.frz hf2
  clear hA1 hf2
  cases hd : eff.any (·.same c)
  · have HD : Hid (eff.any (·.same c) = false) := hd
    clear hd
    go_wp2_with fail
    have hP0 := hW.p
    have hsz0 : w.heap.size < w2.heap.size := lt_of_heap hW.c
    have NBOX : ∀ b, ef.ownBlock = some b → b ≠ w.heap.size := fun b hb => by have := hefl b hb; omega
    have NPP : ∀ b, ef.ownBlock = some b → b ≠ Pp := fun b hb e => by
      obtain ⟨cs, hcs⟩ := own_ty hW.eo hb
      rw [e, hP0] at hcs
      simp at hcs
    have NLO : ∀ b cs, w2.heap[b]? = some (.cells cs 52 (0, 0)) → lg.ownBlock = some b → ¬ (b = Pp ∨ ef.ownBlock = some b) := by
      rintro b cs hb hv (h | h)
      · rw [h, hP0] at hb; simp at hb
      · obtain ⟨cs', hcs⟩ := own_ty hW.eo h
        rw [hb] at hcs; simp at hcs
    have NLA : ∀ b cs, w2.heap[b]? = some (.cells cs 3 (0, 0)) → l.ownBlock = some b → ¬ (b = Pp ∨ ef.ownBlock = some b) := by
      rintro b cs hb hv (h | h)
      · rw [h, hP0] at hb; simp at hb
      · obtain ⟨cs', hcs⟩ := own_ty hW.eo h
        rw [hb] at hcs; simp at hcs
    obtain ⟨W4, HW4⟩ : ∃ W4, Hid (W4 = w2.drew) := ⟨_, rfl⟩
    have hfW4 : Fr (fun _ => False) w2 W4 := by rw [HW4.out]; exact (Fr.refl _ _).drew
    let S4 : World → Prop := fun w' => w'.heap[w.heap.size]? = some (.cells c.cs.toArray 50 (0, 0))
    have hS4 : S4 W4 := hfW4.keep hW.c (fun h => h)
    refine wp_region_held (S := S4) hlift ?_
    change wpAnyH _ _ _ _ S4 _ _ _ (World.drew _)
    rw [← HW4.out]
    clear HW4
    refine wpAnyH_take (S := S4) (i := 0) (oi := ⟨some 41, .move (.tmp 0), _, _, _, none⟩) (v := .pointer (some ⟨Pp, 0, none⟩)) rfl (by kernel_rfl) (by kernel_rfl) (by kernel_rfl) (fun _ _ _ h => h) (Or.inl ⟨rfl, fun _ _ => rfl⟩) hS4 ?_
    simp only [Act.put, List.setIfInBounds_toArray, List.set_cons_zero, List.set_cons_succ]
    refine wpAnyH_take (S := S4) (i := 1) (oi := ⟨some 42, .move (.tmp 0), _, _, _, none⟩) (v := .pointer (some ⟨Pp, 0, none⟩)) rfl (by kernel_rfl) (by kernel_rfl) (by kernel_rfl) (fun _ _ _ h => h) (Or.inl ⟨rfl, fun _ _ => rfl⟩) hS4 ?_
    simp only [Act.put, List.setIfInBounds_toArray, List.set_cons_zero, List.set_cons_succ]
    refine wpAnyH_take (S := S4) (i := 2) (oi := ⟨some 43, .nilCheck (.tmp 42), _, _, _, none⟩) (v := .pointer (some ⟨Pp, 0, none⟩)) rfl (by kernel_rfl) (by kernel_rfl) (by kernel_rfl) (fun _ _ _ h => h) (Or.inl ⟨rfl, fun _ _ => by kernel_rfl⟩) hS4 ?_
    simp only [Act.put, List.setIfInBounds_toArray, List.set_cons_zero, List.set_cons_succ]
    refine wpAnyH_take (S := S4) (i := 3) (oi := ⟨some 44, .fieldAddr 48 (.tmp 43) 1, _, _, _, none⟩) (v := .pointer (some ⟨Pp, 1, none⟩)) rfl (by kernel_rfl) (by kernel_rfl) (by kernel_rfl) (fun _ _ _ h => h) (Or.inl ⟨rfl, fun _ _ => by kernel_rfl⟩) hS4 ?_
    simp only [Act.put, List.setIfInBounds_toArray, List.set_cons_zero, List.set_cons_succ]
    refine wpAnyH_take (S := S4) (i := 5) (oi := ⟨some 46, .load 50 (.tmp 3), _, _, _, none⟩) (v := .agg c.cs.toArray) rfl (by kernel_rfl) (by kernel_rfl) (by kernel_rfl) (fun _ _ _ h => h) (Or.inl ⟨rfl, fun w' hs => exec_load 50 (.tmp 3) rfl ⟨w.heap.size, 0, none⟩ rfl (loadC hs)⟩) hS4 ?_
    simp only [Act.put, List.setIfInBounds_toArray, List.set_cons_zero, List.set_cons_succ]
    have hl1 : (Instr.loadAt 46 (.pointer (some ⟨Pp, 1, none⟩))).run Tryz.prog W4 = .ok ef W4 := run_loadAt_one ((cell_of_row W4 Pp 1 _ _ _ (hfW4.keep hP0 (fun h => h))).trans rfl) Tryz.underlying46 rfl
    have hPA := (((Fr.refl (fun _ => False) W4).alloc (.cells c.cs.toArray 50))).keep (hfW4.keep hP0 (fun h => h)) (fun h => h)
    have hl2 : (Instr.loadAt 46 (.pointer (some ⟨Pp, 1, none⟩))).run Tryz.prog (W4.alloc (.cells c.cs.toArray 50)) = .ok ef (W4.alloc (.cells c.cs.toArray 50)) := run_loadAt_one ((cell_of_row _ Pp 1 _ _ _ hPA).trans rfl) Tryz.underlying46 rfl
    have hbs : (Instr.buildSlice 46 1 #[(0, .agg c.cs.toArray)]).run Tryz.prog W4 = .ok (.slice (some ⟨W4.heap.size, 0, none⟩) 1 1) (W4.alloc (.cells c.cs.toArray 50)) := run_bs_call c W4
    have hFA : Fr (fun _ => False) W4 (W4.alloc (.cells c.cs.toArray 50)) := (Fr.refl _ _).alloc _
    have hSA : S4 (W4.alloc (.cells c.cs.toArray 50)) := hFA.keep hS4 (fun h => h)
    have hownA := own_fr (own_fr hW.eo hfW4 (fun _ _ _ _ h => h)) hFA (fun _ _ _ _ h => h)
    have hnewsA := World.news_of_block (w := W4.alloc (.cells c.cs.toArray 50)) (B := W4.heap.size) (heap_alloc_at W4 (.cells c.cs.toArray 50))
    have hsW := hfW4.size
    have hzA : b0 ≤ (W4.alloc (.cells c.cs.toArray 50)).heap.size := by simp; omega
    obtain ⟨inf, hi0, hz0, hz1, hz2⟩ := info_parts call_info
    refine wpAnyH_all (rs := [4, 6]) (by kernel_rfl) (by simp) ?_
    intro iz hiz
    have hzz : iz = 4 ∨ iz = 6 := by simpa using hiz
    rcases hzz with rfl | rfl
    · refine wpOp_value (o := ⟨some 45, .load 46 (.tmp 44), _, _, _, none⟩) (v := ef) rfl rfl (exec_load 46 (.tmp 44) rfl ⟨Pp, 1, none⟩ rfl hl1) ⟨hS4, ?_⟩
      simp only [Act.put, List.setIfInBounds_toArray, List.set_cons_zero, List.set_cons_succ]
      refine wpAnyH_all (rs := [6]) (by kernel_rfl) (by simp) ?_
      intro ib hib
      obtain rfl : ib = 6 := by simpa using hib
      refine wpOp_value (o := ⟨some 47, .buildSlice 46 1 #[(0, .tmp 46)], _, _, _, none⟩) (v := .slice (some ⟨W4.heap.size, 0, none⟩) 1 1) (w' := W4.alloc (.cells c.cs.toArray 50)) rfl rfl (exec_buildSlice 46 1 #[(0, .tmp 46)] rfl #[(0, .agg c.cs.toArray)] (by simp [Act.eval]) hbs) ⟨hSA, ?_⟩
      simp only [Act.put, List.setIfInBounds_toArray, List.set_cons_zero, List.set_cons_succ]
      refine wpAnyH_all (rs := [7]) (by kernel_rfl) (by simp) ?_
      intro ia hia
      obtain rfl : ia = 7 := by simpa using hia
      refine wpOp_of_wp (o := ⟨some 48, .call { callee := .builtin .append, args := #[.tmp 45, .tmp 47], argTypes := #[46, 46] }, _, _, _, none⟩) rfl rfl ?_
      refine wp_append_lies _ (.tmp 45) (.tmp 47) 46 rfl b0 50 inf (.agg #[.int .i64 0, .int .i64 0, .bool false, .string ⟨#[]⟩]) 4 40 Tryz.underlying46 hi0 hz0 hz1 hz2 rfl (by decide) ef eff.length (effC eff) rfl hownA ⟨W4.heap.size, 0, none⟩ 1 1 c.cs rfl rfl hnewsA (by intro v hv; simp [CL.cs] at hv; rcases hv with rfl | rfl | rfl | rfl <;> rfl) (by decide) (by unfold maxLen; omega) (by omega) hzA _ rfl ?_
      intro gn cap wn hon hgrow hat hlt
      have hSn : S4 wn := by
        show wn.heap[w.heap.size]? = _
        rw [hgrow.block w.heap.size (lt_of_heap hSA) (fun e => NBOX _ e.symm rfl)]; exact hSA
      refine ⟨hSn, ?_⟩
      simp only [Act.put, List.setIfInBounds_toArray, List.set_cons_zero, List.set_cons_succ]
      refine wpAnyH_take (S := S4) (i := 8) (oi := ⟨some 49, .nilCheck (.tmp 41), _, _, _, none⟩) (v := .pointer (some ⟨Pp, 0, none⟩)) rfl (by kernel_rfl) (by kernel_rfl) (by kernel_rfl) (fun _ _ _ h => h) (Or.inl ⟨rfl, fun _ _ => by kernel_rfl⟩) hSn ?_
      simp only [Act.put, List.setIfInBounds_toArray, List.set_cons_zero, List.set_cons_succ]
      refine wpAnyH_take (S := S4) (i := 9) (oi := ⟨some 50, .fieldAddr 48 (.tmp 49) 1, _, _, _, none⟩) (v := .pointer (some ⟨Pp, 1, none⟩)) rfl (by kernel_rfl) (by kernel_rfl) (by kernel_rfl) (fun _ _ _ h => h) (Or.inl ⟨rfl, fun _ _ => by kernel_rfl⟩) hSn ?_
      simp only [Act.put, List.setIfInBounds_toArray, List.set_cons_zero, List.set_cons_succ]
      refine wpAnyH_all (rs := [10]) (by kernel_rfl) (by simp) ?_
      intro is his
      obtain rfl : is = 10 := by simpa using his
      have hPn : wn.heap[Pp]? = _ := (hgrow.block Pp (lt_of_heap hPA) (fun e => NPP _ e.symm rfl)).trans hPA
      have hPE := heap_setCell_at wn Pp 1 _ _ (.slice (some ⟨gn, 0, none⟩) (eff.length + 1) cap) hPn
      have hcn : wn.cell? ⟨Pp, 1, none⟩ = some ef := (cell_of_row wn Pp 1 _ _ _ hPn).trans rfl
      have hSw : S4 (wn.setCell ⟨Pp, 1, none⟩ (.slice (some ⟨gn, 0, none⟩) (eff.length + 1) cap)) := (heap_setCell_ne wn ⟨Pp, 1, none⟩ w.heap.size _ (by simp; omega)).trans hSn
      refine wpOp_skip (o := ⟨none, .store 46 (.tmp 50) (.tmp 48), _, _, _, none⟩) (w' := wn.setCell ⟨Pp, 1, none⟩ (.slice (some ⟨gn, 0, none⟩) (eff.length + 1) cap)) rfl rfl (exec_store 46 (.tmp 50) (.tmp 48) rfl ⟨Pp, 1, none⟩ (.slice (some ⟨gn, 0, none⟩) (eff.length + 1) cap) rfl rfl (run_storeAt_one hcn (frozen_of_row wn Pp 1 _ _ hPn) (by kernel_rfl) rfl)) ⟨hSw, ?_⟩
      simp only [Act.put]
      refine wpAnyH_done (by kernel_rfl) ?_ _
      have hgW : ef.ownBlock = some gn ∨ W4.heap.size ≤ gn := by
        rcases hat with e | e
        · exact .inl e
        · right; simp at e; omega
      have hFn : Fr (fun b => b = Pp ∨ ef.ownBlock = some b) w2 (wn.setCell ⟨Pp, 1, none⟩ (.slice (some ⟨gn, 0, none⟩) (eff.length + 1) cap)) := Fr.setCell (S := fun b => b = Pp ∨ ef.ownBlock = some b) ((((hfW4.mono (fun _ _ h => h.elim)).trans (hFA.mono (fun _ _ h => h.elim)) (fun _ _ h => h)).grown hgrow (fun b _ hb => .inr hb))) ⟨Pp, 1, none⟩ (fun _ => .inl rfl) _
      have honE : (wn.setCell ⟨Pp, 1, none⟩ (.slice (some ⟨gn, 0, none⟩) (eff.length + 1) cap)).ownsRow b0 50 4 (.slice (some ⟨gn, 0, none⟩) (eff.length + 1) cap) (eff.length + 1) ((effC eff) ++ c.cs) := own_set hPn (by decide) hon
      have hgl : gn < (wn.setCell ⟨Pp, 1, none⟩ (.slice (some ⟨gn, 0, none⟩) (eff.length + 1) cap)).heap.size := by simpa [World.setCell] using hlt
      obtain ⟨WE, HWE⟩ : ∃ WE, Hid (WE = wn.setCell ⟨Pp, 1, none⟩ (.slice (some ⟨gn, 0, none⟩) (eff.length + 1) cap)) := ⟨_, rfl⟩
      have hSw' : WE.heap[w.heap.size]? = some (.cells c.cs.toArray 50 (0, 0)) := by rw [HWE.out]; exact hSw
      rw [← HWE.out] at hPE hFn honE hgl ⊢
      clear HWE hSw hcn hPn hon hgrow hat hSn hlt
      have hAk : AkI w Pp b0 lg ef l log rl at' c (.slice (some ⟨gn, 0, none⟩) (eff.length + 1) cap) (eff ++ [c]) WE := ⟨hPE, hSw', own_fr hW.lo hFn (fun b cs hb hv h => NLO b cs hb hv h), by rw [List.length_append, List.length_singleton, effC_snoc]; exact honE, own_fr hW.la hFn (fun b cs hb hv h => NLA b cs hb hv h), hW.fr.trans hFn (fun b hb h => by rcases h with h | h; exact .inl h; exact .inr (.inr (.inl h))), fun b hb => by
        simp only [Value.ownBlock, Option.some.injEq] at hb
        subst hb
        rcases hgW with h | h
        · exact .inl (.inr (.inr (.inl h)))
        · exact .inr (by have := hW.fr.size; omega)⟩
      have HA : Hid (AkI w Pp b0 lg ef l log rl at' c (.slice (some ⟨gn, 0, none⟩) (eff.length + 1) cap) (eff ++ [c]) WE) := hAk
      clear hPE hFn honE hgl hSw' hgW hAk
      go_wp2
      exact TAIL _ _ _ _ _ _ _ _ _ _ _ _ _ _ _ _ _ _ _ _ _ _ _ _ _ _ _ _ _ _ _ _ _ _ _ _ _ _ _ _ _ _ _ _ _ _ _ _ _ _ _ _ _ _ _ _ _ _ _ _ _ _ _ _ _ _ _ _ _ _ _ _ _ _ _ _ _ _ _ _ _ _ _ _ _ _ _ 0 _ _ _ (by rw [← HRR.out]; simp [askR, HD.out]) (by rw [← HEE.out]; simp [askE, HD.out]) HA.out
    · refine wpOp_value (o := ⟨some 47, .buildSlice 46 1 #[(0, .tmp 46)], _, _, _, none⟩) (v := .slice (some ⟨W4.heap.size, 0, none⟩) 1 1) (w' := W4.alloc (.cells c.cs.toArray 50)) rfl rfl (exec_buildSlice 46 1 #[(0, .tmp 46)] rfl #[(0, .agg c.cs.toArray)] (by simp [Act.eval]) hbs) ⟨hSA, ?_⟩
      simp only [Act.put, List.setIfInBounds_toArray, List.set_cons_zero, List.set_cons_succ]
      refine wpAnyH_all (rs := [4]) (by kernel_rfl) (by simp) ?_
      intro ib hib
      obtain rfl : ib = 4 := by simpa using hib
      refine wpOp_value (o := ⟨some 45, .load 46 (.tmp 44), _, _, _, none⟩) (v := ef) rfl rfl (exec_load 46 (.tmp 44) rfl ⟨Pp, 1, none⟩ rfl hl2) ⟨hSA, ?_⟩
      simp only [Act.put, List.setIfInBounds_toArray, List.set_cons_zero, List.set_cons_succ]
      refine wpAnyH_all (rs := [7]) (by kernel_rfl) (by simp) ?_
      intro ia hia
      obtain rfl : ia = 7 := by simpa using hia
      refine wpOp_of_wp (o := ⟨some 48, .call { callee := .builtin .append, args := #[.tmp 45, .tmp 47], argTypes := #[46, 46] }, _, _, _, none⟩) rfl rfl ?_
      refine wp_append_lies _ (.tmp 45) (.tmp 47) 46 rfl b0 50 inf (.agg #[.int .i64 0, .int .i64 0, .bool false, .string ⟨#[]⟩]) 4 40 Tryz.underlying46 hi0 hz0 hz1 hz2 rfl (by decide) ef eff.length (effC eff) rfl hownA ⟨W4.heap.size, 0, none⟩ 1 1 c.cs rfl rfl hnewsA (by intro v hv; simp [CL.cs] at hv; rcases hv with rfl | rfl | rfl | rfl <;> rfl) (by decide) (by unfold maxLen; omega) (by omega) hzA _ rfl ?_
      intro gn cap wn hon hgrow hat hlt
      have hSn : S4 wn := by
        show wn.heap[w.heap.size]? = _
        rw [hgrow.block w.heap.size (lt_of_heap hSA) (fun e => NBOX _ e.symm rfl)]; exact hSA
      refine ⟨hSn, ?_⟩
      simp only [Act.put, List.setIfInBounds_toArray, List.set_cons_zero, List.set_cons_succ]
      refine wpAnyH_take (S := S4) (i := 8) (oi := ⟨some 49, .nilCheck (.tmp 41), _, _, _, none⟩) (v := .pointer (some ⟨Pp, 0, none⟩)) rfl (by kernel_rfl) (by kernel_rfl) (by kernel_rfl) (fun _ _ _ h => h) (Or.inl ⟨rfl, fun _ _ => by kernel_rfl⟩) hSn ?_
      simp only [Act.put, List.setIfInBounds_toArray, List.set_cons_zero, List.set_cons_succ]
      refine wpAnyH_take (S := S4) (i := 9) (oi := ⟨some 50, .fieldAddr 48 (.tmp 49) 1, _, _, _, none⟩) (v := .pointer (some ⟨Pp, 1, none⟩)) rfl (by kernel_rfl) (by kernel_rfl) (by kernel_rfl) (fun _ _ _ h => h) (Or.inl ⟨rfl, fun _ _ => by kernel_rfl⟩) hSn ?_
      simp only [Act.put, List.setIfInBounds_toArray, List.set_cons_zero, List.set_cons_succ]
      refine wpAnyH_all (rs := [10]) (by kernel_rfl) (by simp) ?_
      intro is his
      obtain rfl : is = 10 := by simpa using his
      have hPn : wn.heap[Pp]? = _ := (hgrow.block Pp (lt_of_heap hPA) (fun e => NPP _ e.symm rfl)).trans hPA
      have hPE := heap_setCell_at wn Pp 1 _ _ (.slice (some ⟨gn, 0, none⟩) (eff.length + 1) cap) hPn
      have hcn : wn.cell? ⟨Pp, 1, none⟩ = some ef := (cell_of_row wn Pp 1 _ _ _ hPn).trans rfl
      have hSw : S4 (wn.setCell ⟨Pp, 1, none⟩ (.slice (some ⟨gn, 0, none⟩) (eff.length + 1) cap)) := (heap_setCell_ne wn ⟨Pp, 1, none⟩ w.heap.size _ (by simp; omega)).trans hSn
      refine wpOp_skip (o := ⟨none, .store 46 (.tmp 50) (.tmp 48), _, _, _, none⟩) (w' := wn.setCell ⟨Pp, 1, none⟩ (.slice (some ⟨gn, 0, none⟩) (eff.length + 1) cap)) rfl rfl (exec_store 46 (.tmp 50) (.tmp 48) rfl ⟨Pp, 1, none⟩ (.slice (some ⟨gn, 0, none⟩) (eff.length + 1) cap) rfl rfl (run_storeAt_one hcn (frozen_of_row wn Pp 1 _ _ hPn) (by kernel_rfl) rfl)) ⟨hSw, ?_⟩
      simp only [Act.put]
      refine wpAnyH_done (by kernel_rfl) ?_ _
      have hgW : ef.ownBlock = some gn ∨ W4.heap.size ≤ gn := by
        rcases hat with e | e
        · exact .inl e
        · right; simp at e; omega
      have hFn : Fr (fun b => b = Pp ∨ ef.ownBlock = some b) w2 (wn.setCell ⟨Pp, 1, none⟩ (.slice (some ⟨gn, 0, none⟩) (eff.length + 1) cap)) := Fr.setCell (S := fun b => b = Pp ∨ ef.ownBlock = some b) ((((hfW4.mono (fun _ _ h => h.elim)).trans (hFA.mono (fun _ _ h => h.elim)) (fun _ _ h => h)).grown hgrow (fun b _ hb => .inr hb))) ⟨Pp, 1, none⟩ (fun _ => .inl rfl) _
      have honE : (wn.setCell ⟨Pp, 1, none⟩ (.slice (some ⟨gn, 0, none⟩) (eff.length + 1) cap)).ownsRow b0 50 4 (.slice (some ⟨gn, 0, none⟩) (eff.length + 1) cap) (eff.length + 1) ((effC eff) ++ c.cs) := own_set hPn (by decide) hon
      have hgl : gn < (wn.setCell ⟨Pp, 1, none⟩ (.slice (some ⟨gn, 0, none⟩) (eff.length + 1) cap)).heap.size := by simpa [World.setCell] using hlt
      obtain ⟨WE, HWE⟩ : ∃ WE, Hid (WE = wn.setCell ⟨Pp, 1, none⟩ (.slice (some ⟨gn, 0, none⟩) (eff.length + 1) cap)) := ⟨_, rfl⟩
      have hSw' : WE.heap[w.heap.size]? = some (.cells c.cs.toArray 50 (0, 0)) := by rw [HWE.out]; exact hSw
      rw [← HWE.out] at hPE hFn honE hgl ⊢
      clear HWE hSw hcn hPn hon hgrow hat hSn hlt
      have hAk : AkI w Pp b0 lg ef l log rl at' c (.slice (some ⟨gn, 0, none⟩) (eff.length + 1) cap) (eff ++ [c]) WE := ⟨hPE, hSw', own_fr hW.lo hFn (fun b cs hb hv h => NLO b cs hb hv h), by rw [List.length_append, List.length_singleton, effC_snoc]; exact honE, own_fr hW.la hFn (fun b cs hb hv h => NLA b cs hb hv h), hW.fr.trans hFn (fun b hb h => by rcases h with h | h; exact .inl h; exact .inr (.inr (.inl h))), fun b hb => by
        simp only [Value.ownBlock, Option.some.injEq] at hb
        subst hb
        rcases hgW with h | h
        · exact .inl (.inr (.inr (.inl h)))
        · exact .inr (by have := hW.fr.size; omega)⟩
      have HA : Hid (AkI w Pp b0 lg ef l log rl at' c (.slice (some ⟨gn, 0, none⟩) (eff.length + 1) cap) (eff ++ [c]) WE) := hAk
      clear hPE hFn honE hgl hSw' hgW hAk
      go_wp2
      exact TAIL _ _ _ _ _ _ _ _ _ _ _ _ _ _ _ _ _ _ _ _ _ _ _ _ _ _ _ _ _ _ _ _ _ _ _ _ _ _ _ _ _ _ _ _ _ _ _ _ _ _ _ _ _ _ _ _ _ _ _ _ _ _ _ _ _ _ _ _ _ _ _ _ _ _ _ _ _ _ _ _ _ _ _ _ _ _ _ 0 _ _ _ (by rw [← HRR.out]; simp [askR, HD.out]) (by rw [← HEE.out]; simp [askE, HD.out]) HA.out
  · have HA : Hid (AkI w Pp b0 lg ef l log rl at' c ef eff w2) := hW
    have HD : Hid (eff.any (·.same c) = true) := hd
    clear hW hd
    go_wp2
    exact TAIL _ _ _ _ _ _ _ _ _ _ _ _ _ _ _ _ _ _ _ _ _ _ _ _ _ _ _ _ _ _ _ _ _ _ _ _ _ _ _ _ _ _ _ _ _ _ _ _ _ _ _ _ _ _ _ _ _ _ _ _ _ _ _ _ _ _ _ _ _ _ _ _ _ _ _ _ _ _ _ _ _ _ _ _ _ _ _ 0 _ _ _ (by rw [← HRR.out]; simp [askR, HD.out]) (by rw [← HEE.out]; simp [askE, HD.out]) HA.out
end
end Go.Proofs.YteebjgfalllbjaaGreatDoor
