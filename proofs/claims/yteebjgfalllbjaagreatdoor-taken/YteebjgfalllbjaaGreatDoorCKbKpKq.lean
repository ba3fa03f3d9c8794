import Derived.Test.YteebjgfalllbjaaGreatDoorCTjTmKa
import Derived.Test.YteebjgfalllbjaaGreatDoorCAqTiDz
import Derived.Test.YteebjgfalllbjaaGreatDoorCEaEbTn
import Derived.Test.YteebjgfalllbjaaGreatDoorCRpAlRs
import Derived.Test.YteebjgfalllbjaaGreatDoorCPaAs1Kd
import Derived.Deep.Cut
namespace Go.Proofs.YteebjgfalllbjaaGreatDoor
open Go.RowKit
/-- The types of an engine's blocks. -/
def EngU (t : TypeId) : Prop := t = 91 ∨ t = 179 ∨ t = 212 ∨ t = 176 ∨ t = 136 ∨ t = 140
def FU (w : World) (F : Nat → Prop) : Prop := ∀ b, F b → ∃ c t, w.heap[b]? = some (.cells c t (0, 0)) ∧ EngU t
theorem FU.ne {w : World} {F : Nat → Prop} (h : FU w F) {b : Nat} {c : Array Value} {t : TypeId} (hb : w.heap[b]? = some (.cells c t (0, 0))) (ht : ¬ EngU t) : ¬ F b := by
  intro hF
  obtain ⟨c', t', hc, hu⟩ := h b hF
  have := hb.symm.trans hc
  simp at this
  rw [this.2] at ht
  exact ht hu
/-- What is known of an engine's sagas and of the records of its journal. -/
structure ENp (n : Nat) (clock : Int) (L : List AS) (rs : List Rec) : Prop where
  n8 : 8 ≤ n
  n4 : n ≤ 400
  ck : 0 ≤ clock
  ok : RecsOk rs
  nd : needC rs ≤ n - 1
  zL : L.map AS.zero = recL rs
  tr : ∀ a ∈ L, 0 ≤ a.tries ∧ a.tries ≤ clock
section
variable {n : Nat} {clock : Int} {L : List AS} {rs : List Rec}
theorem ENp.so (h : ENp n clock L rs) : L.Pairwise (fun a b => a.id < b.id) := by
  have h1 := (recG h.ok).so
  rw [← h.zL, sorted_ids_iff, List.map_map] at h1
  exact sorted_ids_iff.2 h1
theorem ENp.mem (h : ENp n clock L rs) {a : AS} (ha : a ∈ L) : a.Ok clock ∧ sagaOk a.id a.st = true := by
  have h1 : a.zero ∈ recL rs := by rw [← h.zL]; exact List.mem_map.2 ⟨a, ha, rfl⟩
  have h2 := (recG h.ok).ok _ h1
  have h3 := h.tr a ha
  exact ⟨AS.zero_ok (h2.1.mono h.ck) h3.1 h3.2, h2.2.1⟩
theorem ENp.len (h : ENp n clock L rs) : L.length ≤ 200 ∧ rs.length + (L.map AS.left).sum ≤ n - 1 := by
  have h1 := recG h.ok
  have h2 : (recL rs).length = L.length := by rw [← h.zL, List.length_map]
  have h3 : (recL rs).map AS.left = L.map AS.left := by rw [← h.zL, List.map_map]; rfl
  have h4 := h1.ln
  have h5 := h1.lf
  have h6 := h.nd
  have h7 := h.n4
  rw [h3] at h5
  omega
theorem ENp.need (h : ENp n clock L rs) : (L.map fun a => 2 * a.st.length).sum = needC rs := by
  have h1 := (recG h.ok).nd
  rw [← h.zL, List.map_map] at h1
  exact h1
theorem ENp.add (h : ENp n clock L rs) {id : Int} {st : List SS} (hok : sagaOk id st = true) (hno : ∀ a ∈ L, a.id ≠ id) (hr : needC rs + 2 * st.length ≤ n - 1) : ENp n clock (insA (newA id st) L) (rs ++ [Rec.take id.toNat st]) := by
  obtain ⟨h1, h2, _⟩ := saga_of id st hok
  have hk : ((id.toNat : Nat) : Int) = id := by omega
  refine ⟨h.n8, h.n4, h.ck, recsOk_snoc.2 ⟨h.ok, ?_⟩, by rw [needC_snoc]; exact hr, ?_, ?_⟩
  · refine ⟨by rw [hk]; exact hok, ?_⟩
    intro a ha
    rw [← h.zL] at ha
    obtain ⟨b, hb, rfl⟩ := List.mem_map.1 ha
    rw [hk]
    exact hno b hb
  · rw [insA_zero, h.zL, recL_snoc]
    show insA (newA id st) (recL rs) = insA (newA ((id.toNat : Nat) : Int) st) (recL rs)
    rw [hk]
  · intro a ha
    rcases mem_insA.1 ha with rfl | ha
    · exact ⟨Int.le_refl _, h.ck⟩
    · exact h.tr a ha
theorem ENp.tick {cv : Value} (P : Ptn cv) (s0 : P.σ) (pause : Int) (h : ENp n clock L rs) : ENp n (clock + 1) (tickL P (clock + 1) pause L s0).1 (rs ++ (tickL P (clock + 1) pause L s0).2.2.map mvR) := by
  have hck := h.ck
  have h1 := tickL_recs P (clock + 1) pause L s0 [] rs (by simpa using h.so) (fun a ha => by have := saga_of _ _ (h.mem ha).2; omega) h.ok (by simpa using h.zL)
  have h2 := tickL_ok P (clock + 1) pause L s0 (fun a ha => by have := (h.mem ha).1; simpa using this) (by omega)
  refine ⟨h.n8, h.n4, by omega, h1.1, ?_, by simpa using h1.2, fun a ha => ⟨(h2.1 a ha).t0, (h2.1 a ha).t1⟩⟩
  have e : needC (rs ++ (tickL P (clock + 1) pause L s0).2.2.map mvR) = needC rs := by
    unfold needC
    rw [List.map_append, List.sum_append_nat, List.map_map]
    have : ∀ l : List (Nat × Nat), (l.map (Rec.need ∘ mvR)).sum = 0 := fun l => by
      induction l with
      | nil => rfl
      | cons m l ih => rw [List.map_cons, List.sum_cons, ih]; rfl
    rw [this]; rfl
  rw [e]; exact h.nd
end
/-- An engine, as it lies in memory. -/
structure ENw (w : World) (X J R V A B n base : Nat) (room clock pause calls writes : Int) (ev cv : Value) (es : List (Nat × AS)) (sb : Bool) (L : List AS) (rs : List Rec) (F : Nat → Prop) : Prop where
  E : ES w X J R V A B n base (rs.length + 1) room clock pause calls writes ev cv es sb (layB n (rs.map Rec.bytes))
  m : es.map (·.2) = L
  rm : room = (n : Int) - 1 - needC rs
  b : base ≤ w.heap.size
  f : ∀ c, EngF X J R V ev es c → F c
def EN (w : World) (s X A B n : Nat) (clock pause : Int) (cv : Value) (L : List AS) (rs : List Rec) (F : Nat → Prop) : Prop := ENp n clock L rs ∧ ∃ J R V base room ev es sb calls writes, (0 ≤ calls ∧ calls ≤ 1000 * (s : Int) ∧ 0 ≤ writes ∧ writes ≤ 1000 * (s : Int)) ∧ ENw w X J R V A B n base room clock pause calls writes ev cv es sb L rs F
section
variable {w w' : World} {s X A B n : Nat} {clock pause : Int} {cv : Value} {L : List AS} {rs : List Rec} {F : Nat → Prop}
theorem es_fu {J R V base e : Nat} {room calls writes : Int} {ev : Value} {es : List (Nat × AS)} {sb : Bool} {bs : List Value} (g : ES w X J R V A B n base e room clock pause calls writes ev cv es sb bs) : FU w (EngF X J R V ev es) := by
  rintro b (rfl | rfl | rfl | hb)
  · exact ⟨_, _, g.eng, .inl rfl⟩
  · exact ⟨_, _, g.jn.j, .inr (.inl rfl)⟩
  · exact ⟨_, _, g.jn.v, .inr (.inr (.inl rfl))⟩
  · obtain ⟨c, t, hc, ht⟩ := roll_f g.roll hb
    refine ⟨c, t, hc, ?_⟩
    rcases ht with rfl | rfl | rfl
    · exact .inr (.inr (.inr (.inl rfl)))
    · exact .inr (.inr (.inr (.inr (.inl rfl))))
    · exact .inr (.inr (.inr (.inr (.inr rfl))))
theorem ES.fr {S : Nat → Prop} {J R V base e : Nat} {room calls writes : Int} {ev : Value} {es : List (Nat × AS)} {sb : Bool} {bs : List Value} (g : ES w X J R V A B n base e room clock pause calls writes ev cv es sb bs) (hf : Fr S w w') (hA : ¬ S A) (hB : ¬ S B) (hF : ∀ b, EngF X J R V ev es b → ¬ S b) : ES w' X J R V A B n base e room clock pause calls writes ev cv es sb bs :=
  ⟨hf.keep g.eng (hF _ (.inl rfl)), g.roll.fr hf (fun _ hb => hF _ (.inr (.inr (.inr hb)))), g.jn.fr hf (hF _ (.inr (.inr (.inl rfl)))) hA hB (hF _ (.inr (.inl rfl)))⟩
theorem EN.fr {S : Nat → Prop} (h : EN w s X A B n clock pause cv L rs F) (hf : Fr S w w') (hA : ¬ S A) (hB : ¬ S B) (hF : ∀ b, F b → ¬ S b) : EN w' s X A B n clock pause cv L rs F := by
  obtain ⟨hp, J, R, V, base, room, ev, es, sb, calls, writes, hb, g⟩ := h
  exact ⟨hp, J, R, V, base, room, ev, es, sb, calls, writes, hb, g.E.fr hf hA hB (fun b hb => hF b (g.f b hb)), g.m, g.rm, Nat.le_trans g.b hf.size, g.f⟩
theorem EN.sta (h : EN w s X A B n clock pause cv L rs F) (id : Int) : Calls Tryz.prog 24 #[.pointer (some ⟨X, 0, none⟩), .int .i64 id] w fun e w' => StatA L id w e w' := by
  obtain ⟨hp, J, R, V, base, room, ev, es, sb, calls, writes, hb, g⟩ := h
  have hlen : es.length = L.length := by rw [← g.m, List.length_map]
  have hl := hp.len
  have := eStatus_ok g.E.eng g.E.roll (sorted_of g.m hp.so) (by omega) (fun p hp' => (hp.mem (mem_of_map g.m hp')).1.l6) id
  rwa [g.m] at this
/-- What Submit answers, and what is there then, on the disk too. -/
def SubC (L : List AS) (rs : List Rec) (id : Int) (st : List SS) (n : Nat) (k : Int) (L' : List AS) (rs' : List Rec) : Prop :=
  (sagaOk id st = false ∧ k = 1 ∧ L' = L ∧ rs' = rs) ∨ (sagaOk id st = true ∧ ∃ a ∈ L, a.id = id ∧ (k = if a.st = st then 0 else 2) ∧ L' = L ∧ rs' = rs) ∨
  (sagaOk id st = true ∧ (∀ a ∈ L, a.id ≠ id) ∧ ((k = 0 ∧ L' = insA (newA id st) L ∧ rs' = rs ++ [Rec.take id.toNat st]) ∨ (k = 3 ∧ n < 1 + (L.map fun a => 2 * a.st.length).sum + 2 * st.length ∧ L' = L ∧ rs' = rs)))
theorem EN.sub (h : EN w s X A B n clock pause cv L rs F) (hs : s < 60000) (id : Int) (st : List SS) {ao : Option Addr} (cap : Nat) (hrows : RowsOf w ao 2 (st.map stv)) (hao : sagaOk id st = true → ∃ g, ao = some ⟨g, 0, none⟩) :
    Calls Tryz.prog 21 #[.pointer (some ⟨X, 0, none⟩), .int .i64 id, .slice ao st.length cap] w fun e w' => ∃ v kk L' rs' F', e = .returned v ∧ ErrAt w' v kk ∧ SubC L rs id st n kk L' rs' ∧ (∀ b, F' b → F b ∨ w.heap.size ≤ b) ∧ FU w' F' ∧ EN w' (s + 1) X A B n clock pause cv L' rs' F' ∧ Fr (fun b => b = A ∨ b = B ∨ F b) w w' := by
  obtain ⟨hp, J, R, V, base, room, ev, es, sb, calls, writes, ⟨h3, h4, h5, h6⟩, gd⟩ := h
  have hlen : es.length = L.length := by rw [← gd.m, List.length_map]
  have hl := hp.len
  have n8 := hp.n8
  have n4 := hp.n4
  have hso := sorted_of gd.m hp.so
  have hes6 : ∀ p ∈ es, p.2.st.length ≤ 6 := fun p hp' => (hp.mem (mem_of_map gd.m hp')).1.l6
  -- where nothing is changed
  have stay : ∀ w', Fr (fun _ => False) w w' → (∀ b, EngF X J R V ev es b → F b ∨ w.heap.size ≤ b) ∧ FU w' (EngF X J R V ev es) ∧ EN w' (s + 1) X A B n clock pause cv L rs (EngF X J R V ev es) ∧ Fr (fun b => b = A ∨ b = B ∨ F b) w w' := by
    intro w' hf
    have gE := gd.E.frz hf
    exact ⟨fun b hb => .inl (gd.f b hb), es_fu gE, ⟨hp, J, R, V, base, room, ev, es, sb, calls, writes, ⟨h3, by push_cast; omega, h5, by push_cast; omega⟩, gE, gd.m, gd.rm, Nat.le_trans gd.b hf.size, fun b hb => hb⟩, hf.mono (fun _ _ h => h.elim)⟩
  by_cases hsok : sagaOk id st = true
  · obtain ⟨g, rfl⟩ := hao hsok
    obtain ⟨hid1, hid2, hn1, h6', h8'⟩ := saga_of id st hsok
    by_cases hin : ∃ p ∈ es, p.2.id = id
    · have HO := submit_old (sc := cap) gd.E.eng id st hrows gd.E.roll hso (by omega) hes6 hsok hin
      obtain ⟨p0, hp0, hid0⟩ := hin
      have huniq : ∀ p ∈ es, p.2.id = id → p = p0 := fun p hp hid => sorted_uniq hso hp hp0 (by omega)
      by_cases hst : p0.2.st = st
      · refine (eSubmit_nil (Q := fun w' => Fr (fun _ => False) w w') (HO.mono ?_)).mono ?_
        · rintro e w' ⟨p, hp, hid, rfl, hf⟩
          rw [huniq p hp hid, if_pos hst]
          exact ⟨rfl, hf⟩
        · rintro e w' ⟨rfl, hf⟩
          obtain ⟨s1, s2, s3, s4⟩ := stay w' hf
          exact ⟨_, 0, L, rs, _, rfl, .inl ⟨rfl, rfl⟩, .inr (.inl ⟨hsok, p0.2, mem_of_map gd.m hp0, hid0, by rw [if_pos hst], rfl, rfl⟩), s1, s2, s3, s4⟩
      · refine (eSubmit_err (k := 2) (by decide) (Q := fun w' => Fr (fun _ => False) w w') (HO.mono ?_)).mono ?_
        · rintro e w' ⟨p, hp, hid, rfl, hf⟩
          rw [huniq p hp hid, if_neg hst]
          exact ⟨rfl, hf⟩
        · rintro e w' ⟨v, w2, rfl, hv, hf2, hf⟩
          obtain ⟨s1, s2, s3, s4⟩ := stay w' (hf2.trans hf (fun _ _ h => h))
          exact ⟨v, 2, L, rs, _, rfl, hv, .inr (.inl ⟨hsok, p0.2, mem_of_map gd.m hp0, hid0, by rw [if_neg hst], rfl, rfl⟩), s1, s2, s3, s4⟩
    · have hno : ∀ p ∈ es, p.2.id ≠ id := fun p hp e => hin ⟨p, hp, e⟩
      have hnoL : ∀ a ∈ L, a.id ≠ id := by
        intro a ha
        rw [← gd.m] at ha
        obtain ⟨p, hp, rfl⟩ := List.mem_map.1 ha
        exact hno p hp
      have hrm := gd.rm
      have hnd := hp.nd
      by_cases hroom : 2 * (st.length : Int) ≤ room
      · have hkk : ((id.toNat : Nat) : Int) = id := by omega
        have hrecl : ∀ x ∈ rs.map Rec.bytes, x.length = 128 := fun x hx => (recs_bytes hp.ok x hx).1
        have hadd := hp.add hsok hnoL (by omega)
        have hlen2 := hadd.len
        rw [List.length_append, List.length_singleton] at hlen2
        have hrsl : rs.length + 1 < n := by
          have h9 := (recG hp.ok).lf
          omega
        obtain ⟨t1, t2, t3⟩ := roll_types gd.E.roll
        have hzz : ((layB n (rs.map Rec.bytes)).drop ((rs.length + 1) * 128)).take 128 = zB := layB_zero n _ hrecl (rs.length + 1) (by rw [List.length_map]; omega) (by omega)
        refine (eSubmit_nil (submit_new gd.E.eng id st hrows id.toNat hkk gd.E.jn h3 (by omega) h5 (by omega) (by omega) n4 hzz gd.E.dis (by omega) gd.b t1 t2 t3 gd.E.roll hso (by omega) hes6 hsok hno hroom)).mono ?_
        rintro e w' ⟨rfl, g', ev', hr', hg', hob, ⟨calls', writes', c1, c2, c3, c4, hj'⟩, he', hf'⟩
        have hmem : ∀ q ∈ insE (g', newA id st) es, q = (g', newA id st) ∨ q ∈ es := by
          intro q hq
          simp only [insE, List.mem_append, List.mem_cons] at hq
          rcases hq with h1 | h1 | h1
          · exact .inr (List.takeWhile_subset _ h1)
          · exact .inl h1
          · exact .inr (List.dropWhile_subset _ h1)
        have e0 : rs.length = (rs.map Rec.bytes).length := by rw [List.length_map]
        have hokn : sagaOk ((id.toNat : Nat) : Int) st = true := by rw [hkk]; exact hsok
        have hlay : splice (layB n (rs.map Rec.bytes)) ((rs.length + 1) * 128) (ldB 2 (bodyS id.toNat st.length (six st) 6) 4) = layB n ((rs ++ [Rec.take id.toNat st]).map Rec.bytes) := by
          have := layB_add n (rs.map Rec.bytes) (recB (id.toNat, st)) hrecl (recB_ok (p := (id.toNat, st)) hokn).1 (by rw [List.length_map]; omega)
          rw [List.length_map] at this
          rw [List.map_append]
          exact this
        have gE : ES w' X J R V A B n base ((rs ++ [Rec.take id.toNat st]).length + 1) (room - 2 * st.length) clock pause calls' writes' ev' cv (insE (g', newA id st) es) true (layB n ((rs ++ [Rec.take id.toNat st]).map Rec.bytes)) := by
          refine ⟨he', hr', ?_⟩
          rw [hlay] at hj'
          rw [List.length_append, List.length_singleton]
          push_cast at hj' ⊢
          exact hj'
        refine ⟨_, 0, _, _, EngF X J R V ev' (insE (g', newA id st) es), rfl, .inl ⟨rfl, rfl⟩, .inr (.inr ⟨hsok, hnoL, .inl ⟨rfl, rfl, rfl⟩⟩), ?_, es_fu gE, ⟨hadd, J, R, V, base, _, ev', _, true, calls', writes', ⟨by omega, by push_cast; omega, by omega, by push_cast; omega⟩, gE, ?_, ?_, Nat.le_trans gd.b hf'.size, fun b hb => hb⟩, ?_⟩
        · rintro b (h | h | h | h | h | ⟨q, hq, rfl⟩)
          · exact .inl (gd.f b (.inl h))
          · exact .inl (gd.f b (.inr (.inl h)))
          · exact .inl (gd.f b (.inr (.inr (.inl h))))
          · exact .inl (gd.f b (.inr (.inr (.inr (.inl h)))))
          · rcases hob b h with h | h
            · exact .inl (gd.f b (.inr (.inr (.inr (.inr (.inl h))))))
            · exact .inr h
          · rcases hmem q hq with rfl | hq
            · exact .inr hg'
            · exact .inl (gd.f _ (.inr (.inr (.inr (.inr (.inr ⟨q, hq, rfl⟩))))))
        · rw [insE_map, gd.m]
        · rw [needC_snoc, hrm]
          show (n : Int) - 1 - (needC rs : Nat) - 2 * (st.length : Int) = (n : Int) - 1 - ((needC rs + 2 * st.length : Nat) : Int)
          push_cast; omega
        · refine hf'.mono (fun b _ h => ?_)
          rcases h with h | h | h | h | h
          · exact .inl h
          · exact .inr (.inl h)
          · exact .inr (.inr (gd.f b (.inr (.inl h))))
          · exact .inr (.inr (gd.f b (.inr (.inr (.inr (.inl h))))))
          · exact .inr (.inr (gd.f b (.inr (.inr (.inr (.inr (.inl h)))))))
      · refine (eSubmit_err (k := 3) (by decide) (Q := fun w' => Fr (fun _ => False) w w') (submit_full gd.E.eng id st hrows gd.E.roll hso (by omega) hes6 hsok hno hroom)).mono ?_
        rintro e w' ⟨v, w2, rfl, hv, hf2, hf⟩
        obtain ⟨s1, s2, s3, s4⟩ := stay w' (hf2.trans hf (fun _ _ h => h))
        refine ⟨v, 3, L, rs, _, rfl, hv, .inr (.inr ⟨hsok, hnoL, .inr ⟨rfl, ?_, rfl, rfl⟩⟩), s1, s2, s3, s4⟩
        rw [hp.need]
        omega
  · have hbad : sagaOk id st = false := by simpa using hsok
    refine (eSubmit_err (k := 1) (by decide) (Q := fun w' => Fr (fun _ => False) w w') (submit_bad gd.E.eng id st hrows hbad)).mono ?_
    rintro e w' ⟨v, w2, rfl, hv, hf2, hf⟩
    obtain ⟨s1, s2, s3, s4⟩ := stay w' (hf2.trans hf (fun _ _ h => h))
    exact ⟨v, 1, L, rs, _, rfl, hv, .inl ⟨hbad, rfl, rfl, rfl⟩, s1, s2, s3, s4⟩
theorem EN.tick (P : Ptn cv) {s0 : P.σ} {F0 : Nat → Prop} (h : EN w s X A B n clock pause cv L rs F) (hs : s < 60000) (hp1 : 1 ≤ pause) (hp2 : pause ≤ 64) (hc1 : clock < 1000000) (hPA : P.PA s0 F0 w) (hsz : P.sz s0 + L.length ≤ 20000000) :
    Calls Tryz.prog 23 #[.pointer (some ⟨X, 0, none⟩)] w fun e w' => e = .returned .nilIface ∧ ∃ F', (∀ b, F' b → F b ∨ w.heap.size ≤ b) ∧ FU w' F' ∧ EN w' (s + 1) X A B n (clock + 1) pause cv (tickL P (clock + 1) pause L s0).1 (rs ++ (tickL P (clock + 1) pause L s0).2.2.map mvR) F' ∧ (∃ F0', P.PA (tickL P (clock + 1) pause L s0).2.1 F0' w' ∧ ∀ b, F0' b → F0 b ∨ w.heap.size ≤ b) ∧ Fr (fun b => b = A ∨ b = B ∨ F b ∨ F0 b) w w' := by
  obtain ⟨hp, J, R, V, base, room, ev, es, sb, calls, writes, ⟨h3, h4, h5, h6⟩, gd⟩ := h
  have hlen : es.length = L.length := by rw [← gd.m, List.length_map]
  have hl := hp.len
  have n8 := hp.n8
  have n4 := hp.n4
  have hso := sorted_of gd.m hp.so
  have hrecl : ∀ x ∈ rs.map Rec.bytes, x.length = 128 := fun x hx => (recs_bytes hp.ok x hx).1
  have E : ES w X J R V A B n base ((rs.map Rec.bytes).length + 1) room clock pause calls writes ev cv es sb (layB n (rs.map Rec.bytes)) := by rw [List.length_map]; exact gd.E
  have hm2 : (es.map (·.2)).map AS.left = L.map AS.left := by rw [gd.m]
  refine (eTick_nil (tick_ok P E hso (fun p hp' => (hp.mem (mem_of_map gd.m hp')).1) (fun p hp' => by have := saga_of _ _ (hp.mem (mem_of_map gd.m hp')).2; omega) hrecl (by rw [hm2, List.length_map]; omega) n4 (by omega) h3 (by omega) h5 (by omega) hp1 hp2 hp.ck hc1 hPA (by omega))).mono ?_
  rintro e w' ⟨rfl, es', calls', writes', sb', e1, e2, hE, ⟨b1, b2, b3, b4⟩, ⟨F0', hPA', hF0'⟩, hfr⟩
  rw [List.take_of_length_le (by rw [List.length_map]; omega), List.drop_of_length_le (by rw [List.length_map]; omega), List.append_nil] at e2
  rw [List.take_of_length_le (by rw [List.length_map]; omega), List.length_map] at hE
  rw [List.take_of_length_le (by rw [List.length_map]; omega)] at hPA'
  rw [gd.m] at e2 hE hPA'
  have hsx := sx_le sb
  have hsx' := sx_le sb'
  have hRF : ∀ b, RollF R ev es' b → RollF R ev es b := fun b hb => (rollF_fst e1 R ev b).1 hb
  have gE : ES w' X J R V A B n base ((rs ++ (tickL P (clock + 1) pause L s0).2.2.map mvR).length + 1) room (clock + 1) pause calls' writes' ev cv es' sb' (layB n ((rs ++ (tickL P (clock + 1) pause L s0).2.2.map mvR).map Rec.bytes)) := by
    rw [List.map_append, mvR_bytes, List.length_append, List.length_map]
    rw [show rs.length + (tickL P (clock + 1) pause L s0).2.2.length + 1 = rs.length + 1 + (tickL P (clock + 1) pause L s0).2.2.length by omega]
    exact hE
  refine ⟨rfl, EngF X J R V ev es', ?_, es_fu gE, ⟨hp.tick P s0 pause, J, R, V, base, room, ev, es', sb', calls', writes', ⟨by omega, ?_, by omega, ?_⟩, gE, e2, ?_, Nat.le_trans gd.b hfr.size, fun b hb => hb⟩, ⟨F0', hPA', hF0'⟩, ?_⟩
  · rintro b (h | h | h | h)
    · exact .inl (gd.f b (.inl h))
    · exact .inl (gd.f b (.inr (.inl h)))
    · exact .inl (gd.f b (.inr (.inr (.inl h))))
    · exact .inl (gd.f b (.inr (.inr (.inr (hRF b h)))))
  · push_cast; omega
  · push_cast; omega
  · rw [gd.rm, ← hp.need, ← (hp.tick P s0 pause).need]
    have e3 : (tickL P (clock + 1) pause L s0).1.map (fun a => 2 * a.st.length) = L.map (fun a => 2 * a.st.length) := by
      have h1 := tickL_sts P (clock + 1) pause L s0
      have h2 : ∀ l : List AS, l.map (fun a => 2 * a.st.length) = (l.map (·.st)).map (fun t => 2 * t.length) := fun l => by rw [List.map_map]; rfl
      rw [h2, h2, h1]
    rw [e3]
  · refine hfr.mono (fun b _ h => ?_)
    rcases h with h | h | h | h | h | h
    · exact .inr (.inr (.inl (gd.f b (.inl h))))
    · exact .inl h
    · exact .inr (.inl h)
    · exact .inr (.inr (.inl (gd.f b (.inr (.inl h)))))
    · exact .inr (.inr (.inr h))
    · exact .inr (.inr (.inl (gd.f b (.inr (.inr (.inr h))))))
end
end Go.Proofs.YteebjgfalllbjaaGreatDoor
namespace Go.Proofs.YteebjgfalllbjaaGreatDoor
open Go.RowKit
/-- What was done for a saga, in order: a step, and whether it was taken back. -/
def mine (id : Int) (eff : List CL) : List (Int × Bool) := (eff.filter (fun c => decide (c.saga = id))).map (fun c => (c.step, c.back))
def upL (k : Nat) : List (Int × Bool) := (List.range k).map fun i : Nat => ((i : Int) + 1, false)
def dnL (k j : Nat) : List (Int × Bool) := (List.range (k - j)).map fun i : Nat => ((k : Int) - i, true)
theorem upL_succ (k : Nat) : upL (k + 1) = upL k ++ [((k : Int) + 1, false)] := by simp [upL, List.range_succ]
theorem dnL_self (k : Nat) : dnL k k = [] := by simp [dnL]
theorem dnL_pred {k j : Nat} (h : j + 1 ≤ k) : dnL k j = dnL k (j + 1) ++ [((j : Int) + 1, true)] := by
  have e : k - j = (k - (j + 1)) + 1 := by omega
  rw [dnL, e, List.range_succ, List.map_append]
  simp only [dnL, List.map_cons, List.map_nil]
  congr 3
  omega
theorem mem_upL {k : Nat} {x : Int} {b : Bool} : (x, b) ∈ upL k ↔ b = false ∧ 1 ≤ x ∧ x ≤ k := by
  simp only [upL, List.mem_map, List.mem_range, Prod.mk.injEq]
  constructor
  · rintro ⟨i, hi, rfl, rfl⟩; exact ⟨rfl, by omega, by omega⟩
  · rintro ⟨rfl, h1, h2⟩; exact ⟨(x - 1).toNat, by omega, by omega, rfl⟩
theorem mem_dnL {k j : Nat} {x : Int} {b : Bool} : (x, b) ∈ dnL k j ↔ b = true ∧ (j : Int) < x ∧ x ≤ k := by
  simp only [dnL, List.mem_map, List.mem_range, Prod.mk.injEq]
  constructor
  · rintro ⟨i, hi, rfl, rfl⟩; exact ⟨rfl, by omega, by omega⟩
  · rintro ⟨rfl, h1, h2⟩; exact ⟨(k - x).toNat, by omega, by omega, rfl⟩
theorem mine_snoc (id : Int) (eff : List CL) (c : CL) : mine id (eff ++ [c]) = if c.saga = id then mine id eff ++ [(c.step, c.back)] else mine id eff := by
  unfold mine
  rw [List.filter_append, List.map_append]
  by_cases h : c.saga = id
  · rw [if_pos h, List.filter_cons_of_pos (by simpa using h)]; rfl
  · rw [if_neg h, List.filter_cons_of_neg (by simpa using h)]; simp
theorem any_mine (eff : List CL) (c : CL) : eff.any (·.same c) = decide ((c.step, c.back) ∈ mine c.saga eff) := by
  rw [Bool.eq_iff_iff, List.any_eq_true, decide_eq_true_eq]
  unfold mine
  rw [List.mem_map]
  constructor
  · rintro ⟨e, he, hs⟩
    have hs' : e.saga = c.saga ∧ e.step = c.step ∧ e.back = c.back := of_decide_eq_true hs
    exact ⟨e, List.mem_filter.2 ⟨he, by simpa using hs'.1⟩, by rw [hs'.2.1, hs'.2.2]⟩
  · rintro ⟨e, he, hs⟩
    obtain ⟨h1, h2⟩ := List.mem_filter.1 he
    simp only [Prod.mk.injEq] at hs
    exact ⟨e, h1, decide_eq_true ⟨by simpa using h2, hs.1, hs.2⟩⟩
/-- Steps up to k were done, and those above j of them taken back. -/
def Shape (m : List (Int × Bool)) (n k j : Nat) : Prop := m = upL k ++ dnL k j ∧ j ≤ k ∧ k ≤ n ∧ (j < k → k < n)
/-- How a saga stands, and what was done for it; was a step refused for good? -/
def EffI (a : AS) (m : List (Int × Bool)) (nv : Bool) : Prop :=
  (a.S.1 = 1 ∧ nv = false ∧ ∃ j : Nat, a.S.2 = (j : Int) + 1 ∧ j + 1 ≤ a.st.length ∧ (m = upL j ∨ m = upL (j + 1))) ∨
  (a.S.1 = 3 ∧ nv = false ∧ m = upL a.st.length) ∨
  (a.S.1 = 2 ∧ nv = true ∧ ∃ k j : Nat, a.S.2 = (j : Int) + 1 ∧ j + 1 ≤ k ∧ k < a.st.length ∧ (m = upL k ++ dnL k (j + 1) ∨ m = upL k ++ dnL k j)) ∨
  (a.S.1 = 4 ∧ nv = true ∧ ∃ k : Nat, k < a.st.length ∧ m = upL k ++ dnL k 0)
theorem EffI.shape {a : AS} {m : List (Int × Bool)} {nv : Bool} (h : EffI a m nv) : ∃ k j, Shape m a.st.length k j ∧ (a.S.1 = 3 → k = a.st.length ∧ j = k) ∧ (a.S.1 = 4 → j = 0 ∧ k < a.st.length) := by
  rcases h with ⟨h1, _, j, _, h2, h3⟩ | ⟨h1, _, h2⟩ | ⟨h1, _, k, j, _, h2, h3, h4⟩ | ⟨h1, _, k, h2, h3⟩
  · rcases h3 with h3 | h3
    · exact ⟨j, j, ⟨by rw [dnL_self, List.append_nil]; exact h3, Nat.le_refl _, by omega, by omega⟩, by omega, by omega⟩
    · exact ⟨j + 1, j + 1, ⟨by rw [dnL_self, List.append_nil]; exact h3, Nat.le_refl _, by omega, by omega⟩, by omega, by omega⟩
  · exact ⟨_, _, ⟨by rw [dnL_self, List.append_nil]; exact h2, Nat.le_refl _, Nat.le_refl _, by omega⟩, by omega, by omega⟩
  · rcases h4 with h4 | h4
    · exact ⟨k, j + 1, ⟨h4, by omega, by omega, by omega⟩, by omega, by omega⟩
    · exact ⟨k, j, ⟨h4, by omega, by omega, by omega⟩, by omega, by omega⟩
  · exact ⟨k, 0, ⟨h3, Nat.zero_le _, by omega, by omega⟩, by omega, by omega⟩
/-- One asking. -/
theorem EffI.step {a : AS} {m : List (Int × Bool)} {nv : Bool} (h : EffI a m nv) (ho : a.open) (kk ck pause : Int) :
    EffI (a.after (askR kk (decide ((a.asks.step, a.asks.back) ∈ m)) a.asks.back) ck pause) (if decide ((a.asks.step, a.asks.back) ∈ m) = true ∨ kk = 3 ∨ kk = 5 then m else m ++ [(a.asks.step, a.asks.back)]) (nv || decide (askR kk (decide ((a.asks.step, a.asks.back) ∈ m)) a.asks.back = 2)) := by
  obtain ⟨id, st, ⟨s1, s2⟩, tries, due⟩ := a
  have hs : s1 = 1 ∨ s1 = 2 := ho
  rcases hs with rfl | rfl
  · rcases h with ⟨_, h0, j, h1, h2, h3⟩ | ⟨h1, _⟩ | ⟨h1, _⟩ | ⟨h1, _⟩
    rotate_left
    · simp at h1
    · simp at h1
    · simp at h1
    have h1' : s2 = (j : Int) + 1 := h1
    have h2' : j + 1 ≤ st.length := h2
    subst h0 h1'
    have hb : (AS.asks ⟨id, st, (1, (j : Int) + 1), tries, due⟩).back = false := rfl
    have hst : (AS.asks ⟨id, st, (1, (j : Int) + 1), tries, due⟩).step = (j : Int) + 1 := rfl
    rw [hb, hst]
    -- behind a step that is done
    have go0 : EffI (AS.go ⟨id, st, (1, (j : Int) + 1), tries, due⟩ (0 : Nat)) (upL (j + 1)) false := by
      by_cases hl : j + 1 = st.length
      · refine .inr (.inl ⟨?_, rfl, by rw [hl]; rfl⟩)
        simp [AS.go, AS.next, show ((j : Int) + 1 = st.length) by omega]
      · refine .inl ⟨?_, rfl, j + 1, ?_, ?_, .inl rfl⟩
        · simp [AS.go, AS.next, show ¬ ((j : Int) + 1 = st.length) by omega]
        · simp [AS.go, AS.next, show ¬ ((j : Int) + 1 = st.length) by omega]
        · show j + 1 + 1 ≤ st.length; omega
    have vn : ∀ m', m' = upL j ∨ m' = upL (j + 1) → EffI (AS.vain ⟨id, st, (1, (j : Int) + 1), tries, due⟩ ck pause) m' false := fun m' hm => .inl ⟨rfl, rfl, j, rfl, h2, hm⟩
    have mv0 : (AS.moves ⟨id, st, (1, (j : Int) + 1), tries, due⟩ (0 : Nat)) = true := by simp [AS.moves]
    have mv1 : ¬ (AS.moves ⟨id, st, (1, (j : Int) + 1), tries, due⟩ (1 : Nat)) = true := by simp [AS.moves]
    have mv2 : (AS.moves ⟨id, st, (1, (j : Int) + 1), tries, due⟩ (2 : Nat)) = true := by simp [AS.moves]
    by_cases hd : ((j : Int) + 1, false) ∈ m
    · have hm : m = upL (j + 1) := by
        rcases h3 with h3 | h3
        · rw [h3, mem_upL] at hd; omega
        · exact h3
      rw [decide_eq_true hd, if_pos (Or.inl rfl)]
      by_cases h34 : kk = 3 ∨ kk = 4
      · have e : askR kk true false = 1 := by simp [askR, h34]
        rw [e, AS.after, if_neg mv1]
        exact vn m (.inr hm)
      · have e : askR kk true false = 0 := by simp [askR, h34]
        rw [e, AS.after, if_pos mv0, hm]
        exact go0
    · have hm : m = upL j := by
        rcases h3 with h3 | h3
        · exact h3
        · exact absurd (by rw [h3, mem_upL]; exact ⟨rfl, by omega, by push_cast; omega⟩) hd
      rw [decide_eq_false hd]
      by_cases k3 : kk = 3
      · have e : askR kk false false = 1 := by simp [askR, k3]
        rw [e, AS.after, if_neg mv1, if_pos (.inr (.inl k3))]
        exact vn m (.inl hm)
      · by_cases k5 : kk = 5
        · have e : askR kk false false = 2 := by simp [askR, k5]
          rw [e, AS.after, if_pos mv2, if_pos (.inr (.inr k5)), hm]
          rcases Nat.eq_zero_or_pos j with rfl | hj
          · refine .inr (.inr (.inr ⟨?_, rfl, 0, by show 0 < st.length; omega, by simp [upL, dnL]⟩))
            simp [AS.go, AS.next, backS]
          · refine .inr (.inr (.inl ⟨?_, rfl, j, j - 1, ?_, by omega, by show j < st.length; omega, .inl ?_⟩))
            · simp [AS.go, AS.next, backS, show ¬ ((j : Int) + 1 = 1) by omega]
            · simp [AS.go, AS.next, backS, show ¬ ((j : Int) + 1 = 1) by omega]; omega
            · rw [show j - 1 + 1 = j by omega, dnL_self, List.append_nil]
        · rw [if_neg (by simp [k3, k5]), hm, ← upL_succ]
          by_cases k4 : kk = 4
          · have e : askR kk false false = 1 := by simp [askR, k4]
            rw [e, AS.after, if_neg mv1]
            exact vn _ (.inr rfl)
          · have e : askR kk false false = 0 := by simp [askR, k3, k4, k5]
            rw [e, AS.after, if_pos mv0]
            exact go0
  · rcases h with ⟨h1, _⟩ | ⟨h1, _⟩ | ⟨_, h0, k, j, h1, h2, h3, h4⟩ | ⟨h1, _⟩
    · simp at h1
    · simp at h1
    rotate_left
    · simp at h1
    have h1' : s2 = (j : Int) + 1 := h1
    have h3' : k < st.length := h3
    subst h0 h1'
    have hb : (AS.asks ⟨id, st, (2, (j : Int) + 1), tries, due⟩).back = true := rfl
    have hst : (AS.asks ⟨id, st, (2, (j : Int) + 1), tries, due⟩).step = (j : Int) + 1 := rfl
    rw [hb, hst, Bool.true_or]
    have go0 : EffI (AS.go ⟨id, st, (2, (j : Int) + 1), tries, due⟩ (0 : Nat)) (upL k ++ dnL k j) true := by
      rcases Nat.eq_zero_or_pos j with rfl | hj
      · refine .inr (.inr (.inr ⟨?_, rfl, k, h3', rfl⟩))
        simp [AS.go, AS.next, backS]
      · refine .inr (.inr (.inl ⟨?_, rfl, k, j - 1, ?_, by omega, h3', .inl (by rw [show j - 1 + 1 = j by omega])⟩))
        · simp [AS.go, AS.next, backS, show ¬ ((j : Int) + 1 = 1) by omega]
        · simp [AS.go, AS.next, backS, show ¬ ((j : Int) + 1 = 1) by omega]; omega
    have vn : ∀ m', m' = upL k ++ dnL k (j + 1) ∨ m' = upL k ++ dnL k j → EffI (AS.vain ⟨id, st, (2, (j : Int) + 1), tries, due⟩ ck pause) m' true := fun m' hm => .inr (.inr (.inl ⟨rfl, rfl, k, j, rfl, h2, h3, hm⟩))
    have mv0 : (AS.moves ⟨id, st, (2, (j : Int) + 1), tries, due⟩ (0 : Nat)) = true := by simp [AS.moves]
    have mv1 : ¬ (AS.moves ⟨id, st, (2, (j : Int) + 1), tries, due⟩ (1 : Nat)) = true := by simp [AS.moves]
    by_cases hd : ((j : Int) + 1, true) ∈ m
    · have hm : m = upL k ++ dnL k j := by
        rcases h4 with h4 | h4
        · rw [h4, List.mem_append, mem_upL, mem_dnL] at hd
          rcases hd with ⟨h, _⟩ | ⟨_, h, _⟩
          · cases h
          · push_cast at h; omega
        · exact h4
      rw [decide_eq_true hd, if_pos (Or.inl rfl)]
      by_cases h34 : kk = 3 ∨ kk = 4
      · have e : askR kk true true = 1 := by simp [askR, h34]
        rw [e, AS.after, if_neg mv1]
        exact vn m (.inr hm)
      · have e : askR kk true true = 0 := by simp [askR, h34]
        rw [e, AS.after, if_pos mv0, hm]
        exact go0
    · have hm : m = upL k ++ dnL k (j + 1) := by
        rcases h4 with h4 | h4
        · exact h4
        · exact absurd (by rw [h4, List.mem_append, mem_dnL]; exact .inr ⟨rfl, by omega, by omega⟩) hd
      rw [decide_eq_false hd]
      by_cases k3 : kk = 3
      · have e : askR kk false true = 1 := by simp [askR, k3]
        rw [e, AS.after, if_neg mv1, if_pos (.inr (.inl k3))]
        exact vn m (.inl hm)
      · by_cases k5 : kk = 5
        · have e : askR kk false true = 1 := by simp [askR, k5]
          rw [e, AS.after, if_neg mv1, if_pos (.inr (.inr k5))]
          exact vn m (.inl hm)
        · have hm2 : m ++ [((j : Int) + 1, true)] = upL k ++ dnL k j := by rw [hm, dnL_pred h2, List.append_assoc]
          rw [if_neg (by simp [k3, k5]), hm2]
          by_cases k4 : kk = 4
          · have e : askR kk false true = 1 := by simp [askR, k4]
            rw [e, AS.after, if_neg mv1]
            exact vn _ (.inr rfl)
          · have e : askR kk false true = 0 := by simp [askR, k3, k4, k5]
            rw [e, AS.after, if_pos mv0]
            exact go0
end Go.Proofs.YteebjgfalllbjaaGreatDoor
namespace Go.Proofs.YteebjgfalllbjaaGreatDoor
open Go.RowKit
def rlOf (r : List Int) (Z : Nat) : List Int := r ++ List.replicate Z 0
section
variable {Pp b0 Z : Nat} {r : List Int} (H : AskOk Pp b0 (rlOf r Z)) {ck pause : Int}
theorem tickOne_eff {a : AS} {s : PSt} {nv : Bool} (he : EffI a (mine a.id s.eff) nv) :
    let T := tickOne (ptn H) ck pause a s
    (∃ nv', EffI T.1 (mine a.id (PSt.eff T.2.1)) nv' ∧ (nv' = true ↔ nv = true ∨ ∃ p ∈ (PSt.log T.2.1).drop s.log.length, p.2 = 2)) ∧ (∀ id, id ≠ a.id → mine id (PSt.eff T.2.1) = mine id s.eff) ∧ ∃ x, PSt.log T.2.1 = s.log ++ x := by
  intro T
  have hT : T = tickOne (ptn H) ck pause a s := rfl
  clear_value T
  unfold tickOne at hT
  by_cases hd : a.open ∧ a.due ≤ ck
  · rw [if_pos hd] at hT
    have hask : (ptn H).ask s a.asks = pAsk (rlOf r Z) s a.asks := rfl
    rw [hask] at hT
    obtain ⟨k, hk⟩ : ∃ k, k = kOf (rlOf r Z) s.at' := ⟨_, rfl⟩
    have hsg : a.asks.saga = a.id := rfl
    have hany : s.eff.any (·.same a.asks) = decide ((a.asks.step, a.asks.back) ∈ mine a.id s.eff) := by rw [any_mine, hsg]
    have hst := he.step hd.1 k ck pause
    obtain ⟨q, hq⟩ : ∃ q, q = askR k (decide ((a.asks.step, a.asks.back) ∈ mine a.id s.eff)) a.asks.back := ⟨_, rfl⟩
    have e1 : (pAsk (rlOf r Z) s a.asks).1 = q := by rw [hq, hk, ← hany]; rfl
    have e2 : PSt.eff (pAsk (rlOf r Z) s a.asks).2 = askE k (s.eff.any (·.same a.asks)) s.eff a.asks := by rw [hk]; rfl
    have e3 : PSt.log (pAsk (rlOf r Z) s a.asks).2 = s.log ++ [(a.asks, q)] := by rw [hq, hk, ← hany]; rfl
    rw [e1] at hT
    have g1 : T.1 = a.after q ck pause := by rw [hT]
    have g2 : T.2.1 = (pAsk (rlOf r Z) s a.asks).2 := by rw [hT]
    rw [g1, g2, e2, e3, hany]
    rw [← hq] at hst
    refine ⟨⟨nv || decide (q = 2), ?_, ?_⟩, ?_, _, rfl⟩
    · have : mine a.id (askE k (decide ((a.asks.step, a.asks.back) ∈ mine a.id s.eff)) s.eff a.asks) = if decide ((a.asks.step, a.asks.back) ∈ mine a.id s.eff) = true ∨ k = 3 ∨ k = 5 then mine a.id s.eff else mine a.id s.eff ++ [(a.asks.step, a.asks.back)] := by
        unfold askE
        split
        · rfl
        · rw [mine_snoc, if_pos hsg]
      rw [this]
      exact hst
    · rw [List.drop_left, Bool.or_eq_true, decide_eq_true_eq]
      simp
    · intro id hid
      unfold askE
      split
      · rfl
      · rw [mine_snoc, if_neg (by rw [hsg]; exact fun e => hid e.symm)]
  · rw [if_neg hd] at hT
    subst hT
    exact ⟨⟨nv, he, by simp⟩, fun _ _ => rfl, [], by simp⟩
theorem tickL_eff : ∀ (L : List AS) (s : PSt), L.Pairwise (fun a b => a.id < b.id) → (∀ a ∈ L, ∃ nv, EffI a (mine a.id s.eff) nv) →
    (∀ b ∈ (tickL (ptn H) ck pause L s).1, ∃ nv, EffI b (mine b.id (PSt.eff (tickL (ptn H) ck pause L s).2.1)) nv) ∧ ∀ id, (∀ a ∈ L, a.id ≠ id) → mine id (PSt.eff (tickL (ptn H) ck pause L s).2.1) = mine id s.eff := by
  intro L
  induction L with
  | nil => intro s _ _; exact ⟨(fun b hb => by cases hb), fun _ _ => rfl⟩
  | cons a l ih =>
    intro s hs he
    rw [List.pairwise_cons] at hs
    obtain ⟨nv, hnv⟩ := he a (by simp)
    obtain ⟨⟨nv', t1, _⟩, t2, _⟩ := tickOne_eff H (ck := ck) (pause := pause) hnv
    obtain ⟨T, hT⟩ : ∃ T, T = tickOne (ptn H) ck pause a s := ⟨_, rfl⟩
    have hid : T.1.id = a.id := by rw [hT]; exact (tickOne_id (ptn H) ck pause a s).1
    rw [← hT] at t1 t2
    obtain ⟨i1, i2⟩ := ih T.2.1 hs.2 (fun b hb => by
      obtain ⟨n2, h2⟩ := he b (by simp [hb])
      exact ⟨n2, by rw [t2 b.id (by have := hs.1 b hb; omega)]; exact h2⟩)
    have e : tickL (ptn H) ck pause (a :: l) s = (T.1 :: (tickL (ptn H) ck pause l T.2.1).1, (tickL (ptn H) ck pause l T.2.1).2.1, T.2.2 ++ (tickL (ptn H) ck pause l T.2.1).2.2) := by rw [hT]; rfl
    rw [e]
    refine ⟨fun b hb => ?_, fun id hid' => ?_⟩
    · rcases List.mem_cons.1 hb with rfl | hb
      · exact ⟨nv', by rw [hid, i2 a.id (fun b hb => by have := hs.1 b hb; omega)]; exact t1⟩
      · exact i1 b hb
    · rw [i2 id (fun b hb => hid' b (by simp [hb])), t2 id (fun e => hid' a (by simp) e.symm)]
end
end Go.Proofs.YteebjgfalllbjaaGreatDoor
