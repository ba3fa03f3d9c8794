import Derived.Deep.MidRow
import Derived.Maps.AppendAt
import Derived.Test.YteebjgfalllbjaaGreatDoorCAlRsIn
import Derived.Test.YteebjgfalllbjaaGreatDoorCSaSvDv
import Derived.Test.YteebjgfalllbjaaGreatDoorCTjTmKa
import Derived.Test.YteebjgfalllbjaaGreatDoorCAqTiDz
import Derived.Maps.OwnIn
namespace Go.Proofs.YteebjgfalllbjaaGreatDoor
open Go.RowKit Go.Shelf
attribute [local go_sem] Oper.semAt_some
section
variable {F : Fence} {n : Nat} {P : Program} {ops : Array Oper} {rest : List Oper} {op : Oper} {a : Act} {w w' : World} {Q : Exit → Act → World → Prop}
end
def sts (es : List (Nat × AS)) : List ST := es.map fun p => p.2.told
end Go.Proofs.YteebjgfalllbjaaGreatDoor
namespace Go.Proofs.YteebjgfalllbjaaGreatDoor
open Go.RowKit
section
variable {w : World} {Q : World → Prop}
set_option maxRecDepth 100000 in
theorem eTick_nil {X : Nat} (h : Calls Tryz.prog 43 #[.pointer (some ⟨X, 0, none⟩)] w fun e w' => e = .returned .nilIface ∧ Q w') :
  Calls Tryz.prog 23 #[.pointer (some ⟨X, 0, none⟩)] w fun e w' => e = .returned .nilIface ∧ Q w' := by
 go_enter Tryz.func23, Tryz.ntmps23
 go_wp2_with fail
 refine h.mono ?_
 rintro e w2 ⟨rfl, hQ⟩
 go_wp2_with fail
 refine (wrapped_nil _ _).mono ?_
 rintro e w3 ⟨rfl, rfl⟩
 have HQ : Hid (Q w3) := hQ
 clear hQ
 go_wp2
 go_ret
 exact ⟨rfl, HQ.out⟩
end
end Go.Proofs.YteebjgfalllbjaaGreatDoor
namespace Go.Proofs.YteebjgfalllbjaaGreatDoor
open Go.RowKit
def EngU (t : TypeId) : Prop := t = 91 ∨ t = 179 ∨ t = 212 ∨ t = 176 ∨ t = 136 ∨ t = 140
def FU (w : World) (F : Nat → Prop) : Prop := ∀ b, F b → ∃ c t, w.heap[b]? = some (.cells c t (0, 0)) ∧ EngU t
theorem FU.ne {w : World} {F : Nat → Prop} (h : FU w F) {b : Nat} {c : Array Value} {t : TypeId} (hb : w.heap[b]? = some (.cells c t (0, 0))) (ht : ¬ EngU t) : ¬ F b := by
 intro hF
 obtain ⟨c', t', hc, hu⟩ := h b hF
 have := hb.symm.trans hc
 simp at this
 rw [this.2] at ht
 exact ht hu
structure ENp (n : Nat) (clock : Int) (L : List AS) (rs : List Rec) : Prop where
 n8 : 8 ≤ n
 n4 : n ≤ 400
 ck : 0 ≤ clock
 ok : RecsOk rs
 nd : needC rs ≤ n - 1
 zL : L.map AS.zero = recL rs
 tr : ∀ a ∈ L, 0 ≤ a.tries ∧ a.tries ≤ clock
section
variable {n : Nat} {clock : Int} {L : List AS} {rs : List Rec}
theorem ENp.so (h : ENp n clock L rs) : L.Pairwise (fun a b => a.id < b.id) := by
 have h1 := (recG h.ok).so
 rw [← h.zL, sorted_ids_iff, List.map_map] at h1
 exact sorted_ids_iff.2 h1
theorem ENp.mem (h : ENp n clock L rs) {a : AS} (ha : a ∈ L) : a.Ok clock ∧ sagaOk a.id a.st = true := by
 have h1 : a.zero ∈ recL rs := by rw [← h.zL]; exact List.mem_map.2 ⟨a, ha, rfl⟩
 have h2 := (recG h.ok).ok _ h1
 have h3 := h.tr a ha
 exact ⟨AS.zero_ok (h2.1.mono h.ck) h3.1 h3.2, h2.2.1⟩
theorem ENp.len (h : ENp n clock L rs) : L.length ≤ 200 ∧ rs.length + (L.map AS.left).sum ≤ n - 1 := by
 have h1 := recG h.ok
 have h2 : (recL rs).length = L.length := by rw [← h.zL, List.length_map]
 have h3 : (recL rs).map AS.left = L.map AS.left := by rw [← h.zL, List.map_map]; rfl
 have h4 := h1.ln
 have h5 := h1.lf
 have h6 := h.nd
 have h7 := h.n4
 rw [h3] at h5
 omega
theorem ENp.need (h : ENp n clock L rs) : (L.map fun a => 2 * a.st.length).sum = needC rs := by
 have h1 := (recG h.ok).nd
 rw [← h.zL, List.map_map] at h1
 exact h1
theorem ENp.add (h : ENp n clock L rs) {id : Int} {st : List SS} (hok : sagaOk id st = true) (hno : ∀ a ∈ L, a.id ≠ id) (hr : needC rs + 2 * st.length ≤ n - 1) : ENp n clock (insA (newA id st) L) (rs ++ [Rec.take id.toNat st]) := by
 obtain ⟨h1, h2, _⟩ := saga_of id st hok
 have hk : ((id.toNat : Nat) : Int) = id := by omega
 refine ⟨h.n8, h.n4, h.ck, recsOk_snoc.2 ⟨h.ok, ?_⟩, by rw [needC_snoc]; exact hr, ?_, ?_⟩
 ·refine ⟨by rw [hk]; exact hok, ?_⟩
  intro a ha
  rw [← h.zL] at ha
  obtain ⟨b, hb, rfl⟩ := List.mem_map.1 ha
  rw [hk]
  exact hno b hb
 ·rw [insA_zero, h.zL, recL_snoc]
  show insA (newA id st) (recL rs) = insA (newA ((id.toNat : Nat) : Int) st) (recL rs)
  rw [hk]
 ·intro a ha
  rcases mem_insA.1 ha with rfl | ha
  ·exact ⟨Int.le_refl _, h.ck⟩
  ·exact h.tr a ha
theorem ENp.tick {cv : Value} (P : Ptn cv) (s0 : P.σ) (pause : Int) (h : ENp n clock L rs) : ENp n (clock + 1) (tickL P (clock + 1) pause L s0).1 (rs ++ (tickL P (clock + 1) pause L s0).2.2.map mvR) := by
 have hck := h.ck
 have h1 := tickL_recs P (clock + 1) pause L s0 [] rs (by simpa using h.so) (fun a ha => by have := saga_of _ _ (h.mem ha).2; omega) h.ok (by simpa using h.zL)
 have h2 := tickL_ok P (clock + 1) pause L s0 (fun a ha => by have := (h.mem ha).1; simpa using this) (by omega)
 refine ⟨h.n8, h.n4, by omega, h1.1, ?_, by simpa using h1.2, fun a ha => ⟨(h2.1 a ha).t0, (h2.1 a ha).t1⟩⟩
 have e : needC (rs ++ (tickL P (clock + 1) pause L s0).2.2.map mvR) = needC rs := by
  unfold needC
  rw [List.map_append, List.sum_append_nat, List.map_map]
  have : ∀ l : List (Nat × Nat), (l.map (Rec.need ∘ mvR)).sum = 0 := fun l => by
   induction l with
   | nil => rfl
   | cons m l ih => rw [List.map_cons, List.sum_cons, ih]; rfl
  rw [this]; rfl
 rw [e]; exact h.nd
end
structure ENw (w : World) (X J R V A B n base : Nat) (room clock pause calls writes : Int) (ev cv : Value) (es : List (Nat × AS)) (sb : Bool) (L : List AS) (rs : List Rec) (F : Nat → Prop) : Prop where
 E : ES w X J R V A B n base (rs.length + 1) room clock pause calls writes ev cv es sb (layB n (rs.map Rec.bytes))
 m : es.map (·.2) = L
 rm : room = (n : Int) - 1 - needC rs
 b : base ≤ w.heap.size
 f : ∀ c, EngF X J R V ev es c → F c
def EN (w : World) (s X A B n : Nat) (clock pause : Int) (cv : Value) (L : List AS) (rs : List Rec) (F : Nat → Prop) : Prop := ENp n clock L rs ∧ ∃ J R V base room ev es sb calls writes, (0 ≤ calls ∧ calls ≤ 1000 * (s : Int) ∧ 0 ≤ writes ∧ writes ≤ 1000 * (s : Int)) ∧ ENw w X J R V A B n base room clock pause calls writes ev cv es sb L rs F
section
variable {w w' : World} {s X A B n : Nat} {clock pause : Int} {cv : Value} {L : List AS} {rs : List Rec} {F : Nat → Prop}
theorem es_fu {J R V base e : Nat} {room calls writes : Int} {ev : Value} {es : List (Nat × AS)} {sb : Bool} {bs : List Value} (g : ES w X J R V A B n base e room clock pause calls writes ev cv es sb bs) : FU w (EngF X J R V ev es) := by
 rintro b (rfl | rfl | rfl | hb)
 ·exact ⟨_, _, g.eng, .inl rfl⟩
 ·exact ⟨_, _, g.jn.j, .inr (.inl rfl)⟩
 ·exact ⟨_, _, g.jn.v, .inr (.inr (.inl rfl))⟩
 ·obtain ⟨c, t, hc, ht⟩ := roll_f g.roll hb
  refine ⟨c, t, hc, ?_⟩
  rcases ht with rfl | rfl | rfl
  ·exact .inr (.inr (.inr (.inl rfl)))
  ·exact .inr (.inr (.inr (.inr (.inl rfl))))
  ·exact .inr (.inr (.inr (.inr (.inr rfl))))
theorem ES.fr {S : Nat → Prop} {J R V base e : Nat} {room calls writes : Int} {ev : Value} {es : List (Nat × AS)} {sb : Bool} {bs : List Value} (g : ES w X J R V A B n base e room clock pause calls writes ev cv es sb bs) (hf : Fr S w w') (hA : ¬ S A) (hB : ¬ S B) (hF : ∀ b, EngF X J R V ev es b → ¬ S b) : ES w' X J R V A B n base e room clock pause calls writes ev cv es sb bs :=
 ⟨hf.keep g.eng (hF _ (.inl rfl)), g.roll.fr hf (fun _ hb => hF _ (.inr (.inr (.inr hb)))), g.jn.fr hf (hF _ (.inr (.inr (.inl rfl)))) hA hB (hF _ (.inr (.inl rfl)))⟩
theorem EN.fr {S : Nat → Prop} (h : EN w s X A B n clock pause cv L rs F) (hf : Fr S w w') (hA : ¬ S A) (hB : ¬ S B) (hF : ∀ b, F b → ¬ S b) : EN w' s X A B n clock pause cv L rs F := by
 obtain ⟨hp, J, R, V, base, room, ev, es, sb, calls, writes, hb, g⟩ := h
 exact ⟨hp, J, R, V, base, room, ev, es, sb, calls, writes, hb, g.E.fr hf hA hB (fun b hb => hF b (g.f b hb)), g.m, g.rm, Nat.le_trans g.b hf.size, g.f⟩
theorem EN.sta (h : EN w s X A B n clock pause cv L rs F) (id : Int) : Calls Tryz.prog 24 #[.pointer (some ⟨X, 0, none⟩), .int .i64 id] w fun e w' => StatA L id w e w' := by
 obtain ⟨hp, J, R, V, base, room, ev, es, sb, calls, writes, hb, g⟩ := h
 have hlen : es.length = L.length := by rw [← g.m, List.length_map]
 have hl := hp.len
 have := eStatus_ok g.E.eng g.E.roll (sorted_of g.m hp.so) (by omega) (fun p hp' => (hp.mem (mem_of_map g.m hp')).1.l6) id
 rwa [g.m] at this
def SubC (L : List AS) (rs : List Rec) (id : Int) (st : List SS) (n : Nat) (k : Int) (L' : List AS) (rs' : List Rec) : Prop :=
 (sagaOk id st = false ∧ k = 1 ∧ L' = L ∧ rs' = rs) ∨ (sagaOk id st = true ∧ ∃ a ∈ L, a.id = id ∧ (k = if a.st = st then 0 else 2) ∧ L' = L ∧ rs' = rs) ∨
 (sagaOk id st = true ∧ (∀ a ∈ L, a.id ≠ id) ∧ ((k = 0 ∧ L' = insA (newA id st) L ∧ rs' = rs ++ [Rec.take id.toNat st]) ∨ (k = 3 ∧ n < 1 + (L.map fun a => 2 * a.st.length).sum + 2 * st.length ∧ L' = L ∧ rs' = rs)))
theorem EN.sub (h : EN w s X A B n clock pause cv L rs F) (hs : s < 60000) (id : Int) (st : List SS) {ao : Option Addr} (cap : Nat) (hrows : RowsOf w ao 2 (st.map stv)) (hao : sagaOk id st = true → ∃ g, ao = some ⟨g, 0, none⟩) :
  Calls Tryz.prog 21 #[.pointer (some ⟨X, 0, none⟩), .int .i64 id, .slice ao st.length cap] w fun e w' => ∃ v kk L' rs' F', e = .returned v ∧ ErrAt w' v kk ∧ SubC L rs id st n kk L' rs' ∧ (∀ b, F' b → F b ∨ w.heap.size ≤ b) ∧ FU w' F' ∧ EN w' (s + 1) X A B n clock pause cv L' rs' F' ∧ Fr (fun b => b = A ∨ b = B ∨ F b) w w' := by
 obtain ⟨hp, J, R, V, base, room, ev, es, sb, calls, writes, ⟨h3, h4, h5, h6⟩, gd⟩ := h
 have hlen : es.length = L.length := by rw [← gd.m, List.length_map]
 have hl := hp.len
 have n8 := hp.n8
 have n4 := hp.n4
 have hso := sorted_of gd.m hp.so
 have hes6 : ∀ p ∈ es, p.2.st.length ≤ 6 := fun p hp' => (hp.mem (mem_of_map gd.m hp')).1.l6
 -- where nothing is changed
 have stay : ∀ w', Fr (fun _ => False) w w' → (∀ b, EngF X J R V ev es b → F b ∨ w.heap.size ≤ b) ∧ FU w' (EngF X J R V ev es) ∧ EN w' (s + 1) X A B n clock pause cv L rs (EngF X J R V ev es) ∧ Fr (fun b => b = A ∨ b = B ∨ F b) w w' := by
  intro w' hf
  have gE := gd.E.frz hf
  exact ⟨fun b hb => .inl (gd.f b hb), es_fu gE, ⟨hp, J, R, V, base, room, ev, es, sb, calls, writes, ⟨h3, by push_cast; omega, h5, by push_cast; omega⟩, gE, gd.m, gd.rm, Nat.le_trans gd.b hf.size, fun b hb => hb⟩, hf.mono (fun _ _ h => h.elim)⟩
 by_cases hsok : sagaOk id st = true
 ·obtain ⟨g, rfl⟩ := hao hsok
  obtain ⟨hid1, hid2, hn1, h6', h8'⟩ := saga_of id st hsok
  by_cases hin : ∃ p ∈ es, p.2.id = id
  ·have HO := submit_old (sc := cap) gd.E.eng id st hrows gd.E.roll hso (by omega) hes6 hsok hin
   obtain ⟨p0, hp0, hid0⟩ := hin
   have huniq : ∀ p ∈ es, p.2.id = id → p = p0 := fun p hp hid => sorted_uniq hso hp hp0 (by omega)
   by_cases hst : p0.2.st = st
   ·refine (eSubmit_nil (Q := fun w' => Fr (fun _ => False) w w') (HO.mono ?_)).mono ?_
    ·rintro e w' ⟨p, hp, hid, rfl, hf⟩
     rw [huniq p hp hid, if_pos hst]
     exact ⟨rfl, hf⟩
    ·rintro e w' ⟨rfl, hf⟩
     obtain ⟨s1, s2, s3, s4⟩ := stay w' hf
     exact ⟨_, 0, L, rs, _, rfl, .inl ⟨rfl, rfl⟩, .inr (.inl ⟨hsok, p0.2, mem_of_map gd.m hp0, hid0, by rw [if_pos hst], rfl, rfl⟩), s1, s2, s3, s4⟩
   ·refine (eSubmit_err (k := 2) (by decide) (Q := fun w' => Fr (fun _ => False) w w') (HO.mono ?_)).mono ?_
    ·rintro e w' ⟨p, hp, hid, rfl, hf⟩
     rw [huniq p hp hid, if_neg hst]
     exact ⟨rfl, hf⟩
    ·rintro e w' ⟨v, w2, rfl, hv, hf2, hf⟩
     obtain ⟨s1, s2, s3, s4⟩ := stay w' (hf2.trans hf (fun _ _ h => h))
     exact ⟨v, 2, L, rs, _, rfl, hv, .inr (.inl ⟨hsok, p0.2, mem_of_map gd.m hp0, hid0, by rw [if_neg hst], rfl, rfl⟩), s1, s2, s3, s4⟩
  ·have hno : ∀ p ∈ es, p.2.id ≠ id := fun p hp e => hin ⟨p, hp, e⟩
   have hnoL : ∀ a ∈ L, a.id ≠ id := by
    intro a ha
    rw [← gd.m] at ha
    obtain ⟨p, hp, rfl⟩ := List.mem_map.1 ha
    exact hno p hp
   have hrm := gd.rm
   have hnd := hp.nd
   by_cases hroom : 2 * (st.length : Int) ≤ room
   ·have hkk : ((id.toNat : Nat) : Int) = id := by omega
    have hrecl : ∀ x ∈ rs.map Rec.bytes, x.length = 128 := fun x hx => (recs_bytes hp.ok x hx).1
    have hadd := hp.add hsok hnoL (by omega)
    have hlen2 := hadd.len
    rw [List.length_append, List.length_singleton] at hlen2
    have hrsl : rs.length + 1 < n := by
     have h9 := (recG hp.ok).lf
     omega
    obtain ⟨t1, t2, t3⟩ := roll_types gd.E.roll
    have hzz : ((layB n (rs.map Rec.bytes)).drop ((rs.length + 1) * 128)).take 128 = zB := layB_zero n _ hrecl (rs.length + 1) (by rw [List.length_map]; omega) (by omega)
    refine (eSubmit_nil (submit_new gd.E.eng id st hrows id.toNat hkk gd.E.jn h3 (by omega) h5 (by omega) (by omega) n4 hzz gd.E.dis (by omega) gd.b t1 t2 t3 gd.E.roll hso (by omega) hes6 hsok hno hroom)).mono ?_
    rintro e w' ⟨rfl, g', ev', hr', hg', hob, ⟨calls', writes', c1, c2, c3, c4, hj'⟩, he', hf'⟩
    have hmem : ∀ q ∈ insE (g', newA id st) es, q = (g', newA id st) ∨ q ∈ es := by
     intro q hq
     simp only [insE, List.mem_append, List.mem_cons] at hq
     rcases hq with h1 | h1 | h1
     ·exact .inr (List.takeWhile_subset _ h1)
     ·exact .inl h1
     ·exact .inr (List.dropWhile_subset _ h1)
    have e0 : rs.length = (rs.map Rec.bytes).length := by rw [List.length_map]
    have hokn : sagaOk ((id.toNat : Nat) : Int) st = true := by rw [hkk]; exact hsok
    have hlay : splice (layB n (rs.map Rec.bytes)) ((rs.length + 1) * 128) (ldB 2 (bodyS id.toNat st.length (six st) 6) 4) = layB n ((rs ++ [Rec.take id.toNat st]).map Rec.bytes) := by
     have := layB_add n (rs.map Rec.bytes) (recB (id.toNat, st)) hrecl (recB_ok (p := (id.toNat, st)) hokn).1 (by rw [List.length_map]; omega)
     rw [List.length_map] at this
     rw [List.map_append]
     exact this
    have gE : ES w' X J R V A B n base ((rs ++ [Rec.take id.toNat st]).length + 1) (room - 2 * st.length) clock pause calls' writes' ev' cv (insE (g', newA id st) es) true (layB n ((rs ++ [Rec.take id.toNat st]).map Rec.bytes)) := by
     refine ⟨he', hr', ?_⟩
     rw [hlay] at hj'
     rw [List.length_append, List.length_singleton]
     push_cast at hj' ⊢
     exact hj'
    refine ⟨_, 0, _, _, EngF X J R V ev' (insE (g', newA id st) es), rfl, .inl ⟨rfl, rfl⟩, .inr (.inr ⟨hsok, hnoL, .inl ⟨rfl, rfl, rfl⟩⟩), ?_, es_fu gE, ⟨hadd, J, R, V, base, _, ev', _, true, calls', writes', ⟨by omega, by push_cast; omega, by omega, by push_cast; omega⟩, gE, ?_, ?_, Nat.le_trans gd.b hf'.size, fun b hb => hb⟩, ?_⟩
    ·rintro b (h | h | h | h | h | ⟨q, hq, rfl⟩)
     ·exact .inl (gd.f b (.inl h))
     ·exact .inl (gd.f b (.inr (.inl h)))
     ·exact .inl (gd.f b (.inr (.inr (.inl h))))
     ·exact .inl (gd.f b (.inr (.inr (.inr (.inl h)))))
     ·rcases hob b h with h | h
      ·exact .inl (gd.f b (.inr (.inr (.inr (.inr (.inl h))))))
      ·exact .inr h
     ·rcases hmem q hq with rfl | hq
      ·exact .inr hg'
      ·exact .inl (gd.f _ (.inr (.inr (.inr (.inr (.inr ⟨q, hq, rfl⟩))))))
    ·rw [insE_map, gd.m]
    ·rw [needC_snoc, hrm]
     show (n : Int) - 1 - (needC rs : Nat) - 2 * (st.length : Int) = (n : Int) - 1 - ((needC rs + 2 * st.length : Nat) : Int)
     push_cast; omega
    ·refine hf'.mono (fun b _ h => ?_)
     rcases h with h | h | h | h | h
     ·exact .inl h
     ·exact .inr (.inl h)
     ·exact .inr (.inr (gd.f b (.inr (.inl h))))
     ·exact .inr (.inr (gd.f b (.inr (.inr (.inr (.inl h))))))
     ·exact .inr (.inr (gd.f b (.inr (.inr (.inr (.inr (.inl h)))))))
   ·refine (eSubmit_err (k := 3) (by decide) (Q := fun w' => Fr (fun _ => False) w w') (submit_full gd.E.eng id st hrows gd.E.roll hso (by omega) hes6 hsok hno hroom)).mono ?_
    rintro e w' ⟨v, w2, rfl, hv, hf2, hf⟩
    obtain ⟨s1, s2, s3, s4⟩ := stay w' (hf2.trans hf (fun _ _ h => h))
    refine ⟨v, 3, L, rs, _, rfl, hv, .inr (.inr ⟨hsok, hnoL, .inr ⟨rfl, ?_, rfl, rfl⟩⟩), s1, s2, s3, s4⟩
    rw [hp.need]
    omega
 ·have hbad : sagaOk id st = false := by simpa using hsok
  refine (eSubmit_err (k := 1) (by decide) (Q := fun w' => Fr (fun _ => False) w w') (submit_bad gd.E.eng id st hrows hbad)).mono ?_
  rintro e w' ⟨v, w2, rfl, hv, hf2, hf⟩
  obtain ⟨s1, s2, s3, s4⟩ := stay w' (hf2.trans hf (fun _ _ h => h))
  exact ⟨v, 1, L, rs, _, rfl, hv, .inl ⟨hbad, rfl, rfl, rfl⟩, s1, s2, s3, s4⟩
theorem EN.tick (P : Ptn cv) {s0 : P.σ} {F0 : Nat → Prop} (h : EN w s X A B n clock pause cv L rs F) (hs : s < 60000) (hp1 : 1 ≤ pause) (hp2 : pause ≤ 64) (hc1 : clock < 1000000) (hPA : P.PA s0 F0 w) (hsz : P.sz s0 + L.length ≤ 20000000) :
  Calls Tryz.prog 23 #[.pointer (some ⟨X, 0, none⟩)] w fun e w' => e = .returned .nilIface ∧ ∃ F', (∀ b, F' b → F b ∨ w.heap.size ≤ b) ∧ FU w' F' ∧ EN w' (s + 1) X A B n (clock + 1) pause cv (tickL P (clock + 1) pause L s0).1 (rs ++ (tickL P (clock + 1) pause L s0).2.2.map mvR) F' ∧ (∃ F0', P.PA (tickL P (clock + 1) pause L s0).2.1 F0' w' ∧ ∀ b, F0' b → F0 b ∨ w.heap.size ≤ b) ∧ Fr (fun b => b = A ∨ b = B ∨ F b ∨ F0 b) w w' := by
 obtain ⟨hp, J, R, V, base, room, ev, es, sb, calls, writes, ⟨h3, h4, h5, h6⟩, gd⟩ := h
 have hlen : es.length = L.length := by rw [← gd.m, List.length_map]
 have hl := hp.len
 have n8 := hp.n8
 have n4 := hp.n4
 have hso := sorted_of gd.m hp.so
 have hrecl : ∀ x ∈ rs.map Rec.bytes, x.length = 128 := fun x hx => (recs_bytes hp.ok x hx).1
 have E : ES w X J R V A B n base ((rs.map Rec.bytes).length + 1) room clock pause calls writes ev cv es sb (layB n (rs.map Rec.bytes)) := by rw [List.length_map]; exact gd.E
 have hm2 : (es.map (·.2)).map AS.left = L.map AS.left := by rw [gd.m]
 refine (eTick_nil (tick_ok P E hso (fun p hp' => (hp.mem (mem_of_map gd.m hp')).1) (fun p hp' => by have := saga_of _ _ (hp.mem (mem_of_map gd.m hp')).2; omega) hrecl (by rw [hm2, List.length_map]; omega) n4 (by omega) h3 (by omega) h5 (by omega) hp1 hp2 hp.ck hc1 hPA (by omega))).mono ?_
 rintro e w' ⟨rfl, es', calls', writes', sb', e1, e2, hE, ⟨b1, b2, b3, b4⟩, ⟨F0', hPA', hF0'⟩, hfr⟩
 rw [List.take_of_length_le (by rw [List.length_map]; omega), List.drop_of_length_le (by rw [List.length_map]; omega), List.append_nil] at e2
 rw [List.take_of_length_le (by rw [List.length_map]; omega), List.length_map] at hE
 rw [List.take_of_length_le (by rw [List.length_map]; omega)] at hPA'
 rw [gd.m] at e2 hE hPA'
 have hsx := sx_le sb
 have hsx' := sx_le sb'
 have hRF : ∀ b, RollF R ev es' b → RollF R ev es b := fun b hb => (rollF_fst e1 R ev b).1 hb
 have gE : ES w' X J R V A B n base ((rs ++ (tickL P (clock + 1) pause L s0).2.2.map mvR).length + 1) room (clock + 1) pause calls' writes' ev cv es' sb' (layB n ((rs ++ (tickL P (clock + 1) pause L s0).2.2.map mvR).map Rec.bytes)) := by
  rw [List.map_append, mvR_bytes, List.length_append, List.length_map]
  rw [show rs.length + (tickL P (clock + 1) pause L s0).2.2.length + 1 = rs.length + 1 + (tickL P (clock + 1) pause L s0).2.2.length by omega]
  exact hE
 refine ⟨rfl, EngF X J R V ev es', ?_, es_fu gE, ⟨hp.tick P s0 pause, J, R, V, base, room, ev, es', sb', calls', writes', ⟨by omega, ?_, by omega, ?_⟩, gE, e2, ?_, Nat.le_trans gd.b hfr.size, fun b hb => hb⟩, ⟨F0', hPA', hF0'⟩, ?_⟩
 ·rintro b (h | h | h | h)
  ·exact .inl (gd.f b (.inl h))
  ·exact .inl (gd.f b (.inr (.inl h)))
  ·exact .inl (gd.f b (.inr (.inr (.inl h))))
  ·exact .inl (gd.f b (.inr (.inr (.inr (hRF b h)))))
 ·push_cast; omega
 ·push_cast; omega
 ·rw [gd.rm, ← hp.need, ← (hp.tick P s0 pause).need]
  have e3 : (tickL P (clock + 1) pause L s0).1.map (fun a => 2 * a.st.length) = L.map (fun a => 2 * a.st.length) := by
   have h1 := tickL_sts P (clock + 1) pause L s0
   have h2 : ∀ l : List AS, l.map (fun a => 2 * a.st.length) = (l.map (·.st)).map (fun t => 2 * t.length) := fun l => by rw [List.map_map]; rfl
   rw [h2, h2, h1]
  rw [e3]
 ·refine hfr.mono (fun b _ h => ?_)
  rcases h with h | h | h | h | h | h
  ·exact .inr (.inr (.inl (gd.f b (.inl h))))
  ·exact .inl h
  ·exact .inr (.inl h)
  ·exact .inr (.inr (.inl (gd.f b (.inr (.inl h)))))
  ·exact .inr (.inr (.inr h))
  ·exact .inr (.inr (.inl (gd.f b (.inr (.inr (.inr h))))))
end
end Go.Proofs.YteebjgfalllbjaaGreatDoor
