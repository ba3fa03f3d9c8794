import Derived.Test.YteebjgfalllbjaaGreatDoorCZxNaNb
import Derived.Test.YteebjgfalllbjaaGreatDoorCKfKgZv
namespace Go.Proofs.YteebjgfalllbjaaGreatDoor
open Go.RowKit
def RP2 (rs : List Rec) (n s0 R i : Nat) (W : World) : Prop := ∃ ev es, RollAt W R s0 ((n : Int) - 1 - needC (rs.take i)) ev es ∧ es.map (·.2) = recL (rs.take i) ∧ (∀ b, RollF R ev es b → b = R ∨ R + 7 ≤ b) ∧ R + 7 ≤ W.heap.size
theorem rp2_0 {rs : List Rec} {n s0 R : Nat} {W : World} (hroll : W.heap[R]? = some (.cells #[.slice none 0 0, .int .i64 ((n : Int) - 1)] 176 (0, 0))) (hsz : R + 7 ≤ W.heap.size) : RP2 rs n s0 R 0 W := by
 refine ⟨.slice none 0 0, [], ⟨?_, World.ownsRow_nil _ _ _ _, by simp⟩, by simp [recL], ?_, hsz⟩
 ·simpa [needC] using hroll
 ·rintro b (h | h | ⟨q, hq, _⟩)
  ·exact .inl h
  ·cases h
  ·cases hq
theorem recs_take {rs : List Rec} (h : RecsOk rs) (i : Nat) : RecsOk (rs.take i) := by
 intro j r hj
 have hl := (List.getElem?_eq_some_iff.1 hj).1
 rw [List.length_take] at hl
 rw [List.getElem?_take_of_lt (by omega)] at hj
 have := h j r hj
 rwa [List.take_take, show min j i = j from by omega]
theorem needC_take {rs : List Rec} (i : Nat) : needC (rs.take i) ≤ needC rs := by
 rw [needC, needC, ← List.take_append_drop i rs, List.map_append, List.sum_append_nat, List.take_append_drop]
 omega
theorem take_snoc {α : Type} {rs : List α} {i : Nat} {p : α} (hp : rs[i]? = some p) : rs.take (i + 1) = rs.take i ++ [p] := by rw [List.take_add_one, hp]; rfl
theorem hand2 {rs : List Rec} {n s0 R i : Nat} {r : List Value} {W : World} (n8 : 8 ≤ n) (hn4 : n ≤ 400) (hnd : needC rs ≤ n - 1) (hok : RecsOk rs) (hsR : s0 ≤ R) (hr : (rs.map Rec.bytes)[i]? = some r) (hRP : RP2 rs n s0 R i W)
  (h3 : W.heap[R + 2]? = some (.cells #[.func (.func 63) #[.pointer (some ⟨R, 0, none⟩)] #[]] 127 (0, 0))) (h4 : W.heap[R + 3]? = some (.cells #[.func (.func 76) #[.pointer (some ⟨R, 0, none⟩)] #[]] 162 (0, 0))) :
  Calls Tryz.prog 115 #[.agg r.toArray, .pointer (some ⟨R + 2, 0, none⟩), .pointer (some ⟨R + 3, 0, none⟩)] W fun e w' => e = .returned (.bool true) ∧ RP2 rs n s0 R (i + 1) w' ∧ Fr (fun b => b = R ∨ R + 7 ≤ b) W w' := by
 rw [List.getElem?_map] at hr
 obtain ⟨p, hp, rfl⟩ := Option.map_eq_some_iff.1 hr
 obtain ⟨ev, es, hra, hm, hF, hsz⟩ := hRP
 have hpo := hok i p hp
 have hg := recG (recs_take hok i)
 have hts := take_snoc hp
 have hnt := needC_take (rs := rs) (i + 1)
 rw [hts, needC_snoc] at hnt
 have hes : es.length = (recL (rs.take i)).length := by rw [← hm, List.length_map]
 have hln := hg.ln
 have hso := sorted_of hm hg.so
 have hFo : ∀ b, ev.ownBlock = some b → b = R ∨ R + 7 ≤ b := fun b hb => hF b (.inr (.inl hb))
 cases p with
 | take id st =>
  obtain ⟨hokp, hno⟩ := hpo
  obtain ⟨_, _, _, h6, h8⟩ := saga_of id st hokp
  have hnoid : ∀ q ∈ es, q.2.id ≠ (id : Int) := fun q hq => hno q.2 (mem_of_map hm hq)
  refine (Find11_ok (Q := fun w'' => RP2 rs n s0 R (i + 1) w'' ∧ Fr (fun b => b = R ∨ R + 7 ≤ b) W w'') id st hokp h3 h4 (fun w' hf' => ?_)).mono (fun e w' h => h)
  have hr' := hra.frz hf'
  obtain ⟨t1, t2, t3⟩ := roll_types hr'
  have hsz' := hf'.size
  have hnd2 : needC (rs.take i) + 2 * st.length ≤ needC rs := hnt
  refine (Take_ok hr' hso (by omega) (id : Int) st h6 hnoid (by omega) (by omega) (by omega) t1 t2 t3).mono ?_
  rintro e w'' ⟨g, ev', rfl, hrT, hgT, hfT, hob⟩
  refine ⟨rfl, ⟨ev', insE (g, newA id st) es, ?_, ?_, ?_, by have := hfT.size; omega⟩, ?_⟩
  ·have e2 : (n : Int) - 1 - (needC (rs.take (i + 1)) : Nat) = (n : Int) - 1 - (needC (rs.take i) : Nat) - 2 * st.length := by
    rw [hts, needC_snoc]
    show (n : Int) - 1 - ((needC (rs.take i) + 2 * st.length : Nat) : Int) = _
    push_cast; omega
   rw [e2]
   exact hrT
  ·rw [insE_map, hm, hts, recL_snoc]
   rfl
  ·rintro b (h | h | ⟨q, hq, rfl⟩)
   ·exact .inl h
   ·rcases hob b h with h | h
    ·exact hFo b h
    ·exact .inr (by omega)
   ·have hmem : q = (g, newA id st) ∨ q ∈ es := by
     simp only [insE, List.mem_append, List.mem_cons] at hq
     rcases hq with h1 | h1 | h1
     ·exact .inr (List.takeWhile_subset _ h1)
     ·exact .inl h1
     ·exact .inr (List.dropWhile_subset _ h1)
    rcases hmem with rfl | hqe
    ·exact .inr (by show R + 7 ≤ g; omega)
    ·exact hF _ (.inr (.inr ⟨q, hqe, rfl⟩))
  ·exact (hf'.mono (fun _ _ h => h.elim)).trans hfT (fun b _ h => by
    rcases h with h | h
    ·exact .inl h
    ·exact hFo b h)
 | move id m =>
  obtain ⟨hm2, hid, a, ha, hai, hao, ham⟩ := hpo
  refine (Find11M_ok (Q := fun w'' => RP2 rs n s0 R (i + 1) w'' ∧ Fr (fun b => b = R ∨ R + 7 ≤ b) W w'') id m hid hm2 h3 h4 (fun w' hf' => ?_)).mono (fun e w' h => h)
  have hr' := hra.frz hf'
  have hsz' := hf'.size
  rw [← hm] at ha
  obtain ⟨q, hq, rfl⟩ := List.mem_map.1 ha
  rw [← hai]
  refine (rMove_ok hr' hso (by omega) (ck := 0) (fun z hz => (hg.ok z.2 (mem_of_map hm hz)).1) hq (m : Int) hao ham).mono ?_
  rintro e w'' ⟨rfl, hrT, hfT⟩
  have hqF := hF q.1 (.inr (.inr ⟨q, hq, rfl⟩))
  refine ⟨rfl, ⟨ev, mapE es q.2.id (·.go m), ?_, ?_, ?_, by have := hfT.size; omega⟩, ?_⟩
  ·have e2 : needC (rs.take (i + 1)) = needC (rs.take i) := by rw [hts, needC_snoc]; rfl
   rw [e2]
   exact hrT
  ·rw [mapE_snd, hm, hts, recL_snoc, hai]
   rfl
  ·rintro b (h | h | ⟨z, hz, rfl⟩)
   ·exact .inl h
   ·exact hFo b h
   ·have h1 : z.1 ∈ (mapE es q.2.id (·.go m)).map (·.1) := List.mem_map.2 ⟨z, hz, rfl⟩
    rw [mapE_fst] at h1
    obtain ⟨y, hy, hy2⟩ := List.mem_map.1 h1
    exact hF _ (.inr (.inr ⟨y, hy, hy2.symm⟩))
  ·exact (hf'.mono (fun _ _ h => h.elim)).trans hfT (fun b _ h => by rw [h]; exact hqF)
section
variable {w : World} {A B n Pp : Nat} {calls writes : Int}
end
end Go.Proofs.YteebjgfalllbjaaGreatDoor
namespace Go.Proofs.YteebjgfalllbjaaGreatDoor
open Go.RowKit
section
variable {w w' : World} {k X A B n : Nat} {clock pause : Int} {cv : Value} {L : List AS} {rs : List Rec} {s : DS} {C F : Nat → Prop}
theorem map_snoc_bytes (rs : List Rec) (r : Rec) : (rs ++ [r]).map Rec.bytes = rs.map Rec.bytes ++ [r.bytes] := by simp
def SubF (k X A B n : Nat) (clock pause : Int) (cv : Value) (L : List AS) (rs : List Rec) (s s' : DS) (C' F' : Nat → Prop) (id : Int) (st : List SS) (w' : World) (v : Value) : Prop :=
 ErrT w' v ∧ ¬ s.d.good ∧ sagaOk id st = true ∧ (∀ a ∈ L, a.id ≠ id) ∧ ENp n clock (insA (newA id st) L) (rs ++ [Rec.take id.toNat st]) ∧ ((JD n s' (rs.map Rec.bytes) ∧ (JZ n s (rs.map Rec.bytes) → JZ n s' (rs.map Rec.bytes))) ∨ JD n s' ((rs ++ [Rec.take id.toNat st]).map Rec.bytes)) ∧ DG w' (k + 1) A B n s' C' ∧ ED w' X n clock pause cv L rs F'
theorem EG.sub (h : EG w k X A B n clock pause cv L rs s C F) (hk : k < 60000) (HI : rs.length + 1 < n → ItH (rs.length + 1)) (hG : GOk w) (id : Int) (st : List SS) {ao : Option Addr} (cap : Nat) (hrows : RowsOf w ao 2 (st.map stv)) (hao : sagaOk id st = true → ∃ g, ao = some ⟨g, 0, none⟩) :
  Calls Tryz.prog 21 #[.pointer (some ⟨X, 0, none⟩), .int .i64 id, .slice ao st.length cap] w fun e w' => ∃ v s' C' F', e = .returned v ∧ (∀ b, C' b → C b ∨ w.heap.size ≤ b) ∧ (∀ b, F' b → F b ∨ w.heap.size ≤ b) ∧ Moved 4 s.d s'.d ∧ Fr (fun b => b = A ∨ b = B ∨ C b ∨ F b) w w' ∧
   ((∃ kk L' rs', ErrAt w' v kk ∧ SubC L rs id st n kk L' rs' ∧ FU w' F' ∧ EG w' (k + 1) X A B n clock pause cv L' rs' s' C' F' ∧ ((rs' ≠ rs → JSet n s' (rs'.map Rec.bytes)) ∧ (rs' = rs → s' = s))) ∨ SubF k X A B n clock pause cv L rs s s' C' F' id st w' v) := by
 obtain ⟨hp, hbd, hjd, J, R, V, base, dbase, room, ev, cache, es, sb, hsb, gd, hC⟩ := h
 have hlen : es.length = L.length := by rw [← gd.m, List.length_map]
 have hl := hp.len
 have n8 := hp.n8
 have n4 := hp.n4
 have hso := sorted_of gd.m hp.so
 have hes6 : ∀ p ∈ es, p.2.st.length ≤ 6 := fun p hp' => (hp.mem (mem_of_map gd.m hp')).1.l6
 have hq := hbd.q (by omega)
 have hbd1 : Bd (k + 1) s := hbd.mono (by omega)
 -- where nothing is changed
 have stay : ∀ w', Fr (fun _ => False) w w' → FU w' (EngF X J R V ev es) ∧ EG w' (k + 1) X A B n clock pause cv L rs s C (EngF X J R V ev es) ∧ Fr (fun b => b = A ∨ b = B ∨ C b ∨ F b) w w' := by
  intro w' hf
  have gE := gd.frz hf
  exact ⟨gE.fu, ⟨hp, hbd1, hjd, J, R, V, base, dbase, room, ev, cache, es, sb, hsb, ⟨gE.eng, gE.roll, gE.jn, gE.hi, gE.m, gE.rm, gE.b, fun b hb => hb⟩, hC⟩, hf.mono (fun _ _ h => h.elim)⟩
 have hm0 : Moved 4 s.d s.d := (Moved.refl _).mono (by decide)
 have hFF : ∀ b, EngF X J R V ev es b → F b ∨ w.heap.size ≤ b := fun b hb => .inl (gd.f b hb)
 by_cases hsok : sagaOk id st = true
 ·obtain ⟨g, rfl⟩ := hao hsok
  obtain ⟨hid1, hid2, hn1, h6', h8'⟩ := saga_of id st hsok
  by_cases hin : ∃ p ∈ es, p.2.id = id
  ·have HO := submit_old (sc := cap) gd.eng id st hrows gd.roll hso (by omega) hes6 hsok hin
   obtain ⟨p0, hp0, hid0⟩ := hin
   have huniq : ∀ p ∈ es, p.2.id = id → p = p0 := fun p hp hid => sorted_uniq hso hp hp0 (by omega)
   by_cases hst : p0.2.st = st
   ·refine (eSubmit_nil (Q := fun w' => Fr (fun _ => False) w w') (HO.mono ?_)).mono ?_
    ·rintro e w' ⟨p, hp, hid, rfl, hf⟩
     rw [huniq p hp hid, if_pos hst]
     exact ⟨rfl, hf⟩
    ·rintro e w' ⟨rfl, hf⟩
     obtain ⟨s2, s3, s4⟩ := stay w' hf
     exact ⟨_, s, C, _, rfl, fun _ h => .inl h, hFF, hm0, s4, .inl ⟨0, L, rs, .inl ⟨rfl, rfl⟩, .inr (.inl ⟨hsok, p0.2, mem_of_map gd.m hp0, hid0, by rw [if_pos hst], rfl, rfl⟩), s2, s3, ⟨fun h => absurd rfl h, fun _ => rfl⟩⟩⟩
   ·refine (eSubmit_err (k := 2) (by decide) (Q := fun w' => Fr (fun _ => False) w w') (HO.mono ?_)).mono ?_
    ·rintro e w' ⟨p, hp, hid, rfl, hf⟩
     rw [huniq p hp hid, if_neg hst]
     exact ⟨rfl, hf⟩
    ·rintro e w' ⟨v, w2, rfl, hv, hf2, hf⟩
     obtain ⟨s2, s3, s4⟩ := stay w' (hf2.trans hf (fun _ _ h => h))
     exact ⟨v, s, C, _, rfl, fun _ h => .inl h, hFF, hm0, s4, .inl ⟨2, L, rs, hv, .inr (.inl ⟨hsok, p0.2, mem_of_map gd.m hp0, hid0, by rw [if_neg hst], rfl, rfl⟩), s2, s3, ⟨fun h => absurd rfl h, fun _ => rfl⟩⟩⟩
  ·have hno : ∀ p ∈ es, p.2.id ≠ id := fun p hp e => hin ⟨p, hp, e⟩
   have hnoL : ∀ a ∈ L, a.id ≠ id := by
    intro a ha
    rw [← gd.m] at ha
    obtain ⟨p, hp, rfl⟩ := List.mem_map.1 ha
    exact hno p hp
   have hrm := gd.rm
   have hnd := hp.nd
   by_cases hroom : 2 * (st.length : Int) ≤ room
   ·have hkk : ((id.toNat : Nat) : Int) = id := by omega
    have hadd := hp.add hsok hnoL (by omega)
    have hrsl : rs.length + 1 < n := by
     have h9 := (recG hp.ok).lf
     omega
    have hbl : (rs.map Rec.bytes).length = rs.length := List.length_map _
    have hokn : sagaOk ((id.toNat : Nat) : Int) st = true := by rw [hkk]; exact hsok
    have hrok : RecU (Rec.take id.toNat st).bytes := ⟨recB_ok (p := (id.toNat, st)) hokn, take_u8 hokn⟩
    have hsj := settle_jd hjd hsb (by rw [hbl]; exact hrsl)
    have haj := add_jd hjd hsb (by rw [hbl]; exact hrsl) hrok
    rw [hbl] at hsj haj
    have hq2 : (settleD sb s (rs.length + 1)).2.d.Q := (hbd.moved hsj.1 (by decide) (by omega)).q (by omega)
    obtain ⟨t1, t2, t3⟩ := roll_types gd.roll
    have hel := hbd.e
    have SG := submit_gen (sc := cap) gd.eng id st hrows id.toNat hkk gd.jn gd.hi hq hq2 (by omega) hrsl n4 (HI hrsl) hG gd.dis (by omega) gd.b t1 t2 t3 gd.roll hso (by omega) hes6 hsok hno hroom
    have eB : ldB 2 (bodyS id.toNat st.length (six st) 6) 4 = (Rec.take id.toNat st).bytes := rfl
    rw [eB] at SG
    obtain ⟨aD, HAD⟩ : ∃ aD, aD = addD sb s (rs.length + 1) (Rec.take id.toNat st).bytes := ⟨_, rfl⟩
    rw [← HAD] at SG haj
    obtain ⟨m1, m2, m3, m4, m5⟩ := haj
    have hbd' := hbd.moved m1 (by decide) m3
    refine (eSubmit_tr (Q := fun v w' => ∃ cache', DSAt w' A B n dbase cache' aD.2 ∧ CB w cache cache' ∧ VolAt w' V A n ∧ Fr (fun b => JnF A B J cache b ∨ b = R ∨ ev.ownBlock = some b ∨ b = X) w w' ∧ Sel aD.1
     (v = .nilIface ∧ EngAt w' X J R clock pause cv ∧ JAt w' J V (((rs.length + 1 : Nat) : Int) + 1) true ∧ ∃ g' ev', RollAt w' R base (room - 2 * st.length) ev' (insE (g', newA id st) es) ∧ w.heap.size ≤ g' ∧ (∀ b, ev'.ownBlock = some b → ev.ownBlock = some b ∨ w.heap.size ≤ b))
     (EngB w' X J R true clock pause cv ∧ (∃ sb', JAt w' J V ((rs.length + 1 : Nat) : Int) sb') ∧ RollAt w' R base room ev es ∧ ∃ g, v = trV g ∧ TrAt w' g)) (SG.mono ?_)).mono ?_
    ·rintro e w' ⟨v, cache', rfl, a1, a2, a3, a4, a5⟩
     refine ⟨v, rfl, ?_, cache', a1, a2, a3, a4, a5⟩
     rcases a5.out with ⟨_, h, _⟩ | ⟨_, _, _, _, g, h, _⟩
     ·exact .inl h
     ·exact .inr ⟨g, h⟩
    ·have hfr : ∀ w', Fr (fun b => JnF A B J cache b ∨ b = R ∨ ev.ownBlock = some b ∨ b = X) w w' → Fr (fun b => b = A ∨ b = B ∨ C b ∨ F b) w w' := fun w' hf => hf.mono (fun b _ h => by
      rcases h with ((h | h | h) | h) | h | h | h
      ·exact .inl h
      ·exact .inr (.inl h)
      ·exact .inr (.inr (.inl (hC b h)))
      ·exact .inr (.inr (.inr (gd.f b (.inr (.inl h)))))
      ·exact .inr (.inr (.inr (gd.f b (.inr (.inr (.inr (.inl h)))))))
      ·exact .inr (.inr (.inr (gd.f b (.inr (.inr (.inr (.inr (.inl h))))))))
      ·exact .inr (.inr (.inr (gd.f b (.inl h)))))
     have hcb : ∀ {cache' : Value}, CB w cache cache' → ∀ b, cache'.ownBlock = some b → C b ∨ w.heap.size ≤ b := fun h b hb => (h b hb).imp_left (hC b)
     rintro e w' (⟨rfl, cache', a1, a2, a3, a4, a5⟩ | ⟨g, w1, f, t, rfl, hft, ⟨cache', a1, a2, a3, a4, a5⟩, hf1⟩)
     ·rcases a5.out with ⟨ok, _, he', hj', g', ev', hr', hg', hob⟩ | ⟨_, _, _, _, g, h, _⟩
      ·have hmem : ∀ q ∈ insE (g', newA id st) es, q = (g', newA id st) ∨ q ∈ es := by
        intro q hq
        simp only [insE, List.mem_append, List.mem_cons] at hq
        rcases hq with h1 | h1 | h1
        ·exact .inr (List.takeWhile_subset _ h1)
        ·exact .inl h1
        ·exact .inr (List.dropWhile_subset _ h1)
       have hS := m4 ok
       have gE : EGw w' X J R V A B n base dbase (room - 2 * st.length) clock pause ev' cv cache' (insE (g', newA id st) es) true aD.2 (insA (newA id st) L) (rs ++ [Rec.take id.toNat st]) (EngF X J R V ev' (insE (g', newA id st) es)) := by
        refine ⟨he', hr', ⟨a3, a1, ?_⟩, gd.hi, by rw [insE_map, gd.m], ?_, Nat.le_trans gd.b a4.size, fun b hb => hb⟩
        ·rw [List.length_append, List.length_singleton]
         push_cast at hj' ⊢
         exact hj'
        ·rw [needC_snoc, hrm]
         show (n : Int) - 1 - (needC rs : Nat) - 2 * (st.length : Int) = (n : Int) - 1 - ((needC rs + 2 * st.length : Nat) : Int)
         push_cast; omega
       have hS' : JSet n aD.2 ((rs ++ [Rec.take id.toNat st]).map Rec.bytes) := by rw [map_snoc_bytes]; exact hS
       refine ⟨_, aD.2, fun b => cache'.ownBlock = some b, EngF X J R V ev' (insE (g', newA id st) es), rfl, hcb a2, ?_, m1, hfr w' a4, .inl ⟨0, _, _, .inl ⟨rfl, rfl⟩, .inr (.inr ⟨hsok, hnoL, .inl ⟨rfl, rfl, rfl⟩⟩), gE.fu, ⟨hadd, hbd', hS'.jd, J, R, V, base, dbase, _, ev', cache', _, true, fun _ => hS', gE, fun _ h => h⟩, ⟨fun _ => hS', fun h => absurd h (by simp)⟩⟩⟩
       rintro b (h | h | h | h | h | ⟨q, hq, rfl⟩)
       ·exact .inl (gd.f b (.inl h))
       ·exact .inl (gd.f b (.inr (.inl h)))
       ·exact .inl (gd.f b (.inr (.inr (.inl h))))
       ·exact .inl (gd.f b (.inr (.inr (.inr (.inl h)))))
       ·rcases hob b h with h | h
        ·exact .inl (gd.f b (.inr (.inr (.inr (.inr (.inl h))))))
        ·exact .inr h
       ·rcases hmem q hq with rfl | hq
        ·exact .inr hg'
        ·exact .inl (gd.f _ (.inr (.inr (.inr (.inr (.inr ⟨q, hq, rfl⟩))))))
      ·cases h
     ·rcases a5.out with ⟨_, h, _⟩ | ⟨bad, eB', hj', hr', g2, hg2, ht⟩
      ·cases h
      ·obtain rfl : g = g2 := by unfold trV at hg2; simpa using hg2
       have hd' := a1.frz hf1
       refine ⟨_, aD.2, fun b => cache'.ownBlock = some b, fun b => b = X ∨ RollF R ev es b, rfl, hcb a2, ?_, m1, (hfr w1 a4).trans (hf1.mono (fun _ _ h => h.elim)) (fun _ _ h => h), .inr ⟨⟨f, t, g, rfl, hft, ht.fr hf1 (fun _ _ _ _ _ h => h)⟩, fun hg => bad (m2 hg), hsok, hnoL, hadd, ?_, ⟨hbd', dbase, cache', hd', fun _ h => h, gd.hi.1, gd.hi.2.1, gd.hi.2.2.1⟩, hp, J, R, base, room, ev, es, hf1.keep eB' (fun h => h), hr'.frz hf1, gd.m, .inl rfl, fun b hb => .inr hb⟩⟩
       ·rintro b (h | h)
        ·exact .inl (gd.f b (.inl h))
        ·exact .inl (gd.f b (.inr (.inr (.inr h))))
       ·rcases m5 bad with h | h
        ·exact .inl h
        ·exact .inr (by rw [map_snoc_bytes]; exact h)
   ·refine (eSubmit_err (k := 3) (by decide) (Q := fun w' => Fr (fun _ => False) w w') (submit_full gd.eng id st hrows gd.roll hso (by omega) hes6 hsok hno hroom)).mono ?_
    rintro e w' ⟨v, w2, rfl, hv, hf2, hf⟩
    obtain ⟨s2, s3, s4⟩ := stay w' (hf2.trans hf (fun _ _ h => h))
    refine ⟨v, s, C, _, rfl, fun _ h => .inl h, hFF, hm0, s4, .inl ⟨3, L, rs, hv, .inr (.inr ⟨hsok, hnoL, .inr ⟨rfl, ?_, rfl, rfl⟩⟩), s2, s3, ⟨fun h => absurd rfl h, fun _ => rfl⟩⟩⟩
    rw [hp.need]
    omega
 ·have hbad : sagaOk id st = false := by simpa using hsok
  refine (eSubmit_err (k := 1) (by decide) (Q := fun w' => Fr (fun _ => False) w w') (submit_bad gd.eng id st hrows hbad)).mono ?_
  rintro e w' ⟨v, w2, rfl, hv, hf2, hf⟩
  obtain ⟨s2, s3, s4⟩ := stay w' (hf2.trans hf (fun _ _ h => h))
  exact ⟨v, s, C, _, rfl, fun _ h => .inl h, hFF, hm0, s4, .inl ⟨1, L, rs, hv, .inl ⟨hbad, rfl, rfl, rfl⟩, s2, s3, ⟨fun h => absurd rfl h, fun _ => rfl⟩⟩⟩
end
end Go.Proofs.YteebjgfalllbjaaGreatDoor
namespace Go.Proofs.YteebjgfalllbjaaGreatDoor
open Go.RowKit
theorem DP.nx_cap (d : DP) (c : Nat) : (d.nx c).cap = d.cap := by
 induction c with
 | zero => rfl
 | succ c ih => exact ih
theorem after_moved (s : DS) (c : Nat) : Moved c s.d (s.after c).d := by
 obtain ⟨a, b, e, f, g, h, i⟩ := s.d.nx_calls c
 exact ⟨by show s.d.calls ≤ (s.d.nx c).calls; omega, by show (s.d.nx c).calls ≤ _; omega, by show s.d.writes ≤ (s.d.nx c).writes; omega, by show (s.d.nx c).writes ≤ _; omega, e, f, g, h, i, s.d.nx_cap c⟩
theorem after_jd {n : Nat} {s : DS} {recs : List (List Value)} (h : JD n s recs) (c : Nat) : JD n (s.after c) recs := h.keep rfl rfl (s.d.nx_cap c)
section
variable {w : World} {k A B n : Nat} {s : DS} {C : Nat → Prop}
theorem sOpenG {cfn : Fn} {ca cc : Array Value} {rs : List Rec} (h : DG w k A B n s C) (hj : JD n s (rs.map Rec.bytes)) (hk : k < 60000) (p : Int) (hp1 : 1 ≤ p) (hp2 : p ≤ 64) (n8 : 8 ≤ n) (n4 : n ≤ 400) (hok : RecsOk rs) (hnd : needC rs ≤ n - 1) (HIT : ¬ s.d.good → ∀ i, i < n → ItH i) (hG : GOk w) :
  Calls Tryz.prog 46 #[.iface 31 (.pointer (some ⟨A, 0, none⟩)), .int .i64 p, .func cfn ca cc] w fun e w' => Fr (fun b => b = A) w w' ∧
   ((∃ X F c, e = .returned (.tuple #[.pointer (some ⟨X, 0, none⟩), .nilIface]) ∧ c ≤ n + 1 ∧ EG w' (k + 1) X A B n 0 p (.func cfn ca cc) (recL rs) rs (s.after c) C F ∧ FU w' F ∧ ∀ b, F b → w.heap.size ≤ b) ∨
    (∃ v c, e = .returned (.tuple #[.pointer none, v]) ∧ c ≤ n + 1 ∧ ErrT w' v ∧ ¬ s.d.good ∧ DG w' (k + 1) A B n (s.after (c + 1)) C)) := by
 obtain ⟨hbd, base, cache, hd, hC, hb1, hb2, hb3⟩ := h
 have hAl := hd.d.lt
 have hg := recG hok
 have hlf := hg.lf
 obtain ⟨tl, hv⟩ := hj.view
 have hq := hbd.q (by omega)
 have hbda : ∀ c, c ≤ n + 2 → Bd (k + 1) (s.after c) := fun c hc => hbd.moved (after_moved s c) (by omega) (Nat.le_add_right _ _)
 refine (sOpen_gen (recs := rs.map Rec.bytes) p (by omega) (by omega) hd hq ((hbda 1 (by omega)).q (by omega)) n8 n4 hv.lay (by rw [List.length_map]; omega) (recs_bytes hok) HIT (by omega) hG
  (fun R i W => RP2 rs n w.heap.size R i W) (fun R W hRw hroll hsz => rp2_0 hroll hsz)
  (fun R i W W' hRw hRP hf => by
   obtain ⟨ev, es, q1, q2, q3, q4⟩ := hRP
   refine ⟨ev, es, q1.fr hf (fun b hb h => ?_), q2, q3, Nat.le_trans q4 hf.size⟩
   rcases q3 b hb with e | e <;> rcases h with h | h <;> omega)
  (fun R i r W hRw hr hRP h3 h4 => hand2 n8 n4 hnd hok hRw hr hRP h3 h4)).mono ?_
 rintro e w' (⟨X, rfl, V, R, J, c, g1, g2, g3, g4, g5, g6, g7, g8, g9⟩ | ⟨v, c, rfl, hv', hd', hbad, hc, hf⟩)
 ·refine ⟨g9, .inl ?_⟩
  obtain ⟨ev, es, q1, q2, q3, q4⟩ := g4
  rw [List.length_map] at q1 q2
  rw [List.take_length] at q1 q2
  have HE : EGw w' X J R V A B n w.heap.size base ((n : Int) - 1 - needC rs) 0 p ev (.func cfn ca cc) cache es false (s.after c) (recL rs) rs (EngF X J R V ev es) :=
   ⟨g1, q1, ⟨g3.v, g3.d, by have := g3.j; rw [List.length_map] at this; push_cast; exact this⟩, ⟨hb1, hb2, hb3, by omega⟩, q2, rfl, g9.size, fun b hb => hb⟩
  refine ⟨X, EngF X J R V ev es, c, rfl, g2, ⟨⟨n8, n4, Int.le_refl _, hok, hnd, ?_, ?_⟩, hbda c (by omega), after_jd hj c, J, R, V, w.heap.size, base, _, ev, cache, es, false, (fun h => by cases h), HE, hC⟩, HE.fu, ?_⟩
  ·calc (recL rs).map AS.zero = (recL rs).map id := List.map_congr_left fun a ha => (hg.ok a ha).2.2
    _ = recL rs := by simp
  ·intro a ha
   have := (hg.ok a ha).1
   exact ⟨this.t0, this.t1⟩
  ·rintro b (rfl | rfl | rfl | hb)
   ·omega
   ·omega
   ·omega
   ·rcases q3 b hb with h | h <;> omega
 ·exact ⟨hf, .inr ⟨v, c, rfl, hc, hv', (fun hg => by rw [(hg.after c).bad] at hbad; cases hbad), hbda (c + 1) (by omega), base, cache, hd', hC, hb1, hb2, hb3⟩⟩
end
end Go.Proofs.YteebjgfalllbjaaGreatDoor
