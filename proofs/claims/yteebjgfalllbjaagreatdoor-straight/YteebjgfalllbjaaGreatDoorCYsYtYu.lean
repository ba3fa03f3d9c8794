import Derived.Test.YteebjgfalllbjaaGreatDoorCYoYqYr
import Derived.Test.YteebjgfalllbjaaGreatDoorCKtKxYf
import Derived.Test.YteebjgfalllbjaaGreatDoorCYkYlKs
import Derived.Deep.Cut
namespace Go.Proofs.YteebjgfalllbjaaGreatDoor
open Go.RowKit
section
variable {Pm : Nat → Prop} {W wr w' : World} {Pp b0 : Nat} {r : List Int} {nn : Nat → Nat} {pause : Int} {X A B K T Q k : Nat} {al ob gd : Bool} {rs R : List Rec} {s : DS} {C F0 : Nat → Prop} {ps : PSt}
theorem SM.tick (H : AskOk Pp b0 (rlOf r 0)) (h : SM Pm W Pp b0 r nn pause X A B K T Q al ob R wr) (hG : GOk W) (hGP : ¬ Pm 0) (hK : K < 40000) (hT : T < 900000) (hQ : Q < 1000000) (hnn : ∀ q, 1 ≤ nn q ∧ nn q ≤ 6) (hp1 : 1 ≤ pause) (hp2 : pause ≤ 64) :
  Calls Tryz.prog 23 #[.pointer (some ⟨X, 0, none⟩)] wr fun e w' => (∃ v, e = .returned v) ∧ SM Pm W Pp b0 r nn pause X A B (K + 2) (T + 1) (Q + 3) al ob R w' := by
 obtain ⟨k, rs, s, C, F0, ps, D, ho, ⟨clock, L, F, hck, hE0, hF0, hg⟩ | ⟨hal, clock, L, rs', F, hE⟩⟩ := h
 ·obtain ⟨C1, F1, hE, hC1, hF1, hnp⟩ := hE0.shr
  have hnd := D.e.2.1.need D.e.1 (fun q => (hnn q).2)
  have hDk := D.kb
  have hDq := D.q
  have hsz := D.f.size
  have hL3 : L.length ≤ 3 := by
   have := congrArg List.length hE.1.zL
   rw [List.length_map] at this
   omega
  have hsz0 : (ptn H).sz ps = max (max ps.log.length ps.eff.length) ps.at' := rfl
  have hso := hE.1.so
  have HT := hE.tick (ptn H) (s0 := ps) (F0 := F0) (by omega) (fun i hi => itH_small (by omega)) (hG.fr D.f hGP) (fun h => hGP (hF0 _ (hF1 _ h))) (fun h => hGP (D.f0 _ h)) hp1 hp2 (by omega) D.p (by rw [hsz0]; omega)
  refine HT.mono ?_
  rintro e w' ⟨v, s', C', F', rfl, hC', hF', hM, hf, hcase⟩
  have hCW : ∀ b, C' b → Pm b := fun b hb => (hC' b hb).elim (fun h => D.c b (hC1 b h)) (fun h => D.nw b (by omega))
  have hFW : ∀ b, F' b → Pm b := fun b hb => (hF' b hb).elim (fun h => hF0 b (hF1 b h)) (fun h => D.nw b (by omega))
  have hFr : Fr Pm W w' := D.f.trans hf (fun b hb h => by
   rcases h with h | h | h | h | h
   ·rw [h]; exact D.ab.1
   ·rw [h]; exact D.ab.2
   ·exact D.c b (hC1 b h)
   ·exact hF0 b (hF1 b h)
   ·exact D.f0 b h)
  have hFn : ∀ {F2 : Nat → Prop}, (∀ b, F2 b → F0 b ∨ wr.heap.size ≤ b) → ∀ b, F2 b → Pm b := fun h b hb => (h b hb).elim (D.f0 b) (fun h => D.nw b (by omega))
  have hoff : ob = true → s'.d.off < 0 := fun h => by rw [hM.o]; exact ho h
  -- where no saga was asked for
  have hnone : ∀ i, (∀ a ∈ L.take i, ¬ (a.open ∧ a.due ≤ clock + 1)) → (JZ 120 s (rs.map Rec.bytes) → JZ 120 s' ((rs ++ (tickL (ptn H) (clock + 1) pause (L.take i) ps).2.2.map mvR).map Rec.bytes)) → EffS nn 120 s' (rs ++ (tickL (ptn H) (clock + 1) pause (L.take i) ps).2.2.map mvR) R (PSt.eff (tickL (ptn H) (clock + 1) pause (L.take i) ps).2.1) := by
   intro i hi hz
   rw [tickL_none (ptn H) (clock + 1) pause (L.take i) ps hi] at hz ⊢
   have e : rs ++ ([] : List (Nat × Nat)).map mvR = rs := by simp
   rw [e] at hz ⊢
   exact D.e.keep hz
  rcases hcase with ⟨rfl, hU, hE', hJZ, hJW, F2, hP2, hF2⟩ | ⟨_, hng, hD', i, a, hLi, hao, hED, hw⟩
  ·have hpt := D.e.2.1.part H hE.1 pause L.length
   have hn2 := hnone L.length
   have hq2 := tickL_sz (ptn H) (clock + 1) pause L ps
   rw [List.take_length] at hpt hn2
   have hEff : EffS nn 120 s' (rs ++ (tickL (ptn H) (clock + 1) pause L ps).2.2.map mvR) R (PSt.eff (tickL (ptn H) (clock + 1) pause L ps).2.1) := by
    rcases hJW with h | h
    ·exact ⟨hE'.1.ok, hpt, pre_app D.e.2.2.1, .inl h⟩
    ·exact hn2 h hJZ
   refine ⟨⟨_, rfl⟩, k + 2, _, s', C', F2, (tickL (ptn H) (clock + 1) pause L ps).2.1, ⟨by omega, hE'.disk, hE'.2.2.1, hEff, hP2, ?_, hCW, hFn hF2, D.ab, D.nw, hFr⟩, hoff, .inl ⟨clock + 1, _, F', by push_cast; omega, hE', hFW, fun h => hM.good (hg h)⟩⟩
   have : (ptn H).sz (tickL (ptn H) (clock + 1) pause L ps).2.1 ≤ Q + 3 := by rw [hsz0] at hq2; omega
   exact this
  ·have hal : al = false := by
    cases al with
    | false => rfl
    | true => exact absurd (hg rfl) hng
   have hpi := hE.1.part (ptn H) ps pause i
   have hpt := D.e.2.1.part H hE.1 pause i
   have hq2 := tickL_sz (ptn H) (clock + 1) pause (L.take i) ps
   have hil := (List.getElem?_eq_some_iff.1 hLi).1
   have hl2 : (L.take i).length ≤ 2 := by rw [List.length_take]; omega
   rcases hw with ⟨⟨q1, q2, q3⟩, F2, hP2, hF2⟩ | ⟨hm, q1, F2, hP2, hF2⟩
   ·have hEff : EffS nn 120 s' (rs ++ (tickL (ptn H) (clock + 1) pause (L.take i) ps).2.2.map mvR) R (PSt.eff (tickL (ptn H) (clock + 1) pause (L.take i) ps).2.1) := by
     rcases q3 with h | h
     ·exact ⟨hpi.ok, hpt, pre_app D.e.2.2.1, .inl h⟩
     ·exact hnone i h q2
    refine ⟨⟨_, rfl⟩, k + 2, _, s', C', F2, (tickL (ptn H) (clock + 1) pause (L.take i) ps).2.1, ⟨by omega, hD', q1, hEff, hP2, ?_, hCW, hFn hF2, D.ab, D.nw, hFr⟩, hoff, .inr ⟨hal, _, _, _, F', hED⟩⟩
    have : (ptn H).sz (tickL (ptn H) (clock + 1) pause (L.take i) ps).2.1 ≤ Q + 3 := by rw [hsz0] at hq2; omega
    exact this
   ·have haL : a ∈ (tickL (ptn H) (clock + 1) pause (L.take i) ps).1 ++ L.drop i := by
     refine List.mem_append.2 (.inr ?_)
     rw [List.drop_eq_getElem_cons hil, (List.getElem?_eq_some_iff.1 hLi).2]
     exact List.mem_cons_self ..
    have hz : a.zero ∈ recL (rs ++ (tickL (ptn H) (clock + 1) pause (L.take i) ps).2.2.map mvR) := by rw [← hpi.zL]; exact List.mem_map.2 ⟨a, haL, rfl⟩
    have hask := hpt.ask H hpi.ok hz hao.1
    have hq3 := (ptn H).szs (tickL (ptn H) (clock + 1) pause (L.take i) ps).2.1 a.asks
    have hq4 : (ptn H).sz ((ptn H).ask (tickL (ptn H) (clock + 1) pause (L.take i) ps).2.1 a.asks).2 ≤ Q + 3 := by rw [hsz0] at hq2; omega
    rcases q1 with q1 | q1
    ·exact ⟨⟨_, rfl⟩, k + 2, _, s', C', F2, ((ptn H).ask (tickL (ptn H) (clock + 1) pause (L.take i) ps).2.1 a.asks).2, ⟨by omega, hD', q1.jd, ⟨hpi.ok, hask, pre_app D.e.2.2.1, .inl q1⟩, hP2, hq4, hCW, hFn hF2, D.ab, D.nw, hFr⟩, hoff, .inr ⟨hal, _, _, _, F', hED⟩⟩
    ·have hpj := hE.1.part (ptn H) ps pause (i + 1)
     have hpu := D.e.2.1.part H hE.1 pause (i + 1)
     have htk : L.take (i + 1) = L.take i ++ [a] := by rw [List.take_add_one, hLi]; rfl
     have h1 : tickOne (ptn H) (clock + 1) pause a (tickL (ptn H) (clock + 1) pause (L.take i) ps).2.1 = (a.after ((ptn H).ask (tickL (ptn H) (clock + 1) pause (L.take i) ps).2.1 a.asks).1 (clock + 1) pause, ((ptn H).ask (tickL (ptn H) (clock + 1) pause (L.take i) ps).2.1 a.asks).2, [(a.id.toNat, ((ptn H).ask (tickL (ptn H) (clock + 1) pause (L.take i) ps).2.1 a.asks).1)]) := by
      rw [tickOne, if_pos hao, if_pos hm]
     have hsn := tickL_snoc (ptn H) (clock + 1) pause (L.take i) a ps
     rw [h1] at hsn
     rw [htk, hsn] at hpj hpu
     simp only [List.map_append, List.map_cons, List.map_nil, ← List.append_assoc] at hpj hpu
     exact ⟨⟨_, rfl⟩, k + 2, _, s', C', F2, ((ptn H).ask (tickL (ptn H) (clock + 1) pause (L.take i) ps).2.1 a.asks).2, ⟨by omega, hD', q1, ⟨hpj.ok, hpu, pre_app (pre_app D.e.2.2.1), .inr ⟨_, _, rfl, hask, pre_app D.e.2.2.1⟩⟩, hP2, hq4, hCW, hFn hF2, D.ab, D.nw, hFr⟩, hoff, .inr ⟨hal, _, _, _, F', hED⟩⟩
 ·refine hE.tick.mono ?_
  rintro e w' ⟨v, rfl, _, hf⟩
  exact ⟨⟨v, rfl⟩, k, rs, s, C, F0, ps, (D.frz hf).mono (by omega) (by omega), ho, .inr ⟨hal, clock, L, rs', F, hE.fr hf (fun _ _ h => h)⟩⟩
theorem SM.off (h : SM Pm W Pp b0 r nn pause X A B K T Q true ob R wr) (hK : K < 40000) (j : Int) (hj : 0 ≤ j) (hj1 : j ≤ 1000) :
  Calls Tryz.prog 30 #[.pointer (some ⟨A, 0, none⟩), .int .i64 j] wr fun e w' => e = .returned (.tuple #[]) ∧ SM Pm W Pp b0 r nn pause X A B K T Q false false R w' := by
 obtain ⟨k, rs, s, C, F0, ps, D, ho, ⟨clock, L, F, hck, hE, hF0, hg⟩ | ⟨hal, _⟩⟩ := h
 ·have hDk := D.kb
  refine (hE.off (by omega) j hj hj1).mono ?_
  rintro e w' ⟨rfl, hE', hf⟩
  refine ⟨rfl, k, rs, _, C, F0, ps, ⟨hDk, hE'.disk, hE'.2.2.1, D.e.keep (fun h => h.keep rfl rfl rfl), prtI_fr D.p hf (fun b hb => ?_), D.q, D.c, D.f0, D.ab, D.nw, D.f.trans hf (fun b hb h => by rw [h]; exact D.ab.1)⟩, (fun h => by cases h), .inl ⟨clock, L, F, hck, hE', hF0, (fun h => by cases h)⟩⟩
  obtain ⟨c, t, h1, h2⟩ := prtI_ty D.p hb
  exact D.d.np h1 h2
 ·cases hal
theorem SM.bad (h : SM Pm W Pp b0 r nn pause X A B K T Q true ob R wr) (hK : K < 40000) (j m : Int) (hj : 0 ≤ j) (hj1 : j ≤ 1000) (hm : 0 ≤ m) (hm1 : m ≤ 1000) :
  Calls Tryz.prog 31 #[.pointer (some ⟨A, 0, none⟩), .int .i64 j, .int .i64 m] wr fun e w' => e = .returned (.tuple #[]) ∧ SM Pm W Pp b0 r nn pause X A B K T Q false true R w' := by
 obtain ⟨k, rs, s, C, F0, ps, D, ho, ⟨clock, L, F, hck, hE, hF0, hg⟩ | ⟨hal, _⟩⟩ := h
 ·have hDk := D.kb
  refine (hE.bad (by omega) j m hj hj1 hm hm1).mono ?_
  rintro e w' ⟨rfl, hE', hf⟩
  refine ⟨rfl, k, rs, _, C, F0, ps, ⟨hDk, hE'.disk, hE'.2.2.1, D.e.keep (fun h => h.keep rfl rfl rfl), prtI_fr D.p hf (fun b hb => ?_), D.q, D.c, D.f0, D.ab, D.nw, D.f.trans hf (fun b hb h => by rw [h]; exact D.ab.1)⟩, (fun _ => (hg rfl).1), .inl ⟨clock, L, F, hck, hE', hF0, (fun h => by cases h)⟩⟩
  obtain ⟨c, t, h1, h2⟩ := prtI_ty D.p hb
  exact D.d.np h1 h2
 ·cases hal
theorem SD.bad0 (h : SD Pm W Pp b0 r nn A B K Q gd true R wr) (hK : K < 40000) :
  Calls Tryz.prog 31 #[.pointer (some ⟨A, 0, none⟩), .int .i64 0, .int .i64 0] wr fun e w' => e = .returned (.tuple #[]) ∧ SD Pm W Pp b0 r nn A B K Q true true R w' := by
 obtain ⟨k, rs, s, C, F0, ps, D, ho, _⟩ := h
 have hDk := D.kb
 refine (D.d.bad (by omega) 0 0 (by decide) (by decide) (by decide) (by decide)).mono ?_
 rintro e w' ⟨rfl, hD', hf⟩
 refine ⟨rfl, k, rs, _, C, F0, ps, ⟨hDk, hD', D.j.keep rfl rfl rfl, D.e.keep (fun h => h.keep rfl rfl rfl), prtI_fr D.p hf (fun b hb => ?_), D.q, D.c, D.f0, D.ab, D.nw, D.f.trans hf (fun b hb h => by rw [h]; exact D.ab.1)⟩, ho, fun _ => ⟨ho rfl, by show s.d.calls + 0 + 0 ≤ s.d.calls + 0; omega⟩⟩
 obtain ⟨c, t, h1, h2⟩ := prtI_ty D.p hb
 exact D.d.np h1 h2
theorem SD.cut (h : SD Pm W Pp b0 r nn A B K Q gd ob R wr) (hnn : ∀ q, nn q ≤ 6) {la : Option Addr} {zs : List Int} {kc : Nat} (hz : IntsAt wr la zs) (hz1 : zs.length < 1000) :
  Calls Tryz.prog 32 #[.pointer (some ⟨A, 0, none⟩), .slice la zs.length kc] wr fun e w' => ∃ A' B', e = .returned (.pointer (some ⟨A', 0, none⟩)) ∧ SD Pm W Pp b0 r nn A' B' 1 Q true true R w' := by
 obtain ⟨k, rs, s, C, F0, ps, D, ho, _⟩ := h
 have hnd := D.e.2.1.need D.e.1 hnn
 have hlf := (recG D.e.1).lf
 have hsz := D.f.size
 refine (D.d.cut D.j (by rw [List.length_map]; omega) (by decide) hz hz1).mono ?_
 rintro e w' ⟨A', B', s', recs', rfl, hD', hg, he, hJ, hr, hA, hB, hf, hw⟩
 obtain ⟨rs', rfl, hE⟩ := D.e.cut hr hJ
 exact ⟨A', B', rfl, 1, rs', s', _, F0, ps, ⟨Nat.le_refl _, hD', hJ.jd, hE, prtI_fr D.p hf (fun _ _ h => h), D.q, (fun _ h => h.elim), D.f0, ⟨D.nw _ (by omega), D.nw _ (by omega)⟩, D.nw, D.f.trans hf (fun _ _ h => h.elim)⟩, fun _ => hg.1, fun _ => hg⟩
theorem SD.open (h : SD Pm W Pp b0 r nn A B K Q true ob R wr) (hG : GOk W) (hGP : ¬ Pm 0) (hK : K < 40000) (hnn : ∀ q, nn q ≤ 6) (hp1 : 1 ≤ pause) (hp2 : pause ≤ 64) :
  Calls Tryz.prog 33 #[.pointer (some ⟨A, 0, none⟩), .int .i64 pause, .pointer (some ⟨Pp, 0, none⟩)] wr fun e w' => ∃ X rs s ps, e = .returned (.tuple #[.pointer (some ⟨X, 0, none⟩), .nilIface]) ∧ SO Pm W Pp b0 r nn pause X A B (K + 1) Q rs R s ps w' := by
 obtain ⟨k, rs, s, C, F0, ps, D, ho, hg⟩ := h
 have hnd := D.e.2.1.need D.e.1 hnn
 have hDk := D.kb
 have hsz := D.f.size
 refine (D.d.open (Pp := Pp) D.j (by omega) pause hp1 hp2 (by decide) (by decide) D.e.1 (by omega) (hg rfl) (hG.fr D.f hGP)).mono ?_
 rintro e w' ⟨X, F, c, rfl, hE, hU, hFn, hf⟩
 refine ⟨X, rs, _, ps, rfl, k + 1, C, F0, F, ⟨by omega, hE.disk, hE.2.2.1, D.e.keep (fun h => h.keep rfl rfl (s.d.nx_cap c)), prtI_fr D.p hf (fun b hb => ?_), D.q, D.c, D.f0, D.ab, D.nw, D.f.trans hf (fun b hb h => by rw [h]; exact D.ab.1)⟩, (hg rfl).after c, hE, fun b hb => D.nw b (by have := hFn b hb; omega)⟩
 obtain ⟨c, t, h1, h2⟩ := prtI_ty D.p hb
 exact D.d.np h1 h2
end
end Go.Proofs.YteebjgfalllbjaaGreatDoor
namespace Go.Proofs.YteebjgfalllbjaaGreatDoor
open Go.RowKit
def LastI (R : List Rec) (ls : List Int) : Prop := ∀ (q : Nat) (z : Int), 1 ≤ q → q ≤ 3 → ls[q]? = some z → z = 0 ∨ ∃ a ∈ recL R, a.id = (q : Int) ∧ (3 ≤ z → a.S.1 = z)
section
variable {nn : Nat → Nat} {rs R : List Rec} {eff : List CL} {ls : List Int}
theorem LastI.zero : LastI R [0, 0, 0, 0] := fun q z h1 h3 hz => by
 left
 rcases q with _ | _ | _ | _ | q
 ·omega
 ·simpa using hz.symm
 ·simpa using hz.symm
 ·simpa using hz.symm
 ·omega
theorem LastI.mono (h : LastI R ls) (hp : R <+: rs) (hok : RecsOk rs) : LastI rs ls := fun q z h1 h3 hz => by
 rcases h q z h1 h3 hz with h | ⟨a, ha, hid, hs⟩
 ·exact .inl h
 ·obtain ⟨l, rfl⟩ := hp
  obtain ⟨b, hb, hbi, hbc⟩ := recL_pre l hok ha
  refine .inr ⟨b, hb, hbi.trans hid, fun h3 => ?_⟩
  have h4 := hs h3
  rw [hbc (fun ho => by have ho : a.S.1 = 1 ∨ a.S.1 = 2 := ho; omega)]
  exact h4
theorem LastI.set (h : LastI R ls) {q : Nat} {a : AS} (ha : a ∈ recL R) (hid : a.id = (q : Int)) : LastI R (ls.set q a.S.1) := fun p z h1 h3 hz => by
 by_cases e : q = p
 ·subst e
  rw [List.getElem?_set] at hz
  simp only [if_true] at hz
  split at hz
  ·obtain rfl : a.S.1 = z := by simpa using hz
   exact .inr ⟨a, ha, hid, fun _ => rfl⟩
  ·cases hz
 ·rw [List.getElem?_set_ne e] at hz
  exact h p z h1 h3 hz
theorem LastI.none (h : LastI R ls) (hp : R <+: rs) (hok : RecsOk rs) {q : Nat} {z : Int} (h1 : 1 ≤ q) (h3 : q ≤ 3) (hz : ls[q]? = some z) (hno : ∀ a ∈ recL rs, a.id ≠ (q : Int)) : z = 0 := by
 rcases h.mono hp hok q z h1 h3 hz with h | ⟨a, ha, hid, _⟩
 ·exact h
 ·exact absurd hid (hno a ha)
theorem LastI.over (h : LastI R ls) (hp : R <+: rs) (hok : RecsOk rs) {q : Nat} {z : Int} (h1 : 1 ≤ q) (h3 : q ≤ 3) (hz : ls[q]? = some z) {a : AS} (ha : a ∈ recL rs) (hid : a.id = (q : Int)) (hz3 : 3 ≤ z) : a.S.1 = z := by
 rcases h.mono hp hok q z h1 h3 hz with h | ⟨b, hb, hbi, hs⟩
 ·omega
 ·rw [pw_uniq (recG hok).so ha hb (hid.trans hbi.symm)]
  exact hs hz3
theorem EffI.reach {a : AS} {m : List (Int × Bool)} {nv : Bool} (h : EffI a m nv) : reachB a.told m = true := by
 obtain ⟨k, j, hsh, h3, h4⟩ := h.shape
 obtain ⟨n1, n2⟩ := cn_shape hsh
 have hs : a.told.state = a.S.1 := rfl
 have hp : a.told.steps = (a.st.length : Nat) := rfl
 unfold reachB
 rw [hs, hp, n1, n2]
 by_cases e3 : a.S.1 = 3
 ·rw [if_pos e3]
  have := h3 e3
  exact decide_eq_true ⟨by omega, by omega⟩
 ·rw [if_neg e3]
  by_cases e4 : a.S.1 = 4
  ·have := h4 e4
   exact decide_eq_true (.inr ⟨by omega, by omega⟩)
  ·exact decide_eq_true (.inl e4)
theorem EffJ.shape (h : EffJ nn rs eff) {q : Nat} : ∃ kk jj, Shape (mine (q : Int) eff) (nn q) kk jj := by
 by_cases hq : ∃ a ∈ recL rs, a.id = (q : Int)
 ·obtain ⟨a, ha, hid⟩ := hq
  obtain ⟨⟨p, _, _, hp, hst⟩, nv, hnv⟩ := h.1 a ha
  obtain rfl : p = q := by omega
  obtain ⟨k, j, hsh, _⟩ := hnv.shape
  rw [hid, hst, kst_len] at hsh
  exact ⟨k, j, hsh⟩
 ·rw [h.2 _ (fun a ha e => hq ⟨a, ha, e⟩)]
  exact ⟨0, 0, rfl, Nat.le_refl _, Nat.zero_le _, fun h => by omega⟩
end
section
variable {Pm : Nat → Prop} {W wr w' : World} {Pp b0 : Nat} {r : List Int} {nn : Nat → Nat} {pause : Int} {X A B K T Q k : Nat} {rs R : List Rec} {s : DS} {ps : PSt}
theorem SO.fr {S : Nat → Prop} (h : SO Pm W Pp b0 r nn pause X A B K Q rs R s ps wr) (hf : Fr S wr w') (hS : ∀ b, Pm b → ¬ S b) : SO Pm w' Pp b0 r nn pause X A B K Q rs R s ps w' := by
 obtain ⟨k, C, F0, F, D, hg, hE, hF⟩ := h
 exact ⟨k, C, F0, F, ⟨D.kb, D.d.fr hf (hS _ D.ab.1) (hS _ D.ab.2) (fun b hb => hS b (D.c b hb)), D.j, D.e, prtI_fr D.p hf (fun b hb => hS b (D.f0 b hb)), D.q, D.c, D.f0, D.ab, fun b hb => D.nw b (by have := D.f.size; have := hf.size; omega), Fr.refl _ _⟩, hg, hE.fr hf (hS _ D.ab.1) (hS _ D.ab.2) (fun b hb => hS b (D.c b hb)) (fun b hb => hS b (hF b hb)), hF⟩
theorem SO.nw (h : SO Pm W Pp b0 r nn pause X A B K Q rs R s ps wr) : Fr Pm W wr := by
 obtain ⟨k, C, F0, F, D, hg, hE, hF⟩ := h
 exact D.f
theorem SO.eff (h : SO Pm W Pp b0 r nn pause X A B K Q rs R s ps wr) : RecsOk rs ∧ EffJ nn rs ps.eff ∧ R <+: rs := by
 obtain ⟨k, C, F0, F, D, hg, hE, hF⟩ := h
 exact ⟨D.e.1, D.e.2.1, D.e.2.2.1⟩
theorem SO.pend (h : SO Pm W Pp b0 r nn pause X A B K Q rs R s ps wr) : Calls Tryz.prog 34 #[.pointer (some ⟨A, 0, none⟩)] wr fun e w' => e = .returned (.int .i64 (s.ents.length : Nat)) ∧ w' = wr := by
 obtain ⟨k, C, F0, F, D, hg, hE, hF⟩ := h
 exact D.d.pend
theorem SO.sm (h : SO Pm W Pp b0 r nn pause X A B K Q rs R s ps wr) : SM Pm W Pp b0 r nn pause X A B K 0 Q true true R wr := by
 obtain ⟨k, C, F0, F, D, hg, hE, hF⟩ := h
 exact ⟨k, rs, s, C, F0, ps, D, fun _ => hg.1, .inl ⟨0, _, F, by decide, hE, hF, fun _ => hg⟩⟩
theorem SO.sure (h : SO Pm W Pp b0 r nn pause X A B K Q rs R s ps wr) (he : s.ents.length = 0) : SO Pm W Pp b0 r nn pause X A B K Q rs rs s ps wr := by
 obtain ⟨k, C, F0, F, D, hg, hE, hF⟩ := h
 have he : s.ents = [] := List.eq_nil_of_length_eq_zero he
 have hz : JZ 120 s (rs.map Rec.bytes) := by
  rcases D.j with ⟨tl, h1, h2⟩ | ⟨rs0, r, es, _, _, h2, _⟩
  ·exact ⟨tl, h1, h2⟩
  ·rw [he] at h2; cases h2
 exact ⟨k, C, F0, F, ⟨D.kb, D.d, D.j, D.e.sure hz, D.p, D.q, D.c, D.f0, D.ab, D.nw, D.f⟩, hg, hE, hF⟩
theorem SO.sta (h : SO Pm W Pp b0 r nn pause X A B K Q rs R s ps wr) (q : Nat) : Calls Tryz.prog 24 #[.pointer (some ⟨X, 0, none⟩), .int .i64 (q : Int)] wr fun e w' => ∃ (st : ST) (v : Value), e = .returned (.tuple #[.agg st.cs.toArray, v]) ∧ Fr (fun _ => False) wr w' ∧ ((v = .nilIface ∧ ∃ a ∈ recL rs, a.id = (q : Int) ∧ st = a.told) ∨ ((∃ f, v = .iface 117 (.pointer (some ⟨f, 0, none⟩))) ∧ ∀ a ∈ recL rs, a.id ≠ (q : Int))) := by
 obtain ⟨k, C, F0, F, D, hg, hE, hF⟩ := h
 refine (hE.sta (q : Int)).mono ?_
 rintro e w' ⟨st, v, rfl, hf, ⟨a, ha, hid, hs, hv⟩ | ⟨hno, _, hv⟩⟩
 ·exact ⟨st, v, rfl, hf, .inl ⟨err0 hv, a, ha, hid, hs⟩⟩
 ·refine ⟨st, v, rfl, hf, .inr ⟨?_, hno⟩⟩
  rcases hv with ⟨_, h⟩ | ⟨g, t, rfl, _⟩
  ·cases h
  ·exact ⟨g, rfl⟩
theorem SO.part (h : SO Pm W Pp b0 r nn pause X A B K Q rs R s ps wr) (hQ : Q ≤ 1000000) : ∃ lg l ea ec, wr.heap[Pp]? = some (.cells #[lg, .slice ea ps.eff.length ec, l, .int .i64 ps.at'] 48 (0, 0)) ∧ RowsOf wr ea 4 (ps.eff.map CL.cs) ∧ ps.eff.length ≤ 1000000 := by
 obtain ⟨k, C, F0, F, D, hg, hE, hF⟩ := h
 obtain ⟨_, lg, ef, l, hp, _⟩ := D.p
 have hq := D.q
 have : ps.eff.length ≤ 1000000 := by omega
 rcases hp.eo.2 with ⟨rfl, h0⟩ | ⟨g, cap, cur, rfl, hr⟩
 ·have e : ps.eff = [] := List.eq_nil_of_length_eq_zero h0
  refine ⟨lg, l, none, 0, by rw [e]; exact hp.p, fun i cs hi => by rw [e] at hi; simp at hi, this⟩
 ·exact ⟨lg, l, _, _, hp.p, own_rowsC hp.eo, this⟩
theorem SO.straight (h : SO Pm W Pp b0 r nn pause X A B K Q rs R s ps wr) (hQ : Q ≤ 1000000) (q : Nat) : Calls Tryz.prog 25 #[.pointer (some ⟨Pp, 0, none⟩), .int .i64 (q : Int), .int .i64 (nn q)] wr fun e w' => e = .returned (.bool true) ∧ Fr (fun _ => False) wr w' := by
 obtain ⟨lg, l, ea, ec, h1, h2, h3⟩ := h.part hQ
 obtain ⟨kk, jj, hsh⟩ := h.eff.2.1.shape (q := q)
 exact kStraight_ok (q : Int) (nn q) kk jj h1 h2 h3 hsh
theorem SO.reach (h : SO Pm W Pp b0 r nn pause X A B K Q rs R s ps wr) (hQ : Q ≤ 1000000) {a : AS} (ha : a ∈ recL rs) : Calls Tryz.prog 26 #[.pointer (some ⟨Pp, 0, none⟩), .agg a.told.cs.toArray] wr fun e w' => e = .returned (.bool true) ∧ Fr (fun _ => False) wr w' := by
 obtain ⟨lg, l, ea, ec, h1, h2, h3⟩ := h.part hQ
 obtain ⟨nv, hnv⟩ := (h.eff.2.1.1 a ha).2
 have := kReached_ok a.told h1 h2 h3
 have e : reachB a.told (mine a.told.id ps.eff) = true := hnv.reach
 rwa [e] at this
end
section
variable {Pm : Nat → Prop} {W wr w' : World} {Pp b0 : Nat} {r : List Int} {nn : Nat → Nat} {A B K Q : Nat} {gd ob : Bool} {R : List Rec}
theorem SD.weak {K' : Nat} (h : SD Pm W Pp b0 r nn A B K Q gd ob R wr) (hK : K ≤ K') : SD Pm wr Pp b0 r nn A B K' Q false ob R wr := by
 obtain ⟨k, rs, s, C, F0, ps, D, ho, _⟩ := h
 exact ⟨k, rs, s, C, F0, ps, D.base.mono hK (Nat.le_refl _), ho, (fun h => by cases h)⟩
theorem SD.base (h : SD Pm W Pp b0 r nn A B K Q gd ob R wr) : SD Pm wr Pp b0 r nn A B K Q gd ob R wr := by
 obtain ⟨k, rs, s, C, F0, ps, D, ho⟩ := h
 exact ⟨k, rs, s, C, F0, ps, D.base, ho⟩
end
structure Kep (w : World) (gl : Nat) (ka : Option Addr) (kz ls : List Int) (wr : World) : Prop where
 l : wr.heap[gl]? = some (.cells (intC ls).toArray 3 (0, 0))
 n : ls.length = 4
 k : IntsAt wr ka kz
 f : Fr (fun _ => False) w wr
 kn : ∀ a, ka = some a → a.block ≠ gl
 gw : w.heap.size ≤ gl
def PmI (w : World) (gl : Nat) (ka : Option Addr) (b : Nat) : Prop := w.heap.size ≤ b ∧ b ≠ gl ∧ ∀ a, ka = some a → a.block ≠ b
section
variable {w wr w' : World} {gl : Nat} {ka : Option Addr} {kz ls : List Int}
theorem Kep.fr (h : Kep w gl ka kz ls wr) (hf : Fr (PmI w gl ka) wr w') : Kep w gl ka kz ls w' := by
 refine ⟨hf.keep h.l (fun h => h.2.1 rfl), h.n, fun i z hz => ?_, h.f.trans hf (fun b hb h => by have := h.1; omega), h.kn, h.gw⟩
 obtain ⟨g, off, h1, h2⟩ := h.k i z hz
 exact ⟨g, off, h1, hf.cell h2 (fun hp => hp.2.2 _ h1 rfl)⟩
theorem Kep.frz (h : Kep w gl ka kz ls wr) (hf : Fr (fun _ => False) wr w') : Kep w gl ka kz ls w' := h.fr (hf.mono (fun _ _ h => h.elim))
theorem Kep.cell (h : Kep w gl ka kz ls wr) {q : Nat} {z : Int} (hz : ls[q]? = some z) : wr.cell? ⟨gl, q, none⟩ = some (.int .i64 z) := by
 refine (cell_of_row wr gl q _ _ _ h.l).trans ?_
 simp [intC, hz]
theorem Kep.set (h : Kep w gl ka kz ls wr) (q : Nat) (z : Int) : Kep w gl ka kz (ls.set q z) (wr.setCell ⟨gl, q, none⟩ (.int .i64 z)) := by
 have hf := Fr.set1 wr gl q (.int .i64 z)
 refine ⟨?_, by rw [List.length_set]; exact h.n, fun i y hy => ?_, h.f.trans hf (fun b hb e => by have := h.gw; omega), h.kn, h.gw⟩
 ·refine (heap_setCell_at wr gl q _ _ _ h.l).trans ?_
  simp [intC, List.map_set]
 ·obtain ⟨g, off, h1, h2⟩ := h.k i y hy
  exact ⟨g, off, h1, hf.cell h2 (fun e => h.kn _ h1 e)⟩
theorem Kep.fz (h : Kep w gl ka kz ls wr) (q : Nat) : wr.frozen? ⟨gl, q, none⟩ = false := frozen_of_row wr gl q _ _ h.l
theorem PmI.no (hG : GOk w) : ¬ PmI w gl ka 0 := fun h => by
 have : 0 < w.heap.size := World.block_lt_of_cell? w _ hG
 have := h.1
 omega
end
end Go.Proofs.YteebjgfalllbjaaGreatDoor
namespace Go.Proofs.YteebjgfalllbjaaGreatDoor
open Go.RowKit
set_option maxRecDepth 100000 in
set_option maxHeartbeats 4000000 in
theorem straight_ok (w : World) {lr lc la : Option Addr} {rr cs zs : List Int} (cr cc cap : Nat) (hlr : IntsAt w lr rr) (hri : ∀ z ∈ rr, I64 z) (hlc : IntsAt w lc cs) (hci : ∀ z ∈ cs, I64 z) (hl : IntsAt w la zs) (c : Int) (hc : I64 c) (hG : GOk w) :
  Calls Tryz.prog 10 #[.int .i64 c, .slice lr rr.length cr, .slice lc cs.length cc, .slice la zs.length cap] w fun e w' => e = .returned (.bool true) ∧ Fr (fun _ => False) w w' := by
 have HL : Hid (IntsAt w la zs) := hl
 have HC : Hid (IntsAt w lc cs ∧ ∀ z ∈ cs, I64 z) := ⟨hlc, hci⟩
 obtain ⟨hc1, hc2⟩ := hc
 obtain ⟨nn, hnn⟩ : ∃ nn : Nat → Nat, nn = fun q : Nat => kmn c ((q : Nat) : Int) := ⟨_, rfl⟩
 have HNN : Hid (∀ q, 1 ≤ nn q ∧ nn q ≤ 6) := fun q => by rw [hnn]; exact kmn_in c q
 obtain ⟨pz, hpz⟩ : ∃ pz, pz = kpk c 4 := ⟨_, rfl⟩
 obtain ⟨pz0, pz1⟩ := kpk_in c 4 (by decide)
 rw [← hpz] at pz0 pz1
 have HM : Hid (∀ W (q : Nat), q ≤ 3 → Calls Tryz.prog 27 #[.int .i64 c, .int .i64 (q : Int)] W fun e w' => e = .returned (.int .i64 (nn q)) ∧ w' = W) := fun W q hq => by
  rw [hnn]; exact kMany_ok c (q : Int) W hc1 hc2 (by omega) (by omega)
 have HP : Hid (∀ W, Calls Tryz.prog 19 #[.int .i64 c, .int .i64 4] W fun e w' => e = .returned (.int .i64 pz) ∧ w' = W) := fun W => by
  have := kPick_ok c 4 W hc1 hc2 (by decide) (by decide)
  rwa [← hpz] at this
 have HFW := kFew_ok w cr hlr 60 (by decide)
 obtain ⟨rl, hrl⟩ : ∃ rl, rl = rr.take (min 60 rr.length) := ⟨_, rfl⟩
 have hrll : rl.length = min 60 rr.length := by rw [hrl, List.length_take]; omega
 have hrl0 : rlOf rl 0 = rl := by simp [rlOf]
 have hrli : ∀ z ∈ rlOf rl 0, -9223372036854775808 ≤ z ∧ z ≤ 9223372036854775807 := fun z hz => by
  rw [hrl0, hrl] at hz
  obtain ⟨h1, h2⟩ := hri z (List.mem_of_mem_take hz)
  exact ⟨by omega, by omega⟩
 have hr60 : rl.length ≤ 60 := by omega
 have HFW2 : Calls Tryz.prog 17 #[.slice lr rr.length cr, .int .i64 (60 : Nat)] w fun e w' => ∃ ao c, e = .returned (.slice ao rl.length c) ∧ Fr (fun _ => False) w w' ∧ w'.ownsRow w.heap.size 3 1 (.slice ao rl.length c) rl.length (rl.map fun x => Value.int .i64 x) := HFW.mono (by
  rintro e w0 ⟨ao0, cap0, rfl, hf0, hown0⟩
  rw [hrll, hrl]
  exact ⟨ao0, cap0, rfl, hf0, hown0⟩)
 clear hpz hnn hl hlr hri hlc hci HFW hrl hrll
 go_enter Tryz.func10, Tryz.ntmps10
 go_wp2_with fail
 refine HFW2.mono ?_
 rintro e w0 ⟨ao0, cap0, rfl, hf0, hown0⟩
 go_wp2_with fail
 refine (NewPartner_rows hown0 (by omega)).mono ?_
 rintro e w1 ⟨Pp, lv, rfl, hPp, hpr, hlv, hf1⟩
 go_wp2_with fail
 refine (HP.out w1).mono ?_
 rintro e w1' ⟨rfl, e1⟩
 rw [e1]
 clear e1 w1'
 go_wp2_with fail
 refine (kBegun_ok w1 120 Pp (1 + pz) (by decide) (by decide) (by omega) (by omega)).mono ?_
 rintro e w2 ⟨X, A, B, F, rfl, hE2, hU2, hFn2, hA2, hB2, hf2⟩
 have hs0 := hf0.size
 have hs1 := hf1.size
 have hs2 := hf2.size
 have hGl : 0 < w.heap.size := World.block_lt_of_cell? w _ hG
 obtain ⟨s2, hE2', hg2, he2, hJ2⟩ := hE2.eg w1.heap.size (by omega) hA2 hB2 hFn2
 have hF2 : Fr (fun _ => False) w w2 := (hf0.trans hf1 (fun _ _ h => h)).trans hf2 (fun _ _ h => h)
 have hpr2 := hpr.fr hf2 (fun _ _ h => h)
 have hpl : ∀ b, PartF Pp (.slice none 0 0) (.slice none 0 0) lv b → b < w2.heap.size := fun b hb => by obtain ⟨c, t, hc, _⟩ := hpr2.ty hb; exact lt_of_heap hc
 have hpw : ∀ b, PartF Pp (.slice none 0 0) (.slice none 0 0) lv b → w.heap.size ≤ b := fun b hb => by
  rcases hb with h | h | h | h
  ·omega
  ·cases h
  ·cases h
  ·have := hlv b h; omega
 have hFl : ∀ b, F b → b < w2.heap.size := fun b hb => by obtain ⟨c, t, hc, _⟩ := hU2 b hb; exact lt_of_heap hc
 obtain ⟨hAl, hBl⟩ : A < w2.heap.size ∧ B < w2.heap.size := by
  obtain ⟨_, base, cache, hd, _⟩ := hE2'.disk
  exact ⟨hd.d.lt, lt_of_heap hd.r.1⟩
 clear hE2 hf0 hf1 hf2 hpr hown0 HFW2
 have HFE := kFew_ok w2 cap (HL.out.frz hF2) 40 (by decide)
 go_wp2_with fail
 refine HFE.mono ?_
 rintro e w3 ⟨ka, kcap, rfl, hf3, hown3⟩
 have hin3 := own_ints hown3
 obtain ⟨kz, hkz⟩ : ∃ kz, kz = zs.take (min 40 zs.length) := ⟨_, rfl⟩
 have hkl : min 40 zs.length = kz.length := by rw [hkz, List.length_take]; omega
 have hk40 : kz.length ≤ 40 := by omega
 rw [← hkz] at hin3 hown3
 rw [hkl] at hown3 ⊢
 have hkb : ∀ a, ka = some a → w2.heap.size ≤ a.block := fun a ha => by
  subst ha
  rcases hown3.2 with ⟨h, _⟩ | ⟨g, cap', cur, h, hb, _⟩
  ·cases h
  ·cases h; exact hb
 have hkl3 : ∀ a, ka = some a → a.block < w3.heap.size := fun a ha => by
  subst ha
  exact (hown3.lt a.block rfl).2
 have hs3 := hf3.size
 have hmk : ∀ W : World, (Instr.makeSlice 24 (.int .i64 4) (.int .i64 4)).run Tryz.prog W = .ok (.slice (some ⟨W.heap.size, 0, none⟩) 4 4) (W.alloc (.cells #[.int .i64 0, .int .i64 0, .int .i64 0, .int .i64 0] 3)) := fun W => by
  obtain ⟨inf, hi0, hz0, hz1, hz2⟩ := info_parts int_info
  refine (run_make W 24 3 inf (.int .i64 0) Tryz.underlying24 hi0 hz0 .i64 .i64 4 4 (by decide) (by decide) (by rw [hz2]; decide) (by decide)).trans ?_
  rw [hz1]
  have hmc : madeCells #[Value.int .i64 0] 4 = #[.int .i64 0, .int .i64 0, .int .i64 0, .int .i64 0] := by
   have hr4 : Array.range 4 = #[0, 1, 2, 3] := by decide
   unfold madeCells
   rw [hr4]
   simp
  show Result.ok _ (W.alloc (.cells (madeCells #[Value.int .i64 0] 4) 3)) = _
  rw [hmc]
  rfl
 obtain ⟨w4, HW4⟩ : ∃ w4, Hid (w4 = w3.alloc (.cells #[.int .i64 0, .int .i64 0, .int .i64 0, .int .i64 0] 3)) := ⟨_, rfl⟩
 obtain ⟨gl, Hgl⟩ : ∃ gl, Hid (gl = w3.heap.size) := ⟨_, rfl⟩
 have hgl := Hgl.out
 have hf4 : Fr (fun _ => False) w3 w4 := by rw [HW4.out]; exact (Fr.refl _ _).alloc _
 have hg4 : w4.heap[gl]? = some (.cells (intC [0, 0, 0, 0]).toArray 3 (0, 0)) := by rw [HW4.out, hgl]; exact heap_alloc_at _ _
 have hgl4 := lt_of_heap hg4
 have hf24 := hf3.trans hf4 (fun _ _ h => h)
 have hF4 := hF2.trans hf24 (fun _ _ h => h)
 have HK : Hid (Kep w gl ka kz [0, 0, 0, 0] w4) := ⟨hg4, rfl, hin3.frz hf4, hF4, fun a ha e => by have := hkl3 a ha; omega, by have := hF2.size; omega⟩
 have hPm : ∀ b, w.heap.size ≤ b → b < w2.heap.size → PmI w gl ka b := fun b h1 h2 => ⟨h1, by omega, fun a ha e => by have := hkb a ha; omega⟩
 have HS : Hid (SM (PmI w gl ka) w4 Pp w0.heap.size rl nn (1 + pz) X A B 10 0 0 true true [] w4) := by
  refine ⟨_, [], s2, fun _ => False, PartF Pp (.slice none 0 0) (.slice none 0 0) lv, ⟨[], [], 0⟩, ⟨?_, (hE2'.fr hf24 id id (fun _ h => h.elim) (fun _ _ => id)).disk, hJ2.jd, ⟨recsOk_nil, EffJ.nil, List.prefix_rfl, .inl hJ2⟩, ?_, Nat.le_refl _, (fun _ h => h.elim), ?_, ⟨hPm A (by omega) hAl, hPm B (by omega) hBl⟩, fun b hb => ⟨?_, ?_, fun a ha e => ?_⟩, Fr.refl _ _⟩, fun _ => hg2.1, .inl ⟨0, [], F, by decide, hE2'.fr hf24 id id (fun _ h => h.elim) (fun _ _ => id), fun b hb => ?_, fun _ => hg2⟩⟩
  ·decide
  ·rw [hrl0]
   exact ⟨by omega, _, _, _, hpr2.fr hf24 (fun _ _ h => h), fun _ => Iff.rfl⟩
  ·exact fun b hb => hPm b (hpw b hb) (hpl b hb)
  ·have := hF4.size; omega
  ·omega
  ·have := hkl3 a ha; have := hf4.size; omega
  ·exact hPm b (by have := hFn2 b hb; omega) (hFl b hb)
 have HH : Hid (AskOk Pp w0.heap.size (rlOf rl 0)) := ask_ok_any (by rw [hrl0]; omega) hrli
 have HGP : Hid (¬ PmI w gl ka 0) := PmI.no hG
 have HPm : Hid (∀ b, PmI w gl ka b → ¬ b = gl) := fun b h => h.2.1
 obtain ⟨b0, hb0⟩ : ∃ b0, b0 = w0.heap.size := ⟨_, rfl⟩
 rw [← hb0] at HS HH
 clear HFE hkz hkl HL hin3 hown3 hf3 hf4 hf24 hF4 hF2 hPm hE2' hg2 he2 hJ2 hpr2 hpl hpw hFl hU2 hAl hBl hA2 hB2 hFn2 hg4 hkb hkl3 hb0 hgl hs0 hs1 hs2 hlv hPp hrli
 go_wp2_with fail
 rw [← HW4.out, ← Hgl.out]
 clear HW4 Hgl hmk hgl4 hs3
 go_loopw [11, 12, 15] (fun dv xv iv wr => ∃ (i X A B : Nat) (R : List Rec) (ls : List Int), i ≤ 12 ∧ i ≤ cs.length ∧ dv = .pointer (some ⟨A, 0, none⟩) ∧ xv = .pointer (some ⟨X, 0, none⟩) ∧ iv = .int .i64 i ∧ Hid (SM (PmI w gl ka) wr Pp b0 rl nn (1 + pz) X A B (10 + 20 * i) 0 (20 * i) true true R wr ∧ LastI R ls ∧ Kep w gl ka kz ls wr)) (fun _ _ iv _ => 12 - (intOf iv).toNat)
 case atStart => exact ⟨0, X, A, B, [], [0, 0, 0, 0], by decide, Nat.zero_le _, rfl, rfl, rfl, HS.out, LastI.zero, HK.out⟩
 case round =>
  clear HS HK
  obtain ⟨i, X, A, B, R, ls, hi12, hil, rfl, rfl, rfl, HI⟩ := hrel
  by_cases hlt : i < cs.length
  ·have hlt' : (i : Int) < cs.length := by omega
   by_cases hlt2 : i < 12
   ·have hlt2' : (i : Int) < 12 := by omega
    obtain ⟨z, hz⟩ : ∃ z, cs[i]? = some z := ⟨_, List.getElem?_eq_getElem hlt⟩
    obtain ⟨g, off, rfl, hcz⟩ := HC.out.1 i z hz
    have hcz' : wr.cell? ⟨g, off + i, none⟩ = some (.int .i64 z) := HI.out.2.2.f.cell hcz (fun h => h)
    obtain ⟨z1, z2⟩ := HC.out.2 z (List.mem_of_getElem? hz)
    have HPV := kPick_ok z 1073741824 wr z1 z2 (by decide) (by decide)
    obtain ⟨v, hv⟩ : ∃ v, v = kpk z 1073741824 := ⟨_, rfl⟩
    obtain ⟨v0, v1⟩ := kpk_in z 1073741824 (by decide)
    rw [← hv] at HPV v0 v1
    clear hv hz hcz z1 z2
    go_wp2_with fail
    refine HPV.mono ?_
    rintro e wq ⟨rfl, eq⟩
    rw [eq]
    clear eq wq HPV hcz'
    have HI1 : Hid (SM (PmI w gl ka) wr Pp b0 rl nn (1 + pz) X A B (10 + 20 * i + 1) 0 (20 * i) true true R wr ∧ LastI R ls ∧ Kep w gl ka kz ls wr) := ⟨HI.out.1.mono (by omega) (Nat.le_refl _) (Nat.le_refl _), HI.out.2⟩
    clear HI
    go_wp2_with fail
    go_loopw [17] (fun iv wr => ∃ q : Nat, 1 ≤ q ∧ q ≤ 4 ∧ iv = .int .i64 q ∧ Hid (SM (PmI w gl ka) wr Pp b0 rl nn (1 + pz) X A B (10 + 20 * i + q) 0 (20 * i) true true R wr ∧ LastI R ls ∧ Kep w gl ka kz ls wr)) (fun iv _ => 4 - (intOf iv).toNat)
    case atStart => exact ⟨1, by decide, by decide, rfl, HI1⟩
    case round =>
     clear HI1
     obtain ⟨q, hq1, hq4, rfl, HI⟩ := hrel
     by_cases hq : q ≤ 3
     ·have hq' : (q : Int) ≤ 3 := by omega
      have hqn : (HNN.out q).1 = (HNN.out q).1 := rfl
      obtain ⟨nq1, nq6⟩ := HNN.out q
      clear hqn
      go_wp2_with fail
      refine (HM.out wr q hq).mono ?_
      rintro e wq ⟨rfl, eq⟩
      rw [eq]
      clear eq wq
      go_wp2_with fail
      refine (kSteps_ok wr q (nn q) (by omega) (by omega)).mono ?_
      rintro e wa ⟨aoa, capa, rfl, hksa⟩
      obtain ⟨ga, rfl⟩ := own_someS hksa.2 nq1
      have hrowsa := own_rowsS hksa.2
      have HIa : Hid (SM (PmI w gl ka) wr Pp b0 rl nn (1 + pz) X A B (10 + 20 * i + q) 0 (20 * i) true true R wa ∧ LastI R ls ∧ Kep w gl ka kz ls wa) := ⟨HI.out.1.frz hksa.1, HI.out.2.1, HI.out.2.2.frz hksa.1⟩
      clear HI hksa
      by_cases hb : (bits BinOp.and IntKind.i64 (v / 2 ^ q) 1 == 1) = true
      ·have HSU := (HIa.out.1.base).sub (cap := capa) (hG.fr HIa.out.2.2.f (fun h => h)) HGP.out (by omega) HNN.out hq1 hq hrowsa
       go_wp2_with fail
       refine HSU.mono ?_
       rintro e wb ⟨⟨vb, rfl⟩, hSb⟩
       have HIb : Hid (SM (PmI w gl ka) wb Pp b0 rl nn (1 + pz) X A B (10 + 20 * i + (q + 1)) 0 (20 * i) true true R wb ∧ LastI R ls ∧ Kep w gl ka kz ls wb) := ⟨hSb.base, HIa.out.2.1, HIa.out.2.2.fr hSb.nw⟩
       clear HSU hSb HIa hrowsa
       go_wp2
       go_roundw
       case rel => exact ⟨q + 1, by omega, by omega, by go_num, HIb⟩
       case measure => simp [intOf]; omega
      ·have HIb : Hid (SM (PmI w gl ka) wa Pp b0 rl nn (1 + pz) X A B (10 + 20 * i + (q + 1)) 0 (20 * i) true true R wa ∧ LastI R ls ∧ Kep w gl ka kz ls wa) := ⟨HIa.out.1.base.mono (by omega) (Nat.le_refl _) (Nat.le_refl _), HIa.out.2⟩
       clear HIa hrowsa
       go_wp2
       go_roundw
       case rel => exact ⟨q + 1, by omega, by omega, by go_num, HIb⟩
       case measure => simp [intOf]; omega
     ·have hq' : ¬ (q : Int) ≤ 3 := by omega
      obtain ⟨t0, ht0⟩ : ∃ t0 : Nat, (t0 : Int) = v / 16 % 4 := ⟨(v / 16 % 4).toNat, by omega⟩
      have ht3 : t0 ≤ 3 := by omega
      have HI2 : Hid (SM (PmI w gl ka) wr Pp b0 rl nn (1 + pz) X A B (14 + 20 * i + 2 * (3 - t0)) (3 - t0) (20 * i + 3 * (3 - t0)) true true R wr ∧ LastI R ls ∧ Kep w gl ka kz ls wr) := ⟨HI.out.1.mono (by omega) (Nat.zero_le _) (by omega), HI.out.2⟩
      clear HI
      go_wp2_with fail
      go_loopw [19] (fun tv wr => ∃ t : Nat, t ≤ 3 ∧ tv = .int .i64 t ∧ Hid (SM (PmI w gl ka) wr Pp b0 rl nn (1 + pz) X A B (14 + 20 * i + 2 * (3 - t)) (3 - t) (20 * i + 3 * (3 - t)) true true R wr ∧ LastI R ls ∧ Kep w gl ka kz ls wr)) (fun tv _ => (intOf tv).toNat)
      case atStart => exact ⟨t0, ht3, by rw [ht0], HI2⟩
      case round =>
       clear HI2 ht0 ht3
       obtain ⟨t, ht, rfl, HI⟩ := hrel
       by_cases htp : 0 < t
       ·have htp' : (0 : Int) < t := by omega
        have HTK := HI.out.1.base.tick HH.out (hG.fr HI.out.2.2.f (fun h => h)) HGP.out (by omega) (by omega) (by omega) HNN.out (by omega) (by omega)
        go_wp2_with fail
        refine HTK.mono ?_
        rintro e wb ⟨⟨vb, rfl⟩, hSb⟩
        have HIb : Hid (SM (PmI w gl ka) wb Pp b0 rl nn (1 + pz) X A B (14 + 20 * i + 2 * (3 - (t - 1))) (3 - (t - 1)) (20 * i + 3 * (3 - (t - 1))) true true R wb ∧ LastI R ls ∧ Kep w gl ka kz ls wb) := ⟨hSb.base.mono (by omega) (by omega) (by omega), HI.out.2.1, HI.out.2.2.fr hSb.nw⟩
        clear HTK hSb HI
        go_wp2
        go_roundw
        case rel => exact ⟨t - 1, by omega, by go_num, HIb⟩
        case measure => simp [intOf]; omega
       ·have htp' : ¬ (0 : Int) < t := by omega
        have HI3 : Hid (SM (PmI w gl ka) wr Pp b0 rl nn (1 + pz) X A B (20 + 20 * i) 3 (20 * i + 9) true true R wr ∧ LastI R ls ∧ Kep w gl ka kz ls wr) := ⟨HI.out.1.mono (by omega) (by omega) (by omega), HI.out.2⟩
        clear HI
        go_upto_if 90 with fail
        go_cut [] from 45 (fun wc => ∃ ob : Bool, (v / 8192 % 2 = 0 ∨ ob = true) ∧ Hid (SM (PmI w gl ka) wc Pp b0 rl nn (1 + pz) X A B (20 + 20 * i) 3 (20 * i + 9) false ob R wc ∧ LastI R ls ∧ Kep w gl ka kz ls wc))
        case first =>
         have hj0 : 0 ≤ v / 64 % 20 := by omega
         have hj1 : v / 64 % 20 ≤ 1000 := by omega
         by_cases hof : v / 8192 % 2 = 0
         ·have HO := HI3.out.1.base.off (by omega) (v / 64 % 20) hj0 hj1
          go_wp2_with fail
          refine HO.mono ?_
          rintro e wb ⟨rfl, hSb⟩
          have HIb : Hid (SM (PmI w gl ka) wb Pp b0 rl nn (1 + pz) X A B (20 + 20 * i) 3 (20 * i + 9) false false R wb ∧ LastI R ls ∧ Kep w gl ka kz ls wb) := ⟨hSb.base, HI3.out.2.1, HI3.out.2.2.fr hSb.nw⟩
          clear HO hSb HI3
          go_wp2
          go_meet
          case rel => exact ⟨false, .inl hof, HIb⟩
         ·have HO := HI3.out.1.base.bad (by omega) (v / 64 % 20) 1 hj0 hj1 (by decide) (by decide)
          go_wp2_with fail
          refine HO.mono ?_
          rintro e wb ⟨rfl, hSb⟩
          have HIb : Hid (SM (PmI w gl ka) wb Pp b0 rl nn (1 + pz) X A B (20 + 20 * i) 3 (20 * i + 9) false true R wb ∧ LastI R ls ∧ Kep w gl ka kz ls wb) := ⟨hSb.base, HI3.out.2.1, HI3.out.2.2.fr hSb.nw⟩
          clear HO hSb HI3
          go_wp2
          go_meet
          case rel => exact ⟨true, .inr rfl, HIb⟩
        case rest =>
         clear HI3
         obtain ⟨ob, hob, HI4⟩ := hcut
         go_upto_if 104 with fail
         go_cut [] from 45 (fun wc => Hid (SM (PmI w gl ka) wc Pp b0 rl nn (1 + pz) X A B (21 + 20 * i) 3 (20 * i + 9) false ob R wc ∧ LastI R ls ∧ Kep w gl ka kz ls wc))
         case first =>
          obtain ⟨nq1, nq6⟩ := HNN.out 3
          by_cases hsu : v / 4096 % 2 = 0
          ·go_wp2_with fail
           refine (HM.out wc 3 (by decide)).mono ?_
           rintro e wq ⟨rfl, eq⟩
           rw [eq]
           clear eq wq
           go_wp2_with fail
           refine (kSteps_ok wc 3 (nn 3) (by decide) (by omega)).mono ?_
           rintro e wa ⟨aoa, capa, rfl, hksa⟩
           obtain ⟨ga, rfl⟩ := own_someS hksa.2 nq1
           have hrowsa := own_rowsS hksa.2
           have HIa : Hid (SM (PmI w gl ka) wc Pp b0 rl nn (1 + pz) X A B (20 + 20 * i) 3 (20 * i + 9) false ob R wa ∧ LastI R ls ∧ Kep w gl ka kz ls wa) := ⟨HI4.out.1.frz hksa.1, HI4.out.2.1, HI4.out.2.2.frz hksa.1⟩
           clear HI4 hksa
           have HSU := (HIa.out.1.base).sub (q := 3) (cap := capa) (hG.fr HIa.out.2.2.f (fun h => h)) HGP.out (by omega) HNN.out (by decide) (by decide) hrowsa
           go_wp2_with fail
           refine HSU.mono ?_
           rintro e wb ⟨⟨vb, rfl⟩, hSb⟩
           have HIb : Hid (SM (PmI w gl ka) wb Pp b0 rl nn (1 + pz) X A B (21 + 20 * i) 3 (20 * i + 9) false ob R wb ∧ LastI R ls ∧ Kep w gl ka kz ls wb) := ⟨hSb.base.mono (by omega) (Nat.le_refl _) (Nat.le_refl _), HIa.out.2.1, HIa.out.2.2.fr hSb.nw⟩
           clear HSU hSb HIa hrowsa
           go_wp2
           go_meet
           case rel => exact HIb
          ·have HIb : Hid (SM (PmI w gl ka) wc Pp b0 rl nn (1 + pz) X A B (21 + 20 * i) 3 (20 * i + 9) false ob R wc ∧ LastI R ls ∧ Kep w gl ka kz ls wc) := ⟨HI4.out.1.mono (by omega) (Nat.le_refl _) (Nat.le_refl _), HI4.out.2⟩
           clear HI4
           go_wp2
           go_meet
           case rel => exact HIb
         case rest =>
          clear HI4
          have HTK := hcut.out.1.base.tick HH.out (hG.fr hcut.out.2.2.f (fun h => h)) HGP.out (by omega) (by omega) (by omega) HNN.out (by omega) (by omega)
          go_wp2_with fail
          refine HTK.mono ?_
          rintro e wd ⟨⟨vd, rfl⟩, hSd⟩
          have HI5 : Hid (SD (PmI w gl ka) wd Pp b0 rl nn A B (23 + 20 * i) (20 * i + 12) false ob R wd ∧ LastI R ls ∧ Kep w gl ka kz ls wd) := ⟨hSd.base.sd.weak (by omega), hcut.out.2.1, hcut.out.2.2.fr hSd.nw⟩
          clear HTK hSd hcut
          go_upto_if 115 with fail
          go_cut [11] from 45 (fun dv wc => ∃ A B : Nat, dv = .pointer (some ⟨A, 0, none⟩) ∧ Hid (SD (PmI w gl ka) wc Pp b0 rl nn A B (23 + 20 * i) (20 * i + 12) false true R wc ∧ LastI R ls ∧ Kep w gl ka kz ls wc))
          case first =>
           by_cases hof : v / 8192 % 2 = 0
           ·have HCT := HI5.out.1.cut (kc := kcap) (fun q => (HNN.out q).2) HI5.out.2.2.k (by omega)
            go_wp2_with fail
            refine HCT.mono ?_
            rintro e wb ⟨A', B', rfl, hSb⟩
            have HIb : Hid (SD (PmI w gl ka) wb Pp b0 rl nn A' B' (23 + 20 * i) (20 * i + 12) false true R wb ∧ LastI R ls ∧ Kep w gl ka kz ls wb) := ⟨hSb.weak (by omega), HI5.out.2.1, HI5.out.2.2.fr hSb.nw⟩
            clear HCT hSb HI5
            go_wp2
            go_meet
            case rel => exact ⟨A', B', rfl, HIb⟩
           ·obtain rfl : ob = true := hob.resolve_left hof
            go_wp2
            go_meet
            case rel => exact ⟨A, B, rfl, HI5⟩
          case rest =>
           clear HI5 hob
           obtain ⟨A, B, rfl, HI6⟩ := hcut
           have HBD := HI6.out.1.bad0 (by omega)
           go_wp2_with fail
           refine HBD.mono ?_
           rintro e we ⟨rfl, hSe⟩
           have HI7 : Hid (SD (PmI w gl ka) we Pp b0 rl nn A B (23 + 20 * i) (20 * i + 12) true true R we ∧ LastI R ls ∧ Kep w gl ka kz ls we) := ⟨hSe.base, HI6.out.2.1, HI6.out.2.2.fr hSe.nw⟩
           clear HBD hSe HI6
           go_wp2_with fail
           refine (HP.out we).mono ?_
           rintro e wq ⟨rfl, eq⟩
           rw [eq]
           clear eq wq
           have HOP := HI7.out.1.open (pause := 1 + pz) (hG.fr HI7.out.2.2.f (fun h => h)) HGP.out (by omega) (fun q => (HNN.out q).2) (by omega) (by omega)
           go_wp2_with fail
           refine HOP.mono ?_
           rintro e wf ⟨Y, rs, s, ps, rfl, hSf⟩
           obtain ⟨pn, hpn⟩ : ∃ pn, pn = s.ents.length := ⟨_, rfl⟩
           have HPE := hSf.pend
           rw [← hpn] at HPE
           have HKf := HI7.out.2.2.fr hSf.nw
           have HLf := HI7.out.2.1
           have HSf : Hid (SO (PmI w gl ka) we Pp b0 rl nn (1 + pz) Y A B (23 + 20 * i + 1) (20 * i + 12) rs R s ps wf ∧ pn = s.ents.length) := ⟨hSf, hpn⟩
           clear HOP HI7 hSf hpn
           go_wp2_with fail
           refine HPE.mono ?_
           rintro e wq ⟨rfl, eq⟩
           rw [eq]
           clear eq wq HPE
           go_wp2_with fail
           obtain ⟨su, hsu⟩ : ∃ su, su = ((pn : Int) == 0) := ⟨_, rfl⟩
           rw [← hsu]
           obtain ⟨R2, HC0⟩ : ∃ R2, Hid (SO (PmI w gl ka) wf Pp b0 rl nn (1 + pz) Y A B (23 + 20 * i + 1) (20 * i + 12) rs R2 s ps wf ∧ LastI R2 ls ∧ Kep w gl ka kz ls wf ∧ (su = true → R2 = rs)) := by
            have hok := HSf.out.1.eff
            have h0 := HSf.out.1.fr (Fr.refl (fun _ => False) wf) (fun _ _ h => h)
            cases hs : su with
            | true =>
             have hp : pn = 0 := by rw [hs] at hsu; simpa using hsu.symm
             exact ⟨rs, h0.sure (by rw [← HSf.out.2]; exact hp), HLf.mono hok.2.2 hok.1, HKf, fun _ => rfl⟩
            | false => exact ⟨R, h0, HLf, HKf, fun h => by cases h⟩
           clear HSf HLf HKf hsu
           go_loopw [23] (fun iv wr => ∃ (q2 : Nat) (ls2 : List Int), 1 ≤ q2 ∧ q2 ≤ 4 ∧ iv = .int .i64 q2 ∧ Hid (SO (PmI w gl ka) wr Pp b0 rl nn (1 + pz) Y A B (23 + 20 * i + 1) (20 * i + 12) rs R2 s ps wr ∧ LastI R2 ls2 ∧ Kep w gl ka kz ls2 wr ∧ (su = true → R2 = rs))) (fun iv _ => 4 - (intOf iv).toNat)
           case atStart => exact ⟨1, ls, by decide, by decide, rfl, HC0⟩
           case round =>
            clear HC0
            obtain ⟨q2, ls2, hp1, hp4, rfl, HQ⟩ := hrel
            by_cases hp : q2 ≤ 3
            ·have hp' : (q2 : Int) ≤ 3 := by omega
             obtain ⟨z, hz⟩ : ∃ z, ls2[q2]? = some z := ⟨_, List.getElem?_eq_getElem (by rw [HQ.out.2.2.1.n]; omega)⟩
             have HZ : Hid (ls2[q2]? = some z) := hz
             clear hz
             go_wp2_with fail
             refine (HM.out wr q2 hp).mono ?_
             rintro e wq ⟨rfl, eq⟩
             rw [eq]
             clear eq wq
             have HST := HQ.out.1.straight (by omega) q2
             go_wp2_with fail
             refine HST.mono ?_
             rintro e wg ⟨rfl, hfg⟩
             have HQ2 : Hid (SO (PmI w gl ka) wg Pp b0 rl nn (1 + pz) Y A B (23 + 20 * i + 1) (20 * i + 12) rs R2 s ps wg ∧ LastI R2 ls2 ∧ Kep w gl ka kz ls2 wg ∧ (su = true → R2 = rs)) := ⟨HQ.out.1.fr hfg (fun _ _ h => h), HQ.out.2.1, HQ.out.2.2.1.frz hfg, HQ.out.2.2.2⟩
             clear HQ hfg HST
             have HSS := HQ2.out.1.sta q2
             go_wp2_with fail
             refine HSS.mono ?_
             rintro e wh ⟨st, vh, rfl, hfh, hcase⟩
             have HQ3 : Hid (SO (PmI w gl ka) wh Pp b0 rl nn (1 + pz) Y A B (23 + 20 * i + 1) (20 * i + 12) rs R2 s ps wh ∧ LastI R2 ls2 ∧ Kep w gl ka kz ls2 wh ∧ (su = true → R2 = rs)) := ⟨HQ2.out.1.fr hfh (fun _ _ h => h), HQ2.out.2.1, HQ2.out.2.2.1.frz hfh, HQ2.out.2.2.2⟩
             clear HQ2 hfh HSS
             obtain ⟨sid, s1, s2', sn, str, sdu⟩ := st
             have hfa : Fr (fun _ => False) wh (wh.alloc (.cells #[.int .i64 sid, .int .i64 s1, .int .i64 s2', .int .i64 sn, .int .i64 str, .int .i64 sdu] 42)) := (Fr.refl _ _).alloc _
             have hbx := heap_alloc_at wh (.cells #[.int .i64 sid, .int .i64 s1, .int .i64 s2', .int .i64 sn, .int .i64 str, .int .i64 sdu] 42)
             have HQ4 : Hid (SO (PmI w gl ka) (wh.alloc (.cells #[.int .i64 sid, .int .i64 s1, .int .i64 s2', .int .i64 sn, .int .i64 str, .int .i64 sdu] 42)) Pp b0 rl nn (1 + pz) Y A B (23 + 20 * i + 1) (20 * i + 12) rs R2 s ps (wh.alloc (.cells #[.int .i64 sid, .int .i64 s1, .int .i64 s2', .int .i64 sn, .int .i64 str, .int .i64 sdu] 42)) ∧ LastI R2 ls2 ∧ Kep w gl ka kz ls2 (wh.alloc (.cells #[.int .i64 sid, .int .i64 s1, .int .i64 s2', .int .i64 sn, .int .i64 str, .int .i64 sdu] 42)) ∧ (su = true → R2 = rs)) := ⟨HQ3.out.1.fr hfa (fun _ _ h => h), HQ3.out.2.1, HQ3.out.2.2.1.frz hfa, HQ3.out.2.2.2⟩
             clear HQ3 hfa
             have hq4' : (q2 : Int) < 4 := by omega
             have cz : (wh.alloc (.cells #[.int .i64 sid, .int .i64 s1, .int .i64 s2', .int .i64 sn, .int .i64 str, .int .i64 sdu] 42)).cell? ⟨gl, q2, none⟩ = some (.int .i64 z) := HQ4.out.2.2.1.cell HZ.out
             rcases hcase with ⟨rfl, a, ha, hid, hst⟩ | ⟨⟨f, rfl⟩, hno⟩
             ·have HRE := HQ4.out.1.reach (by omega) ha
              rw [← hst] at HRE
              have hs1 : s1 = a.S.1 := by have := congrArg ST.state hst; exact this
              have hzs : 3 ≤ z → s1 = z := fun h => hs1.trans (HQ4.out.2.1.over HQ4.out.1.eff.2.2 HQ4.out.1.eff.1 hp1 hp HZ.out ha hid h)
              have HA : Hid (a ∈ recL rs ∧ a.id = (q2 : Int) ∧ s1 = a.S.1) := ⟨ha, hid, hs1⟩
              clear ha hid hst hs1
              unfold ST.cs at HRE ⊢
              go_wp2_with fail
              generalize wh.alloc (.cells #[.int .i64 sid, .int .i64 s1, .int .i64 s2', .int .i64 sn, .int .i64 str, .int .i64 sdu] 42) = wk at *
              generalize wh.heap.size = Bx at *
              refine HRE.mono ?_
              rintro e wl ⟨rfl, hfl⟩
              have HQ5 : Hid (SO (PmI w gl ka) wl Pp b0 rl nn (1 + pz) Y A B (23 + 20 * i + 1) (20 * i + 12) rs R2 s ps wl ∧ LastI R2 ls2 ∧ Kep w gl ka kz ls2 wl ∧ (su = true → R2 = rs)) := ⟨HQ4.out.1.fr hfl (fun _ _ h => h), HQ4.out.2.1, HQ4.out.2.2.1.frz hfl, HQ4.out.2.2.2⟩
              have czl := hfl.cell cz (fun h => h)
              have cs1 : wl.cell? ⟨Bx, 1, none⟩ = some (.int .i64 s1) := (cell_of_row _ _ 1 _ _ _ (hfl.keep hbx (fun h => h))).trans rfl
              have fzl := HQ5.out.2.2.1.fz q2
              clear HQ4 HRE hfl hbx cz
              by_cases hz3 : 3 ≤ z
              ·obtain rfl := hzs hz3
               clear hzs
               go_wp2
               go_region
               obtain ⟨wm, HWm⟩ : ∃ wm, Hid (wm = wl.drew) := ⟨_, rfl⟩
               have hfm : Fr (fun _ => False) wl wm := by rw [HWm.out]; exact (Fr.refl _ _).drew
               rw [← HWm.out]
               have HQ6 : Hid (SO (PmI w gl ka) wm Pp b0 rl nn (1 + pz) Y A B (23 + 20 * i + 1) (20 * i + 12) rs R2 s ps wm ∧ LastI R2 ls2 ∧ Kep w gl ka kz ls2 wm ∧ (su = true → R2 = rs)) := ⟨HQ5.out.1.fr hfm (fun _ _ h => h), HQ5.out.2.1, HQ5.out.2.2.1.frz hfm, HQ5.out.2.2.2⟩
               have czm := hfm.cell czl (fun h => h)
               have csm := hfm.cell cs1 (fun h => h)
               have fzm := HQ6.out.2.2.1.fz q2
               clear HQ5 HWm hfm czl cs1 fzl
               cases su with
               | true =>
                have hR := HQ6.out.2.2.2 rfl
                have HQ7 : Hid (SO (PmI w gl ka) (wm.setCell ⟨gl, q2, none⟩ (.int .i64 s1)) Pp b0 rl nn (1 + pz) Y A B (23 + 20 * i + 1) (20 * i + 12) rs R2 s ps (wm.setCell ⟨gl, q2, none⟩ (.int .i64 s1)) ∧ LastI R2 (ls2.set q2 s1) ∧ Kep w gl ka kz (ls2.set q2 s1) (wm.setCell ⟨gl, q2, none⟩ (.int .i64 s1)) ∧ (true = true → R2 = rs)) := ⟨HQ6.out.1.fr (Fr.set1 wm gl q2 (.int .i64 s1)) HPm.out, by
                 have := HQ6.out.2.1.set (q := q2) (a := a) (by rw [hR]; exact HA.out.1) HA.out.2.1
                 rw [← HA.out.2.2] at this
                 exact this, HQ6.out.2.2.1.set q2 s1, fun _ => hR⟩
                clear HQ6 HA hR
                go_wp2
                go_roundw
                case rel => exact ⟨q2 + 1, ls2.set q2 s1, by omega, by omega, by go_num, HQ7.out.1, HQ7.out.2.1, HQ7.out.2.2.1, fun _ => HQ7.out.2.2.2 rfl⟩
                case measure => simp [intOf]; omega
               | false =>
                clear HA
                go_wp2
                go_roundw
                case rel => exact ⟨q2 + 1, ls2, by omega, by omega, by go_num, HQ6⟩
                case measure => simp [intOf]; omega
              ·clear hzs
               have hz3' : z < 3 := by omega
               have hz3d : decide (3 ≤ z) = false := decide_eq_false hz3
               go_wp2
               go_region
               obtain ⟨wm, HWm⟩ : ∃ wm, Hid (wm = wl.drew) := ⟨_, rfl⟩
               have hfm : Fr (fun _ => False) wl wm := by rw [HWm.out]; exact (Fr.refl _ _).drew
               rw [← HWm.out]
               have HQ6 : Hid (SO (PmI w gl ka) wm Pp b0 rl nn (1 + pz) Y A B (23 + 20 * i + 1) (20 * i + 12) rs R2 s ps wm ∧ LastI R2 ls2 ∧ Kep w gl ka kz ls2 wm ∧ (su = true → R2 = rs)) := ⟨HQ5.out.1.fr hfm (fun _ _ h => h), HQ5.out.2.1, HQ5.out.2.2.1.frz hfm, HQ5.out.2.2.2⟩
               have czm := hfm.cell czl (fun h => h)
               have csm := hfm.cell cs1 (fun h => h)
               have fzm := HQ6.out.2.2.1.fz q2
               clear HQ5 HWm hfm czl cs1 fzl
               cases su with
               | true =>
                have hR := HQ6.out.2.2.2 rfl
                have HQ7 : Hid (SO (PmI w gl ka) (wm.setCell ⟨gl, q2, none⟩ (.int .i64 s1)) Pp b0 rl nn (1 + pz) Y A B (23 + 20 * i + 1) (20 * i + 12) rs R2 s ps (wm.setCell ⟨gl, q2, none⟩ (.int .i64 s1)) ∧ LastI R2 (ls2.set q2 s1) ∧ Kep w gl ka kz (ls2.set q2 s1) (wm.setCell ⟨gl, q2, none⟩ (.int .i64 s1)) ∧ (true = true → R2 = rs)) := ⟨HQ6.out.1.fr (Fr.set1 wm gl q2 (.int .i64 s1)) HPm.out, by
                 have := HQ6.out.2.1.set (q := q2) (a := a) (by rw [hR]; exact HA.out.1) HA.out.2.1
                 rw [← HA.out.2.2] at this
                 exact this, HQ6.out.2.2.1.set q2 s1, fun _ => hR⟩
                clear HQ6 HA hR
                go_wp2
                go_roundw
                case rel => exact ⟨q2 + 1, ls2.set q2 s1, by omega, by omega, by go_num, HQ7.out.1, HQ7.out.2.1, HQ7.out.2.2.1, fun _ => HQ7.out.2.2.2 rfl⟩
                case measure => simp [intOf]; omega
               | false =>
                clear HA
                go_wp2
                go_roundw
                case rel => exact ⟨q2 + 1, ls2, by omega, by omega, by go_num, HQ6⟩
                case measure => simp [intOf]; omega
             ·have hz0 : z = 0 := HQ4.out.2.1.none HQ4.out.1.eff.2.2 HQ4.out.1.eff.1 hp1 hp HZ.out hno
              subst hz0
              have HRL : Hid (SO (PmI w gl ka) (wh.alloc (.cells #[.int .i64 sid, .int .i64 s1, .int .i64 s2', .int .i64 sn, .int .i64 str, .int .i64 sdu] 42)) Pp b0 rl nn (1 + pz) Y A B (23 + 20 * i + 1) (20 * i + 12) rs R2 s ps (wh.alloc (.cells #[.int .i64 sid, .int .i64 s1, .int .i64 s2', .int .i64 sn, .int .i64 str, .int .i64 sdu] 42)) ∧ LastI R2 ls2 ∧ Kep w gl ka kz ls2 (wh.alloc (.cells #[.int .i64 sid, .int .i64 s1, .int .i64 s2', .int .i64 sn, .int .i64 str, .int .i64 sdu] 42)) ∧ (su = true → R2 = rs)) := HQ4
              clear hno HQ4 hbx
              unfold ST.cs
              go_wp2
              go_roundw
              case rel => exact ⟨q2 + 1, ls2, by omega, by omega, by go_num, HRL⟩
              case measure => simp [intOf]; omega
            ·have hp' : ¬ (q2 : Int) ≤ 3 := by omega
             have HN : Hid (SM (PmI w gl ka) wr Pp b0 rl nn (1 + pz) Y A B (10 + 20 * (i + 1)) 0 (20 * (i + 1)) true true R2 wr ∧ LastI R2 ls2 ∧ Kep w gl ka kz ls2 wr) := ⟨HQ.out.1.sm.mono (by omega) (Nat.le_refl _) (by omega), HQ.out.2.1, HQ.out.2.2.1⟩
             clear HQ
             go_wp2
             go_roundw
             case rel => exact ⟨i + 1, Y, A, B, R2, ls2, by omega, by omega, rfl, rfl, by go_num, HN⟩
             case measure => simp [intOf]; omega
   ·have hlt2' : ¬ (i : Int) < 12 := by omega
    go_wp2
    go_ret
    exact ⟨rfl, HI.out.2.2.f⟩
  ·have hlt' : ¬ (i : Int) < cs.length := by omega
   go_wp2
   go_ret
   exact ⟨rfl, HI.out.2.2.f⟩
end Go.Proofs.YteebjgfalllbjaaGreatDoor
