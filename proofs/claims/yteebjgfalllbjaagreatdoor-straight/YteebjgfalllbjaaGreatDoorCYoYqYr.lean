import Derived.Test.YteebjgfalllbjaaGreatDoorCYkYlKs
import Derived.Test.YteebjgfalllbjaaGreatDoorCKtKxYf
import Derived.Test.YteebjgfalllbjaaGreatDoorCAs2
import Derived.Test.YteebjgfalllbjaaGreatDoorCKpKqKc
namespace Go.Proofs.YteebjgfalllbjaaGreatDoor
open Go.RowKit
theorem own_ints {W : World} {b0 : Nat} {ao : Option Addr} {n cap : Nat} {zs : List Int} (h : W.ownsRow b0 3 1 (.slice ao n cap) n (intC zs)) : IntsAt W ao zs := by
 intro i z hz
 have hi := (List.getElem?_eq_some_iff.1 hz).1
 have hlen := h.1
 have hl : (intC zs).length = zs.length := by simp [intC]
 rcases h.2 with ⟨hv, hn⟩ | ⟨g, cap', cur, hv, _, hg, _, _, _, hx⟩
 ·rw [hl, hn] at hlen; omega
 ·cases hv
  refine ⟨g, 0, rfl, ?_⟩
  refine (cell_of_row W g _ _ _ _ hg).trans ?_
  have h1 : (intC zs)[i]? = some (.int .i64 z) := by simp [intC, hz]
  rw [← hx, List.getElem?_take] at h1
  split at h1
  ·rw [Nat.zero_add]; simpa using h1
  ·cases h1
theorem IntsAt.frz {w w' : World} {la : Option Addr} {zs : List Int} (h : IntsAt w la zs) (hf : Fr (fun _ => False) w w') : IntsAt w' la zs := fun i z hz => by
 obtain ⟨g, off, h1, h2⟩ := h i z hz
 exact ⟨g, off, h1, hf.cell h2 (fun h => h)⟩
section
variable {w w' : World} {k X A B n : Nat} {clock pause : Int} {cv : Value} {L : List AS} {rs : List Rec} {s : DS} {C F : Nat → Prop}
theorem DG.np (h : DG w k A B n s C) {b : Nat} {c : Array Value} {t : TypeId} (hc : w.heap[b]? = some (.cells c t (0, 0))) (ht : PT t) : b ≠ A := by
 obtain ⟨_, base, cache, hd, _⟩ := h
 rintro rfl
 have := hc.symm.trans hd.d
 simp at this
 rw [this.2] at ht
 unfold PT at ht
 revert ht; decide
theorem DG.pend (h : DG w k A B n s C) : Calls Tryz.prog 34 #[.pointer (some ⟨A, 0, none⟩)] w fun e w' => e = .returned (.int .i64 (s.ents.length : Nat)) ∧ w' = w := by
 obtain ⟨_, base, cache, hd, _⟩ := h
 rcases hd.q.o.2 with ⟨rfl, h0⟩ | ⟨g, cap, cur, rfl, _⟩
 ·have := Pending_gen hd.d
  rw [h0]
  exact this
 ·exact Pending_gen hd.d
end
end Go.Proofs.YteebjgfalllbjaaGreatDoor
namespace Go.Proofs.YteebjgfalllbjaaGreatDoor
open Go.RowKit
theorem EffI.stay {a : AS} {m : List (Int × Bool)} {nv : Bool} (h : EffI a m nv) (ho : a.open) (kk : Int) : EffI a (if decide ((a.asks.step, a.asks.back) ∈ m) = true ∨ kk = 3 ∨ kk = 5 then m else m ++ [(a.asks.step, a.asks.back)]) nv := by
 split
 ·exact h
 ·rename_i hno
  have hd : (a.asks.step, a.asks.back) ∉ m := fun h => hno (.inl (decide_eq_true h))
  clear hno
  obtain ⟨id, st, ⟨s1, s2⟩, tries, due⟩ := a
  have ho : s1 = 1 ∨ s1 = 2 := ho
  rcases h with ⟨h1, h0, j, h2, h3, h4⟩ | ⟨h1, _⟩ | ⟨h1, h0, k, j, h2, h3, h4, h5⟩ | ⟨h1, _⟩
  ·have h1 : s1 = 1 := h1
   have h2 : s2 = (j : Int) + 1 := h2
   subst h1 h2
   have hd : ((j : Int) + 1, false) ∉ m := hd
   refine .inl ⟨rfl, h0, j, rfl, h3, .inr ?_⟩
   show m ++ [((j : Int) + 1, false)] = _
   rcases h4 with h4 | h4
   ·rw [h4, ← upL_succ]
   ·exact absurd (by rw [h4, mem_upL]; exact ⟨rfl, by omega, by push_cast; omega⟩) hd
  ·have h1 : s1 = 3 := h1
   omega
  ·have h1 : s1 = 2 := h1
   have h2 : s2 = (j : Int) + 1 := h2
   subst h1 h2
   have hd : ((j : Int) + 1, true) ∉ m := hd
   refine .inr (.inr (.inl ⟨rfl, h0, k, j, rfl, h3, h4, .inr ?_⟩))
   show m ++ [((j : Int) + 1, true)] = _
   rcases h5 with h5 | h5
   ·rw [h5, dnL_pred h3, List.append_assoc]
   ·exact absurd (by rw [h5, List.mem_append, mem_dnL]; exact .inr ⟨rfl, by omega, by omega⟩) hd
  ·have h1 : s1 = 4 := h1
   omega
def EffJ (nn : Nat → Nat) (rs : List Rec) (eff : List CL) : Prop :=
 (∀ a ∈ recL rs, (∃ q : Nat, 1 ≤ q ∧ q ≤ 3 ∧ a.id = (q : Int) ∧ a.st = kst q (nn q)) ∧ ∃ nv, EffI a (mine a.id eff) nv) ∧ ∀ id, (∀ a ∈ recL rs, a.id ≠ id) → mine id eff = []
section
variable {nn : Nat → Nat} {rs R : List Rec} {eff : List CL}
theorem EffJ.nil : EffJ nn [] [] := ⟨(fun a ha => by cases ha), fun _ _ => rfl⟩
theorem EffJ.add (h : EffJ nn rs eff) {q : Nat} (h1 : 1 ≤ q) (h3 : q ≤ 3) (hn : 1 ≤ nn q) (hno : ∀ a ∈ recL rs, a.id ≠ (q : Int)) : EffJ nn (rs ++ [Rec.take q (kst q (nn q))]) eff := by
 have e : recL (rs ++ [Rec.take q (kst q (nn q))]) = insA (newA q (kst q (nn q))) (recL rs) := recL_snoc _ _
 refine ⟨fun a ha => ?_, fun id hid => ?_⟩
 ·rw [e, mem_insA] at ha
  rcases ha with rfl | ha
  ·refine ⟨⟨q, h1, h3, rfl, rfl⟩, false, .inl ⟨rfl, rfl, 0, rfl, ?_, .inl ?_⟩⟩
   ·show 0 + 1 ≤ (kst q (nn q)).length
    rw [kst_len]; omega
   ·show mine (q : Int) eff = upL 0
    rw [h.2 _ hno]; rfl
  ·exact h.1 a ha
 ·rw [e] at hid
  exact h.2 id (fun a ha => hid a (mem_insA.2 (.inr ha)))
theorem EffJ.need (h : EffJ nn rs eff) (hok : RecsOk rs) (hnn : ∀ q, nn q ≤ 6) : (recL rs).length ≤ 3 ∧ needC rs ≤ 36 := by
 have g := recG hok
 have h6 : ∀ a ∈ recL rs, a.st.length ≤ 6 ∧ 1 ≤ a.id ∧ a.id ≤ 3 := fun a ha => by
  obtain ⟨⟨q, h1, h3, h4, h5⟩, _⟩ := h.1 a ha
  have := hnn q
  exact ⟨by rw [h5, kst_len]; omega, by omega, by omega⟩
 have hso := g.so
 rw [← g.nd]
 generalize recL rs = L at *
 rcases L with _ | ⟨a, _ | ⟨b, _ | ⟨c, _ | ⟨d, l⟩⟩⟩⟩
 ·simp
 ·have := h6 a (by simp)
  simp; omega
 ·have := h6 a (by simp)
  have := h6 b (by simp)
  simp; omega
 ·have := h6 a (by simp)
  have := h6 b (by simp)
  have := h6 c (by simp)
  simp; omega
 ·exfalso
  have k1 := h6 a (by simp)
  have k4 := h6 d (by simp)
  simp only [List.pairwise_cons] at hso
  have := hso.1 b (by simp)
  have := hso.2.1 c (by simp)
  have := hso.2.2.1 d (by simp)
  omega
theorem recL_pre (l : List Rec) (h : RecsOk (R ++ l)) {a : AS} (ha : a ∈ recL R) : ∃ b ∈ recL (R ++ l), b.id = a.id ∧ (¬ a.open → b = a) := by
 revert h
 refine snoc_ind (P := fun l => RecsOk (R ++ l) → ∃ b ∈ recL (R ++ l), b.id = a.id ∧ (¬ a.open → b = a)) (fun _ => ⟨a, by simpa using ha, rfl, fun _ => rfl⟩) (fun l r ih h => ?_) l
 rw [← List.append_assoc] at h ⊢
 obtain ⟨h1, h2⟩ := recsOk_snoc.1 h
 obtain ⟨b, hb, hid, hc⟩ := ih h1
 rw [recL_snoc]
 cases r with
 | take id st => exact ⟨b, mem_insA.2 (.inr hb), hid, hc⟩
 | move id r =>
  obtain ⟨_, _, c, hcm, hci, hco, _⟩ := h2
  refine ⟨if b.id = (id : Int) then b.go r else b, List.mem_map.2 ⟨b, hb, rfl⟩, ?_, fun hno => ?_⟩
  ·split
   ·exact hid
   ·exact hid
  ·have e := hc hno
   rw [if_neg (fun e2 => ?_), e]
   have : b = c := pw_uniq (recG h1).so hb hcm (by rw [e2, hci])
   rw [← this, e] at hco
   exact hno hco
end
theorem tickL_none {cv : Value} (P : Ptn cv) (ck pause : Int) : ∀ (L : List AS) (s : P.σ), (∀ a ∈ L, ¬ (a.open ∧ a.due ≤ ck)) → tickL P ck pause L s = (L, s, [])
 | [], _, _ => rfl
 | a :: l, s, h => by
  have h1 : tickOne P ck pause a s = (a, s, []) := if_neg (h a (by simp))
  have h2 := tickL_none P ck pause l s (fun b hb => h b (by simp [hb]))
  simp only [tickL, h1, h2, List.nil_append]
section
variable {Pp b0 Z : Nat} {r : List Int} (H : AskOk Pp b0 (rlOf r Z)) {nn : Nat → Nat} {rs : List Rec}
theorem EffJ.ask {ps : PSt} {a : AS} (h : EffJ nn rs ps.eff) (hok : RecsOk rs) (ha : a.zero ∈ recL rs) (ho : a.open) : EffJ nn rs (PSt.eff ((ptn H).ask ps a.asks).2) := by
 have hask : (ptn H).ask ps a.asks = pAsk (rlOf r Z) ps a.asks := rfl
 rw [hask]
 obtain ⟨k, hk⟩ : ∃ k, k = kOf (rlOf r Z) ps.at' := ⟨_, rfl⟩
 have hsg : a.asks.saga = a.id := rfl
 have hany : ps.eff.any (·.same a.asks) = decide ((a.asks.step, a.asks.back) ∈ mine a.id ps.eff) := by rw [any_mine, hsg]
 have e2 : PSt.eff (pAsk (rlOf r Z) ps a.asks).2 = askE k (decide ((a.asks.step, a.asks.back) ∈ mine a.id ps.eff)) ps.eff a.asks := by rw [hk, ← hany]; rfl
 have hm : mine a.id (askE k (decide ((a.asks.step, a.asks.back) ∈ mine a.id ps.eff)) ps.eff a.asks) = if decide ((a.asks.step, a.asks.back) ∈ mine a.id ps.eff) = true ∨ k = 3 ∨ k = 5 then mine a.id ps.eff else mine a.id ps.eff ++ [(a.asks.step, a.asks.back)] := by
  unfold askE
  split
  ·rfl
  ·rw [mine_snoc, if_pos hsg]
 have ho2 : ∀ id, id ≠ a.id → mine id (askE k (decide ((a.asks.step, a.asks.back) ∈ mine a.id ps.eff)) ps.eff a.asks) = mine id ps.eff := fun id hid => by
  unfold askE
  split
  ·rfl
  ·rw [mine_snoc, if_neg (by rw [hsg]; exact fun e => hid e.symm)]
 rw [e2]
 refine ⟨fun b hb => ⟨(h.1 b hb).1, ?_⟩, fun id hid => ?_⟩
 ·obtain ⟨nv, hnv⟩ := (h.1 b hb).2
  by_cases e : b.id = a.id
  ·obtain rfl : b = a.zero := pw_uniq (recG hok).so hb ha e
   refine ⟨nv, ?_⟩
   have hm' : mine a.zero.id (askE k (decide ((a.asks.step, a.asks.back) ∈ mine a.id ps.eff)) ps.eff a.asks) = _ := hm
   rw [hm']
   exact EffI.stay (a := a.zero) hnv ho k
  ·exact ⟨nv, by rw [ho2 _ e]; exact hnv⟩
 ·have e : id ≠ a.id := fun e => hid a.zero ha e.symm
  rw [ho2 _ e]
  exact h.2 id hid
theorem EffJ.part {n : Nat} {clock : Int} {L : List AS} {ps : PSt} (hp : ENp n clock L rs) (h : EffJ nn rs ps.eff) (pause : Int) (i : Nat) : EffJ nn (rs ++ (tickL (ptn H) (clock + 1) pause (L.take i) ps).2.2.map mvR) (PSt.eff (tickL (ptn H) (clock + 1) pause (L.take i) ps).2.1) := by
 have hz := (hp.part (ptn H) ps pause i).zL
 have hL : ∀ a ∈ L, a.zero ∈ recL rs := fun a ha => by rw [← hp.zL]; exact List.mem_map.2 ⟨a, ha, rfl⟩
 have hso := hp.so
 have hsp : (L.take i ++ L.drop i).Pairwise (fun a b => a.id < b.id) := by rw [List.take_append_drop]; exact hso
 rw [List.pairwise_append] at hsp
 have hE := tickL_eff H (ck := clock + 1) (pause := pause) (L.take i) ps hsp.1 (fun a ha => (h.1 a.zero (hL a (List.mem_of_mem_take ha))).2)
 have hids := tickL_ids (ptn H) (clock + 1) pause (L.take i) ps
 have hsts := tickL_sts (ptn H) (clock + 1) pause (L.take i) ps
 have hlen := tickL_len (ptn H) (clock + 1) pause (L.take i) ps
 generalize tickL (ptn H) (clock + 1) pause (L.take i) ps = T at *
 have hT : ∀ a ∈ T.1, ∃ c ∈ L.take i, c.id = a.id ∧ c.st = a.st := fun a ha => by
  obtain ⟨j, hj⟩ := List.mem_iff_getElem?.1 ha
  have hjl := (List.getElem?_eq_some_iff.1 hj).1
  have hc : (L.take i)[j]? = some (L.take i)[j] := List.getElem?_eq_getElem (by omega)
  refine ⟨_, List.mem_of_getElem? hc, ?_, ?_⟩
  ·have := congrArg (·[j]?) hids
   simp only [List.getElem?_map, hj, hc, Option.map_some, Option.some.injEq] at this
   exact this.symm
  ·have := congrArg (·[j]?) hsts
   simp only [List.getElem?_map, hj, hc, Option.map_some, Option.some.injEq] at this
   exact this.symm
 have hT2 : ∀ c ∈ L.take i, ∃ a ∈ T.1, a.id = c.id := fun c hc => by
  obtain ⟨j, hj⟩ := List.mem_iff_getElem?.1 hc
  have hjl := (List.getElem?_eq_some_iff.1 hj).1
  have ha : T.1[j]? = some T.1[j] := List.getElem?_eq_getElem (by omega)
  refine ⟨_, List.mem_of_getElem? ha, ?_⟩
  have := congrArg (·[j]?) hids
  simp only [List.getElem?_map, hj, ha, Option.map_some, Option.some.injEq] at this
  exact this
 rw [EffJ, ← hz]
 refine ⟨fun b hb => ?_, fun id hid => ?_⟩
 ·obtain ⟨a, ha, rfl⟩ := List.mem_map.1 hb
  rcases List.mem_append.1 ha with ha | ha
  ·obtain ⟨c, hc, e1, e2⟩ := hT a ha
   obtain ⟨⟨q, q1, q2, q3, q4⟩, _⟩ := h.1 c.zero (hL c (List.mem_of_mem_take hc))
   exact ⟨⟨q, q1, q2, e1.symm.trans q3, e2.symm.trans q4⟩, hE.1 a ha⟩
  ·obtain ⟨q, nv, hnv⟩ := h.1 a.zero (hL a (List.mem_of_mem_drop ha))
   refine ⟨q, nv, ?_⟩
   have e : mine a.zero.id (PSt.eff T.2.1) = mine a.zero.id ps.eff := hE.2 a.id (fun c hc e => by have := hsp.2.2 c hc a ha; omega)
   rw [e]; exact hnv
 ·have hids2 : ∀ a ∈ L, a.id ≠ id := fun a ha e => by
   rw [← List.take_append_drop i L] at ha
   rcases List.mem_append.1 ha with ha | ha
   ·obtain ⟨b, hb, e1⟩ := hT2 a ha
    exact hid b.zero (List.mem_map.2 ⟨b, List.mem_append.2 (.inl hb), rfl⟩) (e1.trans e)
   ·exact hid a.zero (List.mem_map.2 ⟨a, List.mem_append.2 (.inr ha), rfl⟩) e
  rw [hE.2 id (fun a ha => hids2 a (List.mem_of_mem_take ha))]
  refine h.2 id (fun b hb => ?_)
  rw [← hp.zL] at hb
  obtain ⟨a, ha, rfl⟩ := List.mem_map.1 hb
  exact hids2 a ha
end
def EffS (nn : Nat → Nat) (n : Nat) (s : DS) (rs R : List Rec) (eff : List CL) : Prop :=
 RecsOk rs ∧ EffJ nn rs eff ∧ R <+: rs ∧ (JZ n s (rs.map Rec.bytes) ∨ ∃ rs0 r, rs = rs0 ++ [r] ∧ EffJ nn rs0 eff ∧ R <+: rs0)
section
variable {nn : Nat → Nat} {n : Nat} {s s' : DS} {rs R : List Rec} {eff : List CL}
theorem EffS.keep (h : EffS nn n s rs R eff) (hz : JZ n s (rs.map Rec.bytes) → JZ n s' (rs.map Rec.bytes)) : EffS nn n s' rs R eff := by
 obtain ⟨h1, h2, h3, h4⟩ := h
 exact ⟨h1, h2, h3, h4.imp_left hz⟩
theorem EffS.sure (h : EffS nn n s rs R eff) (hz : JZ n s' (rs.map Rec.bytes)) : EffS nn n s' rs rs eff := ⟨h.1, h.2.1, List.prefix_rfl, .inl hz⟩
theorem pre_app {R rs l : List Rec} (h : R <+: rs) : R <+: rs ++ l := h.trans (List.prefix_append _ _)
theorem EffS.cut {recs' : List (List Value)} (h : EffS nn n s rs R eff) (hr : recs' = rs.map Rec.bytes ∨ (¬ JZ n s (rs.map Rec.bytes) ∧ ∃ r, rs.map Rec.bytes = recs' ++ [r])) (hz : JZ n s' recs') : ∃ rs', recs' = rs'.map Rec.bytes ∧ EffS nn n s' rs' R eff := by
 obtain ⟨h1, h2, h3, h4⟩ := h
 rcases hr with rfl | ⟨hn, r, hr⟩
 ·exact ⟨rs, rfl, h1, h2, h3, .inl hz⟩
 ·rcases h4 with h4 | ⟨rs0, r0, rfl, q1, q2⟩
  ·exact absurd h4 hn
  ·rw [map_snoc_bytes] at hr
   have e : recs' = rs0.map Rec.bytes := ((List.append_inj' hr rfl).1).symm
   subst e
   exact ⟨rs0, rfl, (recsOk_snoc.1 h1).1, q1, q2, .inl hz⟩
end
end Go.Proofs.YteebjgfalllbjaaGreatDoor
namespace Go.Proofs.YteebjgfalllbjaaGreatDoor
open Go.RowKit
section
variable {w w' : World} {k X A B n : Nat} {clock pause : Int} {cv : Value} {L : List AS} {rs : List Rec} {s : DS} {C F : Nat → Prop}
theorem EG.shr (h : EG w k X A B n clock pause cv L rs s C F) : ∃ C0 F0, EG w k X A B n clock pause cv L rs s C0 F0 ∧ (∀ b, C0 b → C b) ∧ (∀ b, F0 b → F b) ∧ ∀ b c t, w.heap[b]? = some (.cells c t (0, 0)) → PT t → ¬ (b = A ∨ b = B ∨ C0 b ∨ F0 b) := by
 obtain ⟨hp, hb, hj, J, R, V, base, dbase, room, ev, cache, es, sb, hs, g, hc⟩ := h
 refine ⟨fun b => cache.ownBlock = some b, EngF X J R V ev es, ⟨hp, hb, hj, J, R, V, base, dbase, room, ev, cache, es, sb, hs, ⟨g.eng, g.roll, g.jn, g.hi, g.m, g.rm, g.b, fun _ h => h⟩, fun _ h => h⟩, hc, g.f, ?_⟩
 intro b c t hbc ht h
 have hnd := g.jn.d.not hbc (by unfold PT at ht; rcases ht with rfl | rfl | rfl | rfl <;> decide)
 rcases h with h | h | h | h
 ·exact hnd (.inl h)
 ·exact hnd (.inr (.inl h))
 ·exact hnd (.inr (.inr h))
 ·exact g.fu.np hbc ht h
theorem EG.bad (h : EG w k X A B n clock pause cv L rs s C F) (hk : k < 80000) (j m : Int) (hj : 0 ≤ j) (hj1 : j ≤ 1000) (hm : 0 ≤ m) (hm1 : m ≤ 1000) :
  Calls Tryz.prog 31 #[.pointer (some ⟨A, 0, none⟩), .int .i64 j, .int .i64 m] w fun e w' => e = .returned (.tuple #[]) ∧ EG w' k X A B n clock pause cv L rs ⟨{ s.d with lo := s.d.calls + j, hi := s.d.calls + j + m }, s.ents, s.bs⟩ C F ∧ Fr (· = A) w w' := by
 obtain ⟨hp, hb, hjd, J, R, V, base, dbase, room, ev, cache, es, sb, hs, g, hc⟩ := h
 have hb1 := hb.c1
 refine (Bad_gen g.jn.d.d hb.c0 (by omega) j m hj hj1 hm hm1).mono ?_
 rintro e w' ⟨rfl, hd, hf⟩
 have hd' : DSAt w' A B n dbase cache ⟨{ s.d with lo := s.d.calls + j, hi := s.d.calls + j + m }, s.ents, s.bs⟩ :=
  ⟨hd, ⟨hf.keep g.jn.d.r.1 (fun e => g.jn.d.ne.1 e.symm), g.jn.d.r.2⟩, g.jn.d.q.fr hf (fun b c hb _ e => by rw [e, g.jn.d.d] at hb; simp at hb), Nat.le_trans g.jn.d.b hf.size, g.jn.d.c⟩
 have nX : X ≠ A := fun e => by have := g.eng; rw [e] at this; have := this.symm.trans g.jn.d.d; simp at this
 have nV : V ≠ A := g.jn.v.neK g.jn.d.d
 have nJ : J ≠ A := fun e => by have := g.jn.j; rw [e] at this; have := this.symm.trans g.jn.d.d; simp at this
 refine ⟨rfl, ⟨hp, ⟨hb.c0, hb.c1, hb.w0, hb.w1, hb.t0, hb.t1, hb.e⟩, hjd.keep rfl rfl rfl, J, R, V, base, dbase, room, ev, cache, es, sb, hs, ⟨hf.keep g.eng nX, g.roll.fr hf (fun b hb e => (g.dis b hb).1 (.inl (.inl e))), ⟨g.jn.v.fr hf nV, hd', g.jn.j.fr hf nJ⟩, g.hi, g.m, g.rm, Nat.le_trans g.b hf.size, g.f⟩, hc⟩, hf⟩
theorem DG.bad (h : DG w k A B n s C) (hk : k < 80000) (j m : Int) (hj : 0 ≤ j) (hj1 : j ≤ 1000) (hm : 0 ≤ m) (hm1 : m ≤ 1000) :
  Calls Tryz.prog 31 #[.pointer (some ⟨A, 0, none⟩), .int .i64 j, .int .i64 m] w fun e w' => e = .returned (.tuple #[]) ∧ DG w' k A B n ⟨{ s.d with lo := s.d.calls + j, hi := s.d.calls + j + m }, s.ents, s.bs⟩ C ∧ Fr (· = A) w w' := by
 obtain ⟨hb, base, cache, g, hc, h1, h2, h3⟩ := h
 have hb1 := hb.c1
 refine (Bad_gen g.d hb.c0 (by omega) j m hj hj1 hm hm1).mono ?_
 rintro e w' ⟨rfl, hd, hf⟩
 exact ⟨rfl, ⟨⟨hb.c0, hb.c1, hb.w0, hb.w1, hb.t0, hb.t1, hb.e⟩, base, cache, ⟨hd, ⟨hf.keep g.r.1 (fun e => g.ne.1 e.symm), g.r.2⟩, g.q.fr hf (fun b c hb _ e => by rw [e, g.d] at hb; simp at hb), Nat.le_trans g.b hf.size, g.c⟩, hc, h1, h2, h3⟩, hf⟩
end
structure SDw (Pm : Nat → Prop) (W wr : World) (Pp b0 : Nat) (r : List Int) (nn : Nat → Nat) (A B K Q k : Nat) (rs R : List Rec) (s : DS) (C F0 : Nat → Prop) (ps : PSt) : Prop where
 kb : k ≤ K
 d : DG wr k A B 120 s C
 j : JD 120 s (rs.map Rec.bytes)
 e : EffS nn 120 s rs R ps.eff
 p : PrtI Pp b0 (rlOf r 0) ps F0 wr
 q : max (max ps.log.length ps.eff.length) ps.at' ≤ Q
 c : ∀ b, C b → Pm b
 f0 : ∀ b, F0 b → Pm b
 ab : Pm A ∧ Pm B
 nw : ∀ b, W.heap.size ≤ b → Pm b
 f : Fr Pm W wr
def SM (Pm : Nat → Prop) (W : World) (Pp b0 : Nat) (r : List Int) (nn : Nat → Nat) (pause : Int) (X A B K T Q : Nat) (al ob : Bool) (R : List Rec) (wr : World) : Prop :=
 ∃ k rs s C F0 ps, SDw Pm W wr Pp b0 r nn A B K Q k rs R s C F0 ps ∧ (ob = true → s.d.off < 0) ∧
  ((∃ clock L F, clock ≤ (T : Int) ∧ EG wr k X A B 120 clock pause (askV Pp) L rs s C F ∧ (∀ b, F b → Pm b) ∧ (al = true → s.d.good)) ∨ (al = false ∧ ∃ clock L rs' F, ED wr X 120 clock pause (askV Pp) L rs' F))
def SD (Pm : Nat → Prop) (W : World) (Pp b0 : Nat) (r : List Int) (nn : Nat → Nat) (A B K Q : Nat) (gd ob : Bool) (R : List Rec) (wr : World) : Prop :=
 ∃ k rs s C F0 ps, SDw Pm W wr Pp b0 r nn A B K Q k rs R s C F0 ps ∧ (ob = true → s.d.off < 0) ∧ (gd = true → s.d.good)
def SO (Pm : Nat → Prop) (W : World) (Pp b0 : Nat) (r : List Int) (nn : Nat → Nat) (pause : Int) (X A B K Q : Nat) (rs R : List Rec) (s : DS) (ps : PSt) (wr : World) : Prop :=
 ∃ k C F0 F, SDw Pm W wr Pp b0 r nn A B K Q k rs R s C F0 ps ∧ s.d.good ∧ EG wr k X A B 120 0 pause (askV Pp) (recL rs) rs s C F ∧ (∀ b, F b → Pm b)
section
variable {Pm : Nat → Prop} {W wr w' : World} {Pp b0 : Nat} {r : List Int} {nn : Nat → Nat} {pause : Int} {X A B K T Q k : Nat} {al ob gd : Bool} {rs R : List Rec} {s : DS} {C F0 : Nat → Prop} {ps : PSt}
theorem prtI_fr {S : Nat → Prop} {rl : List Int} {F : Nat → Prop} (h : PrtI Pp b0 rl ps F wr) (hf : Fr S wr w') (hS : ∀ b, F b → ¬ S b) : PrtI Pp b0 rl ps F w' := by
 obtain ⟨hb, lg, ef, l, h, hF⟩ := h
 exact ⟨Nat.le_trans hb hf.size, lg, ef, l, h.fr hf (fun b hb => hS b ((hF b).2 hb)), hF⟩
theorem prtI_ty {rl : List Int} {F : Nat → Prop} (h : PrtI Pp b0 rl ps F wr) {b : Nat} (hb : F b) : ∃ c t, wr.heap[b]? = some (.cells c t (0, 0)) ∧ PT t := by
 obtain ⟨_, lg, ef, l, h, hF⟩ := h
 exact h.ty ((hF b).1 hb)
theorem SDw.mono {K' Q' : Nat} (h : SDw Pm W wr Pp b0 r nn A B K Q k rs R s C F0 ps) (hK : K ≤ K') (hQ : Q ≤ Q') : SDw Pm W wr Pp b0 r nn A B K' Q' k rs R s C F0 ps :=
 ⟨Nat.le_trans h.kb hK, h.d, h.j, h.e, h.p, Nat.le_trans h.q hQ, h.c, h.f0, h.ab, h.nw, h.f⟩
theorem SM.mono {K' T' Q' : Nat} (h : SM Pm W Pp b0 r nn pause X A B K T Q al ob R wr) (hK : K ≤ K') (hT : T ≤ T') (hQ : Q ≤ Q') : SM Pm W Pp b0 r nn pause X A B K' T' Q' al ob R wr := by
 obtain ⟨k, rs, s, C, F0, ps, D, ho, hE⟩ := h
 refine ⟨k, rs, s, C, F0, ps, D.mono hK hQ, ho, hE.imp_left ?_⟩
 rintro ⟨clock, L, F, h1, h2⟩
 exact ⟨clock, L, F, by omega, h2⟩
theorem SDw.fr {S : Nat → Prop} (h : SDw Pm W wr Pp b0 r nn A B K Q k rs R s C F0 ps) (hf : Fr S wr w') (hA : ¬ S A) (hB : ¬ S B) (hC : ∀ b, C b → ¬ S b) (hF : ∀ b, F0 b → ¬ S b) (hW : ∀ b, S b → Pm b) : SDw Pm W w' Pp b0 r nn A B K Q k rs R s C F0 ps :=
 ⟨h.kb, h.d.fr hf hA hB hC, h.j, h.e, prtI_fr h.p hf hF, h.q, h.c, h.f0, h.ab, h.nw, h.f.trans hf (fun b _ hs => hW b hs)⟩
theorem SDw.frz (h : SDw Pm W wr Pp b0 r nn A B K Q k rs R s C F0 ps) (hf : Fr (fun _ => False) wr w') : SDw Pm W w' Pp b0 r nn A B K Q k rs R s C F0 ps := h.fr hf (fun h => h) (fun h => h) (fun _ _ h => h) (fun _ _ h => h) (fun _ h => h.elim)
theorem SM.frz (h : SM Pm W Pp b0 r nn pause X A B K T Q al ob R wr) (hf : Fr (fun _ => False) wr w') : SM Pm W Pp b0 r nn pause X A B K T Q al ob R w' := by
 obtain ⟨k, rs, s, C, F0, ps, D, ho, hE⟩ := h
 refine ⟨k, rs, s, C, F0, ps, D.frz hf, ho, hE.imp ?_ ?_⟩
 ·rintro ⟨clock, L, F, h1, h2, h3⟩
  exact ⟨clock, L, F, h1, h2.fr hf (fun h => h) (fun h => h) (fun _ _ h => h) (fun _ _ h => h), h3⟩
 ·rintro ⟨h1, clock, L, rs', F, h2⟩
  exact ⟨h1, clock, L, rs', F, h2.fr hf (fun _ _ h => h)⟩
theorem SDw.base (h : SDw Pm W wr Pp b0 r nn A B K Q k rs R s C F0 ps) : SDw Pm wr wr Pp b0 r nn A B K Q k rs R s C F0 ps :=
 ⟨h.kb, h.d, h.j, h.e, h.p, h.q, h.c, h.f0, h.ab, fun b hb => h.nw b (Nat.le_trans h.f.size hb), Fr.refl _ _⟩
theorem SM.base (h : SM Pm W Pp b0 r nn pause X A B K T Q al ob R wr) : SM Pm wr Pp b0 r nn pause X A B K T Q al ob R wr := by
 obtain ⟨k, rs, s, C, F0, ps, D, ho⟩ := h
 exact ⟨k, rs, s, C, F0, ps, D.base, ho⟩
theorem SM.nw (h : SM Pm W Pp b0 r nn pause X A B K T Q al ob R wr) : Fr Pm W wr := by
 obtain ⟨k, rs, s, C, F0, ps, D, ho⟩ := h
 exact D.f
theorem SD.nw (h : SD Pm W Pp b0 r nn A B K Q gd ob R wr) : Fr Pm W wr := by
 obtain ⟨k, rs, s, C, F0, ps, D, ho⟩ := h
 exact D.f
theorem SM.sd (h : SM Pm W Pp b0 r nn pause X A B K T Q al ob R wr) : SD Pm W Pp b0 r nn A B K Q false ob R wr := by
 obtain ⟨k, rs, s, C, F0, ps, D, ho, hE⟩ := h
 exact ⟨k, rs, s, C, F0, ps, D, ho, (fun h => by cases h)⟩
theorem SM.sub (h : SM Pm W Pp b0 r nn pause X A B K T Q al ob R wr) (hG : GOk W) (hGP : ¬ Pm 0) (hK : K < 40000) (hnn : ∀ q, 1 ≤ nn q ∧ nn q ≤ 6) {q : Nat} (q1 : 1 ≤ q) (q3 : q ≤ 3) {g cap : Nat} (hrows : RowsOf wr (some ⟨g, 0, none⟩) 2 ((kst q (nn q)).map stv)) :
  Calls Tryz.prog 21 #[.pointer (some ⟨X, 0, none⟩), .int .i64 (q : Int), .slice (some ⟨g, 0, none⟩) (nn q) cap] wr fun e w' => (∃ v, e = .returned v) ∧ SM Pm W Pp b0 r nn pause X A B (K + 1) T Q al ob R w' := by
 obtain ⟨k, rs, s, C, F0, ps, D, ho, ⟨clock, L, F, hck, hE0, hF0, hg⟩ | ⟨hal, clock, L, rs', F, hE⟩⟩ := h
 ·obtain ⟨C1, F1, hE, hC1, hF1, hnp⟩ := hE0.shr
  have hnd := D.e.2.1.need D.e.1 (fun q => (hnn q).2)
  have hlf := (recG D.e.1).lf
  have hDk := D.kb
  have HS := hE.sub (by omega) (fun _ => itH_small (by omega)) (hG.fr D.f hGP) (q : Int) (kst q (nn q)) cap hrows (fun _ => ⟨g, rfl⟩)
  rw [kst_len] at HS
  refine HS.mono ?_
  rintro e w' ⟨v, s', C', F', rfl, hC', hF', hM, hf, hcase⟩
  have hsz := D.f.size
  have hCW : ∀ b, C' b → Pm b := fun b hb => (hC' b hb).elim (fun h => D.c b (hC1 b h)) (fun h => D.nw b (by omega))
  have hFW : ∀ b, F' b → Pm b := fun b hb => (hF' b hb).elim (fun h => hF0 b (hF1 b h)) (fun h => D.nw b (by omega))
  have hSW : ∀ b, (b = A ∨ b = B ∨ C1 b ∨ F1 b) → Pm b := by
   rintro b (h | h | h | h)
   ·rw [h]; exact D.ab.1
   ·rw [h]; exact D.ab.2
   ·exact D.c b (hC1 b h)
   ·exact hF0 b (hF1 b h)
  have hP' : PrtI Pp b0 (rlOf r 0) ps F0 w' := prtI_fr D.p hf (fun b hb => by
   obtain ⟨c, t, h1, h2⟩ := prtI_ty D.p hb
   exact hnp b c t h1 h2)
  have hFr : Fr Pm W w' := D.f.trans hf (fun b hb h => hSW b h)
  have hqn : (q : Int).toNat = q := Int.toNat_natCast q
  have hnoR : (∀ a ∈ L, a.id ≠ (q : Int)) → ∀ a ∈ recL rs, a.id ≠ (q : Int) := fun h a ha => by
   rw [← hE.1.zL] at ha
   obtain ⟨b, hb, rfl⟩ := List.mem_map.1 ha
   exact h b hb
  rcases hcase with ⟨kk, L', rs', hv, hS, hU, hE', hJ⟩ | ⟨hT, hng, hsok, hno, hNp, hj, hD', hED⟩
  ·have hEff : EffS nn 120 s' rs' R ps.eff := by
    have hst : rs' = rs → EffS nn 120 s' rs' R ps.eff := fun h => by rw [hJ.2 h, h]; exact D.e
    rcases hS with ⟨_, _, _, h⟩ | ⟨_, a, _, _, _, _, h⟩ | ⟨_, hno, ⟨_, _, h⟩ | ⟨_, _, _, h⟩⟩
    ·exact hst h
    ·exact hst h
    ·rw [hqn] at h
     have hz := (hJ.1 (by rw [h]; simp)).jz
     subst h
     exact ⟨hE'.1.ok, D.e.2.1.add q1 q3 (hnn q).1 (hnoR hno), pre_app D.e.2.2.1, .inl hz⟩
    ·exact hst h
   exact ⟨⟨v, rfl⟩, k + 1, rs', s', C', F0, ps, ⟨by omega, hE'.disk, hE'.2.2.1, hEff, hP', D.q, hCW, D.f0, D.ab, D.nw, hFr⟩, fun h => by rw [hM.o]; exact ho h, .inl ⟨clock, L', F', hck, hE', hFW, fun h => hM.good (hg h)⟩⟩
  ·have hal : al = false := by
    cases al with
    | false => rfl
    | true => exact absurd (hg rfl) hng
   rw [hqn] at hj hNp
   rcases hj with ⟨h2, h3⟩ | h2
   ·exact ⟨⟨v, rfl⟩, k + 1, rs, s', C', F0, ps, ⟨by omega, hD', h2, D.e.keep h3, hP', D.q, hCW, D.f0, D.ab, D.nw, hFr⟩, fun h => by rw [hM.o]; exact ho h, .inr ⟨hal, clock, L, rs, F', hED⟩⟩
   ·exact ⟨⟨v, rfl⟩, k + 1, _, s', C', F0, ps, ⟨by omega, hD', h2, ⟨hNp.ok, D.e.2.1.add q1 q3 (hnn q).1 (hnoR hno), pre_app D.e.2.2.1, .inr ⟨rs, _, rfl, D.e.2.1, D.e.2.2.1⟩⟩, hP', D.q, hCW, D.f0, D.ab, D.nw, hFr⟩, fun h => by rw [hM.o]; exact ho h, .inr ⟨hal, clock, L, rs, F', hED⟩⟩
 ·refine (hE.sub (q : Int) (nn q) cap).mono ?_
  rintro e w' ⟨v, rfl, _, hf⟩
  exact ⟨⟨v, rfl⟩, k, rs, s, C, F0, ps, (D.frz hf).mono (by omega) (Nat.le_refl _), ho, .inr ⟨hal, clock, L, rs', F, hE.fr hf (fun _ _ h => h)⟩⟩
end
end Go.Proofs.YteebjgfalllbjaaGreatDoor
