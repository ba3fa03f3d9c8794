import Derived.Test.YteebjgfalllbjaaGreatDoorCNcZyZz
namespace Go.Proofs.YteebjgfalllbjaaGreatDoor
open Go.RowKit
structure ESG (w : World) (X J R V A B n base dbase e : Nat) (room clock pause : Int) (ev cv cache : Value) (es : List (Nat × AS)) (sb : Bool) (s : DS) : Prop where
 eng : EngAt w X J R clock pause cv
 roll : RollAt w R base room ev es
 jn : JnG w J V A B n dbase cache s e sb
 hi : Hi dbase A B J
section
variable {w w' : World} {X J R V A B n base dbase e : Nat} {room clock pause : Int} {ev cv cache : Value} {es : List (Nat × AS)} {sb : Bool} {s : DS}
theorem ESG.dis (h : ESG w X J R V A B n base dbase e room clock pause ev cv cache es sb s) : ∀ b, RollF R ev es b → ¬ JnF A B J cache b ∧ b ≠ V ∧ b ≠ X := by
 intro b hb
 obtain ⟨c, t, hc, ht⟩ := roll_f h.roll hb
 refine ⟨?_, fun e => ?_, fun e => ?_⟩
 ·rintro (hd | e)
  ·exact h.jn.d.not hc (by rcases ht with rfl | rfl | rfl <;> decide) hd
  ·subst e; have := hc.symm.trans h.jn.j; simp at this; rw [this.2] at ht; revert ht; decide
 ·subst e; have := hc.symm.trans h.jn.v; simp at this; rw [this.2] at ht; revert ht; decide
 ·subst e; have := hc.symm.trans h.eng; simp at this; rw [this.2] at ht; revert ht; decide
theorem ESG.frz (h : ESG w X J R V A B n base dbase e room clock pause ev cv cache es sb s) (hf : Fr (fun _ => False) w w') : ESG w' X J R V A B n base dbase e room clock pause ev cv cache es sb s := ⟨hf.keep h.eng (fun h => h), h.roll.frz hf, h.jn.frz hf, h.hi⟩
def DT (t : TypeId) : Prop := t = 96 ∨ t = 97 ∨ t = 101 ∨ t = 179 ∨ t = 140 ∨ t = 91
theorem DSAt.ty (h : DSAt w A B n base cache s) {b : Nat} (hb : DkF A B cache b) : ∃ c t, w.heap[b]? = some (.cells c t (0, 0)) ∧ DT t := by
 rcases hb with rfl | rfl | hb
 ·exact ⟨_, _, h.d, .inl rfl⟩
 ·exact ⟨_, _, h.r.1, .inr (.inl rfl)⟩
 ·obtain ⟨c, hc⟩ := own_tyZ h.q.o hb
  exact ⟨c, _, hc, .inr (.inr (.inl rfl))⟩
def NP (w : World) (S : Nat → Prop) : Prop := ∀ b, S b → ∃ c t, w.heap[b]? = some (.cells c t (0, 0)) ∧ DT t
theorem NP.pt {S : Nat → Prop} (h : NP w S) {b : Nat} {c : Array Value} {t : TypeId} (hb : w.heap[b]? = some (.cells c t (0, 0))) (ht : PT t) : ¬ S b := by
 intro hS
 obtain ⟨c', t', hc, h2⟩ := h b hS
 have := hb.symm.trans hc
 simp at this
 rw [this.2] at ht
 revert h2
 unfold PT at ht
 unfold DT
 rcases ht with rfl | rfl | rfl | rfl <;> decide
def AskF (X J R A B n base dbase : Nat) (room clock pause : Int) (ev cv cache : Value) (es : List (Nat × AS)) (s : DS) (recs : List (List Value)) (p : Nat × AS) (kk : Nat) (F : Nat → Prop) (Q : Nat → World → Prop) (w : World) (g : Nat) (w' : World) : Prop :=
 TrAt w' g ∧ ¬ s.d.good ∧ EngB w' X J R true clock pause cv ∧ RollAt w' R base room ev es ∧ ∃ s' cache', DSAt w' A B n dbase cache' s' ∧ Moved 6 s.d s'.d ∧ s'.ents.length ≤ s.ents.length + 2 ∧ CB w cache cache' ∧
  (((JD n s' recs ∧ (JZ n s recs → JZ n s' recs)) ∧ Fr (fun b => JnF A B J cache b ∨ b = X) w w') ∨ (∃ r : Nat, Q r w' ∧ p.2.moves r = true ∧ (JZ n s' recs ∨ JD n s' (recs ++ [mvB kk r])))) ∧ Fr (fun b => F b ∨ JnF A B J cache b ∨ b = p.1 ∨ b = X) w w'
theorem mvB_ok (k r : Nat) : RecOk (mvB k r) := ⟨mvP_len (k, r), ldB_one 3 _ (bodyS_one _ _ _ _) 4, fun _ => 3, fun i hi => ldB_kind 3 _ (bodyM_len _ _) i hi, by decide⟩
set_option maxHeartbeats 1000000 in
theorem ask_G {recs : List (List Value)} (E : ESG w X J R V A B n base dbase (recs.length + 1) room clock pause ev cv cache es sb s) (hjd : JD n s recs) (hsb : sb = true → JSet n s recs) {k : Nat} (hbd : Bd k s) (hkb : k < 70000) (hs : Sorted es) (hn : es.length ≤ 100000) {ck : Int} (hok : ∀ p ∈ es, p.2.Ok ck) (hck : ck ≤ 1000000) {p : Nat × AS} (hp : p ∈ es) (ho : p.2.open) {kk : Nat} (hk : (kk : Int) = p.2.id) (hk1 : kk ≤ 1000)
  (hen : recs.length + 1 < n) (hn4 : n ≤ 400) (HI : ItH (recs.length + 1)) (hG : GOk w) (hp1 : 1 ≤ pause) (hp2 : pause ≤ 64) (hc0 : 0 ≤ clock) (hc1 : clock ≤ 1000000)
  {F : Nat → Prop} {Q : Nat → World → Prop} (hF : ∀ b, F b → b ≠ X ∧ ¬ JnF A B J cache b ∧ b ≠ V ∧ ¬ RollF R ev es b ∧ b < w.heap.size) (hFG : ¬ F 0)
  (HRE : ∀ W, Fr (JnF A B J cache) w W → EngAt W X J R clock pause cv → Calls Tryz.prog 104 #[.pointer (some ⟨X, 0, none⟩), .agg p.2.asks.cs.toArray] W fun e' w' => ∃ r : Nat, e' = .returned (.int .i64 r) ∧ r ≤ 2 ∧ Fr F W w' ∧ Q r w')
  (HQ : ∀ (r : Nat) (S : Nat → Prop) W W', Q r W → Fr S W W' → NP W S → Q r W') :
  Calls Tryz.prog 66 #[.pointer (some ⟨X, 0, none⟩), .agg p.2.asks.cs.toArray] w fun e' w' =>
   (e' = .returned .nilIface ∧ ∃ r : Nat, r ≤ 2 ∧ Q r w' ∧ ∃ s' cache', Moved 6 s.d s'.d ∧ CB w cache cache' ∧ JSet n s' (if p.2.moves r = true then recs ++ [mvB kk r] else recs) ∧
    ESG w' X J R V A B n base dbase ((if p.2.moves r = true then recs ++ [mvB kk r] else recs).length + 1) room clock pause ev cv cache' (mapE es p.2.id (·.after r clock pause)) true s' ∧ Fr (fun b => F b ∨ JnF A B J cache b ∨ b = p.1 ∨ b = X) w w') ∨
   (∃ g, e' = .returned (trV g) ∧ AskF X J R A B n base dbase room clock pause ev cv cache es s recs p kk F Q w g w') := by
 have hdis := E.dis
 have hpF : RollF R ev es p.1 := .inr (.inr ⟨p, hp, rfl⟩)
 have hpd := hdis _ hpF
 have hXl := lt_of_heap E.eng
 have hAl := E.jn.d.d.lt
 have hBl := lt_of_heap E.jn.d.r.1
 have hJl := lt_of_heap E.jn.j
 have hVl := lt_of_heap E.jn.v
 have hcl : ∀ b, cache.ownBlock = some b → b < w.heap.size := fun b hb => (E.jn.d.q.o.lt b hb).2
 have hJnl : ∀ b, JnF A B J cache b → b < w.heap.size := by
  rintro b ((h | h | h) | h)
  ·omega
  ·omega
  ·exact hcl b h
  ·omega
 have nX : ¬ JnF A B J cache X := by
  rintro (h | h)
  ·exact E.jn.d.not E.eng (by decide) h
  ·have := E.eng; rw [h] at this; have := this.symm.trans E.jn.j; simp at this
 have nV : ¬ JnF A B J cache V := by
  rintro (h | h)
  ·exact E.jn.d.not E.jn.v (by decide) h
  ·have := E.jn.v; rw [h] at this; have := this.symm.trans E.jn.j; simp at this
 have nVX : V ≠ X := fun h => by have := E.jn.v; rw [h] at this; have := this.symm.trans E.eng; simp at this
 have hsj := settle_jd hjd hsb hen
 have hq := hbd.q (by omega)
 have hel := hbd.e
 obtain ⟨sD, HSD⟩ : ∃ sD, sD = settleD sb s (recs.length + 1) := ⟨_, rfl⟩
 rw [← HSD] at hsj
 obtain ⟨m1, m2, m3, m4, m5⟩ := hsj
 -- JnF of another cache
 have hjn : ∀ {c1 : Value}, CB w cache c1 → ∀ b, b < w.heap.size → JnF A B J c1 b → JnF A B J cache b := by
  rintro c1 hc b hb ((h | h | h) | h)
  ·exact .inl (.inl h)
  ·exact .inl (.inr (.inl h))
  ·rcases hc b h with h | h
   ·exact .inl (.inr (.inr h))
   ·omega
  ·exact .inr h
 refine ask_F (base := base) (room := room) (ev := ev) (es := es) p.2.asks (F1 := JnF A B J cache) (F2 := F)
  (P := fun w' => ∃ r : Nat, r ≤ 2 ∧ Q r w' ∧ ∃ s' cache', Moved 6 s.d s'.d ∧ CB w cache cache' ∧ JSet n s' (if p.2.moves r = true then recs ++ [mvB kk r] else recs) ∧
    ESG w' X J R V A B n base dbase ((if p.2.moves r = true then recs ++ [mvB kk r] else recs).length + 1) room clock pause ev cv cache' (mapE es p.2.id (·.after r clock pause)) true s' ∧ Fr (fun b => F b ∨ JnF A B J cache b ∨ b = p.1 ∨ b = X) w w')
  (PF := AskF X J R A B n base dbase room clock pause ev cv cache es s recs p kk F Q w)
  (Q1 := fun W => ∃ cache1, JnG W J V A B n dbase cache1 sD.2 ((recs.length + 1 : Nat) : Int) true ∧ sD.1 = true ∧ CB w cache cache1 ∧ Fr (JnF A B J cache) w W)
  (Q2 := fun r W => r ≤ 2 ∧ Q r W ∧ (∃ cache1, JnG W J V A B n dbase cache1 sD.2 ((recs.length + 1 : Nat) : Int) true ∧ sD.1 = true ∧ CB w cache cache1) ∧ RollAt W R base room ev es ∧ Fr (fun b => F b ∨ JnF A B J cache b) w W)
  E.eng (fun b h => ⟨fun e => nX (e ▸ h), hJnl b h⟩) (fun b h => ⟨(hF b h).1, (hF b h).2.2.2.2⟩) (fun W hf => ?_) (fun W hq1 hE hsz => ?_) (fun r W hq => hq.2.2.2.1) (fun W hR => ?_) (fun r W W' hq2 hE hf => ?_)
 ·refine (Settle_gen (E.jn.frz hf) E.hi hq (by omega) hen HI (hG.fr hf (fun h => h))).mono ?_
  rintro e' w1 ⟨v, cache1, rfl, a1, a2, a3, a4, a5⟩
  rw [← HSD] at a1 a5
  have a2' : CB w cache cache1 := fun b hb => (a2 b hb).imp_right (fun h => Nat.le_trans hf.size h)
  have hF1 : Fr (JnF A B J cache) w w1 := (hf.mono (fun _ _ h => h.elim)).trans a4 (fun _ _ h => h)
  refine ⟨v, rfl, a4, ?_⟩
  rcases a5.out with ⟨okD, rfl, hj⟩ | ⟨bad, hj, g, rfl, ht⟩
  ·exact .inl ⟨rfl, cache1, ⟨a3, a1, hj⟩, okD, a2', hF1⟩
  ·refine .inr ⟨g, rfl, fun W2 eB hf2 => ?_⟩
   have he1 : EngAt w1 X J R clock pause cv := a4.keep (hf.keep E.eng (fun h => h)) nX
   have hfX : Fr (fun b => JnF A B J cache b ∨ b = X) w W2 := (hF1.mono (fun _ _ h => .inl h)).trans hf2 (fun _ _ h => .inr h)
   refine ⟨ht.fr hf2 (fun b c t hb htt e => ?_), fun hg => bad (m2 hg), eB, ?_, sD.2, cache1, a1.fr hf2 (fun b hb e => a1.not he1 (by decide) (e ▸ hb)), m1.mono (by decide), by omega, a2', .inl ⟨m4, hfX⟩, hfX.mono (fun b _ h => by rcases h with h | h; exact .inr (.inl h); exact .inr (.inr (.inr h)))⟩
   ·subst e
    have := he1.symm.trans hb
    simp at this
    rw [← this.2] at htt
    revert htt; decide
   ·exact (((E.roll.frz hf).fr a4 (fun b hb h => (hdis b hb).1 h))).fr hf2 (fun b hb => (hdis b hb).2.2)
 ·obtain ⟨cache1, q1, q2, q3, hfW⟩ := hq1
  refine (HRE W hfW hE).mono ?_
  rintro e' w' ⟨r, rfl, hr2, hf', hQ⟩
  have hRW : RollAt W R base room ev es := E.roll.fr hfW (fun b hb h => (hdis b hb).1 h)
  refine ⟨r, rfl, hf', hr2, hQ, ⟨cache1, q1.fr hf' ?_, q2, q3⟩, hRW.fr hf' (fun b hb h => (hF _ h).2.2.2.1 hb), (hfW.mono (fun _ _ h => .inr h)).trans hf' (fun _ _ h => .inl h)⟩
  rintro b (h | h) hFb
  ·exact (hF b hFb).2.1 (hjn q3 b (hF b hFb).2.2.2.2 h)
  ·exact (hF b hFb).2.2.1 h
 ·refine (rNext_ok hR hs hn hok p.2.id clock).mono ?_
  rintro e' w' ⟨hq, hf'⟩
  rcases hq with ⟨q, hq, hid, _, rfl⟩ | ⟨hno, _⟩
  ·rw [sorted_uniq hs hq hp hid]
   exact ⟨_, rfl, hf'⟩
  ·exact absurd ho (hno p hp rfl)
 ·obtain ⟨hr2, hQ, ⟨cache1, q1, q2, q3⟩, hRW, hfW⟩ := hq2
  have hR' := hRW.frz hf
  have q1' := q1.frz hf
  have hQ' : Q r W' := HQ r (fun _ => False) W W' hQ hf (fun b h => h.elim)
  have hS := m5 q2
  have hfW' : Fr (fun b => F b ∨ JnF A B J cache b) w W' := hfW.trans (hf.mono (fun _ _ h => h.elim)) (fun _ _ h => h)
  have hsz' := hfW'.size
  have E' : ESG W' X J R V A B n base dbase (recs.length + 1) room clock pause ev cv cache1 es true sD.2 := ⟨hE, hR', q1', E.hi⟩
  have hd' := E'.dis
  by_cases hm : p.2.moves r = true
  ·have hq2' : sD.2.d.Q := (hbd.moved m1 (by decide) (by omega)).q (by omega)
   have haj := add_jd (sb := true) hS.jd (fun _ => hS) hen ⟨mvB_ok kk r, move_u8 hk1 hr2⟩
   have hel2 : sD.2.ents.length = 0 := by rw [hS.2]; rfl
   have hGW : GOk W' := hG.fr hfW' (by
    rintro (h | (h | h | h) | h)
    ·exact hFG h
    ·have := E.hi.1; have := E.hi.2.1; omega
    ·have := E.hi.1; have := E.hi.2.2.1; omega
    ·have := (E.jn.d.q.o.lt _ h).1; have := E.hi.1; omega
    ·have := E.hi.1; have := E.hi.2.2.2; omega)
   refine (follow_F hE hR' hs hn hok hp r ho hm hr2 kk hk hk1 q1' E.hi hq2' hq2' (by omega) hen hn4 HI hGW hd').mono ?_
   rintro e' w9 ⟨v, cache9, rfl, a1, a2, a3, a4, a5⟩
   have eB : ldB 3 (bodyS kk r [] 0) 4 = mvB kk r := rfl
   rw [eB] at a1 a5
   obtain ⟨aD, HAD⟩ : ∃ aD, aD = addD true sD.2 (recs.length + 1) (mvB kk r) := ⟨_, rfl⟩
   rw [← HAD] at a1 a5 haj
   obtain ⟨b1, b2, b3, b4, b5⟩ := haj
   have hcb9 : CB w cache cache9 := q3.trans (fun b hb => a2 b hb) hsz'
   have hf9 : Fr (fun b => F b ∨ JnF A B J cache b ∨ b = p.1 ∨ b = X) w w9 := (hfW'.mono (fun b _ h => by rcases h with h | h; exact .inl h; exact .inr (.inl h))).trans a4 (fun b hb h => by
    rcases h with h | h | h
    ·exact .inr (.inl (hjn q3 b hb h))
    ·exact .inr (.inr (.inl h))
    ·exact .inr (.inr (.inr h)))
   have hNP : NP W' (fun b => JnF A B J cache1 b ∨ b = p.1 ∨ b = X) := by
    rintro b ((h | h) | h | h)
    ·exact q1'.d.ty h
    ·subst h; exact ⟨_, _, q1'.j, .inr (.inr (.inr (.inl rfl)))⟩
    ·subst h; exact ⟨_, _, (hR'.e p hp).2, .inr (.inr (.inr (.inr (.inl rfl))))⟩
    ·subst h; exact ⟨_, _, hE, .inr (.inr (.inr (.inr (.inr rfl))))⟩
   have hQ9 : Q r w9 := HQ r _ W' w9 hQ' a4 hNP
   rcases a5.out with ⟨okA, rfl, he9, hj9, hr9⟩ | ⟨bad, eB9, hj9, hr9, g, rfl, ht⟩
   ·refine .inl ⟨rfl, r, hr2, hQ9, aD.2, cache9, m1.trans b1, hcb9, ?_, ⟨he9, ?_, ⟨a3, a1, ?_⟩, E.hi⟩, hf9⟩
    ·rw [if_pos hm]; exact b4 okA
    ·have := mapE_congr hs hp (f := fun a => a.after r clock pause) (g := fun a => a.go r) (by simp [AS.after, hm])
     rw [this]; exact hr9
    ·rw [if_pos hm, List.length_append, List.length_singleton]; push_cast at hj9 ⊢; exact hj9
   ·exact .inr ⟨g, rfl, ht, fun hg => bad (b2 (m1.good hg)), eB9, hr9, aD.2, cache9, a1, m1.trans b1, by omega, hcb9, .inr ⟨r, hQ9, hm, (b5 bad).imp_left (fun h => h.2 hS.jz)⟩, hf9⟩
  ·refine (follow_off hE hR' hs hn hok hck hp r (fun h => hm h.2) hp1 hp2 hc0 hc1 hpd.2.2).mono ?_
   rintro e' w9 ⟨rfl, hR9, hf9⟩
   have hpl : p.1 < w.heap.size := lt_of_heap (E.roll.e p hp).2
   refine .inl ⟨rfl, r, hr2, HQ r _ W' w9 hQ' hf9 (fun b h => by subst h; exact ⟨_, _, (hR'.e p hp).2, .inr (.inr (.inr (.inr (.inl rfl))))⟩), sD.2, cache1, m1.mono (by decide), q3, ?_, ⟨hf9.keep hE (fun h => hpd.2.2 h.symm), ?_, ?_, E.hi⟩, (hfW'.mono (fun b _ h => by rcases h with h | h; exact .inl h; exact .inr (.inl h))).trans hf9 (fun b _ h => .inr (.inr (.inl h)))⟩
   ·rw [if_neg hm]; exact hS
   ·have := mapE_congr hs hp (f := fun a => a.after r clock pause) (g := fun a => a.vain clock pause) (by simp [AS.after, hm])
    rw [this]; exact hR9
   ·rw [if_neg hm]
    refine q1'.fr hf9 ?_
    rintro b (h | h) e
    ·subst e; exact (hd' _ hpF).1 h
    ·subst e; exact hpd.2.1 h
end
end Go.Proofs.YteebjgfalllbjaaGreatDoor
namespace Go.Proofs.YteebjgfalllbjaaGreatDoor
open Go.RowKit
section
variable {w : World} {X J R V A B n base dbase : Nat} {room clock ck pause : Int} {ev cv cache : Value} {es : List (Nat × AS)} {sb : Bool} {s : DS} {recs : List (List Value)}
def TkG (P : Ptn cv) (s0 : P.σ) (F0 : Nat → Prop) (w : World) (X J R V A B n base dbase : Nat) (room ck pause : Int) (ev cache : Value) (es : List (Nat × AS)) (s : DS) (recs : List (List Value)) (i : Nat) (W : World) : Prop :=
 ∃ es' s' cache' sb', es'.map (·.1) = es.map (·.1) ∧ es'.map (·.2) = (tickL P ck pause ((es.map (·.2)).take i) s0).1 ++ (es.map (·.2)).drop i ∧
  ESG W X J R V A B n base dbase ((recs ++ (tickL P ck pause ((es.map (·.2)).take i) s0).2.2.map mvP).length + 1) room ck pause ev cv cache' es' sb' s' ∧
  JD n s' (recs ++ (tickL P ck pause ((es.map (·.2)).take i) s0).2.2.map mvP) ∧ (sb' = true → JSet n s' (recs ++ (tickL P ck pause ((es.map (·.2)).take i) s0).2.2.map mvP)) ∧ (JZ n s recs → JZ n s' (recs ++ (tickL P ck pause ((es.map (·.2)).take i) s0).2.2.map mvP)) ∧ (JZ n s' (recs ++ (tickL P ck pause ((es.map (·.2)).take i) s0).2.2.map mvP) ∨ ∀ a ∈ (es.map (·.2)).take i, ¬ (a.open ∧ a.due ≤ ck)) ∧
  Moved (6 * i) s.d s'.d ∧ s'.ents.length ≤ s.ents.length ∧ CB w cache cache' ∧
  (∃ F, P.PA (tickL P ck pause ((es.map (·.2)).take i) s0).2.1 F W ∧ ∀ b, F b → F0 b ∨ w.heap.size ≤ b) ∧ Fr (fun b => b = X ∨ JnF A B J cache b ∨ F0 b ∨ RollF R ev es b) w W
def TkF (P : Ptn cv) (s0 : P.σ) (F0 : Nat → Prop) (w : World) (X J R A B n base dbase : Nat) (room ck pause : Int) (ev cache : Value) (es : List (Nat × AS)) (s : DS) (recs : List (List Value)) (g : Nat) (W : World) : Prop :=
 ∃ (i : Nat) (a : AS) (es' : List (Nat × AS)) (s' : DS) (cache' : Value), (es.map (·.2))[i]? = some a ∧ (a.open ∧ a.due ≤ ck) ∧ es'.map (·.1) = es.map (·.1) ∧ es'.map (·.2) = (tickL P ck pause ((es.map (·.2)).take i) s0).1 ++ (es.map (·.2)).drop i ∧
  TrAt W g ∧ ¬ s.d.good ∧ EngB W X J R true ck pause cv ∧ RollAt W R base room ev es' ∧ DSAt W A B n dbase cache' s' ∧ Moved (6 * i + 6) s.d s'.d ∧ s'.ents.length ≤ s.ents.length + 2 ∧ CB w cache cache' ∧ Fr (fun b => b = X ∨ JnF A B J cache b ∨ F0 b ∨ RollF R ev es b) w W ∧
  (((JD n s' (recs ++ (tickL P ck pause ((es.map (·.2)).take i) s0).2.2.map mvP) ∧ (JZ n s recs → JZ n s' (recs ++ (tickL P ck pause ((es.map (·.2)).take i) s0).2.2.map mvP)) ∧ (JZ n s' (recs ++ (tickL P ck pause ((es.map (·.2)).take i) s0).2.2.map mvP) ∨ ∀ a ∈ (es.map (·.2)).take i, ¬ (a.open ∧ a.due ≤ ck))) ∧ ∃ F, P.PA (tickL P ck pause ((es.map (·.2)).take i) s0).2.1 F W ∧ ∀ b, F b → F0 b ∨ w.heap.size ≤ b) ∨
   (a.moves (P.ask (tickL P ck pause ((es.map (·.2)).take i) s0).2.1 a.asks).1 = true ∧ (JZ n s' (recs ++ (tickL P ck pause ((es.map (·.2)).take i) s0).2.2.map mvP) ∨ JD n s' (recs ++ (tickL P ck pause ((es.map (·.2)).take i) s0).2.2.map mvP ++ [mvP (a.id.toNat, (P.ask (tickL P ck pause ((es.map (·.2)).take i) s0).2.1 a.asks).1)])) ∧ ∃ F, P.PA (P.ask (tickL P ck pause ((es.map (·.2)).take i) s0).2.1 a.asks).2 F W ∧ ∀ b, F b → F0 b ∨ w.heap.size ≤ b))
theorem pg_ne {P : Ptn cv} {s1 : P.σ} {F : Nat → Prop} {W : World} {e : Nat} (h : ESG W X J R V A B n base dbase e room clock pause ev cv cache es sb s) (hP : P.PA s1 F W) (b : Nat) (hb : F b) : b ≠ X ∧ ¬ JnF A B J cache b ∧ b ≠ V ∧ ¬ RollF R ev es b ∧ b < W.heap.size := by
 obtain ⟨c, t, hc, ht⟩ := P.ty hP hb
 unfold PT at ht
 refine ⟨?_, ?_, ?_, roll_ne h.roll hc (by rcases ht with rfl | rfl | rfl | rfl <;> decide), lt_of_heap hc⟩
 ·intro e; subst e; have := hc.symm.trans h.eng; simp at this; rw [this.2] at ht; revert ht; decide
 ·rintro (hd | e)
  ·exact h.jn.d.not hc (by rcases ht with rfl | rfl | rfl | rfl <;> decide) hd
  ·subst e; have := hc.symm.trans h.jn.j; simp at this; rw [this.2] at ht; revert ht; decide
 ·intro e; subst e; have := hc.symm.trans h.jn.v; simp at this; rw [this.2] at ht; revert ht; decide
set_option maxHeartbeats 1000000 in
theorem tick_G (P : Ptn cv) {s0 : P.σ} {F0 : Nat → Prop} (E : ESG w X J R V A B n base dbase (recs.length + 1) room clock pause ev cv cache es sb s) (hjd : JD n s recs) (hsb : sb = true → JSet n s recs) {k : Nat} (hbd : Bd k s) (hkb : k < 60000) (hs : Sorted es) (hok : ∀ p ∈ es, p.2.Ok clock) (hid : ∀ p ∈ es, 1 ≤ p.2.id ∧ p.2.id ≤ 1000)
  (hroom : recs.length + 1 + ((es.map (·.2)).map AS.left).sum ≤ n) (hn4 : n ≤ 400) (hln : es.length ≤ 1000) (HIT : ∀ i, recs.length + 1 ≤ i → i ≤ recs.length + ((es.map (·.2)).map AS.left).sum → ItH i) (hG : GOk w) (hFG : 0 < w.heap.size → ¬ F0 0) (hXG : 0 ≠ X) (hRG : ¬ RollF R ev es 0) (hp1 : 1 ≤ pause) (hp2 : pause ≤ 64) (hc0 : 0 ≤ clock) (hc1 : clock < 1000000) (hPA : P.PA s0 F0 w) (hsz : P.sz s0 + es.length ≤ 20000000) :
  Calls Tryz.prog 43 #[.pointer (some ⟨X, 0, none⟩)] w fun e' w' => (e' = .returned .nilIface ∧ TkG P s0 F0 w X J R V A B n base dbase room (clock + 1) pause ev cache es s recs es.length w') ∨ (∃ g, e' = .returned (trV g) ∧ TkF P s0 F0 w X J R A B n base dbase room (clock + 1) pause ev cache es s recs g w') := by
 obtain ⟨ck, hck⟩ : ∃ ck, ck = clock + 1 := ⟨_, rfl⟩
 rw [← hck]
 have hck1 : ck - 1 = clock := by omega
 have hLs : (es.map (·.2)).Pairwise (fun a b => a.id < b.id) := by rw [List.pairwise_map]; exact hs
 have hLok : ∀ a ∈ es.map (·.2), a.Ok (ck - 1) := fun a ha => by
  obtain ⟨p, hp, rfl⟩ := List.mem_map.1 ha
  rw [hck1]; exact hok p hp
 have hLid : ∀ a ∈ es.map (·.2), 1 ≤ a.id ∧ a.id ≤ 1000 := fun a ha => by
  obtain ⟨p, hp, rfl⟩ := List.mem_map.1 ha
  exact hid p hp
 have hLl : (es.map (·.2)).length = es.length := List.length_map _
 obtain ⟨L, hL⟩ : ∃ L, L = es.map (·.2) := ⟨_, rfl⟩
 have hzs : (es.map fun p => p.2.told).length = es.length := List.length_map _
 have htB : tB es es.length = ((es.map fun p => p.2.told).map ST.cs).flatten := by rw [tB, List.take_length, List.map_map]; rfl
 have hdis := E.dis
 have hGl : 0 < w.heap.size := World.block_lt_of_cell? w _ hG
 have hcl : ∀ b, cache.ownBlock = some b → b < w.heap.size := fun b hb => (E.jn.d.q.o.lt b hb).2
 have nX : ¬ JnF A B J cache X := by
  rintro (h | h)
  ·exact E.jn.d.not E.eng (by decide) h
  ·have := E.eng; rw [h] at this; have := this.symm.trans E.jn.j; simp at this
 have nVX : V ≠ X := fun h => by have := E.jn.v; rw [h] at this; have := this.symm.trans E.eng; simp at this
 have nJG : ¬ JnF A B J cache 0 := by
  rintro ((h | h | h) | h)
  ·have := E.hi.1; have := E.hi.2.1; omega
  ·have := E.hi.1; have := E.hi.2.2.1; omega
  ·have := (E.jn.d.q.o.lt _ h).1; have := E.hi.1; omega
  ·have := E.hi.1; have := E.hi.2.2.2; omega
 have G := tick_F (zs := es.map fun p => p.2.told) (g := w.heap.size) (ck := ck) (PF := TkF P s0 F0 w X J R A B n base dbase room ck pause ev cache es s recs)
  (Inv := fun i W => TkG P s0 F0 w X J R V A B n base dbase room ck pause ev cache es s recs i W ∧ W.heap[w.heap.size]? = some (.cells ((es.map fun p => p.2.told).map ST.cs).flatten.toArray 42 (0, 0)))
  E.eng hck hc0 (by omega) (by rw [hzs]; omega) (fun i W h => by
   obtain ⟨⟨es', s', c', sb', _, _, hE, _⟩, _⟩ := h
   exact hE.eng) (fun i W h => h.2) (fun W hE hf hsz' => ?_) (fun i W0 W z hz hI hf => ?_)
 ·rw [hzs] at G
  exact G.mono fun e' w' h => h.imp (fun h => ⟨h.1, h.2.1⟩) id
 ·have hRW : RollAt W R base room ev es := E.roll.fr hf (fun b hb h => (hdis b hb).2.2 h)
  refine (Statuses_ok hRW (by omega) (fun p hp => (hok p hp).l6)).mono ?_
  rintro e' w' ⟨rfl, hg, hf'⟩
  rw [hsz'] at hg ⊢
  rw [hzs]
  have hnil : recs ++ (tickL P ck pause ((es.map (·.2)).take 0) s0).2.2.map mvP = recs := by simp [tickL]
  refine ⟨rfl, ⟨es, s, cache, sb, rfl, by simp [tickL], ?_, ?_, ?_, ?_, .inr (fun a ha => by simp at ha), ?_, Nat.le_refl _, CB.refl _ _, ⟨F0, ?_, fun b hb => .inl hb⟩, (hf.mono (fun _ _ h => .inl h)).trans (hf'.mono (fun _ _ h => h.elim)) (fun _ _ h => h)⟩, by rw [← htB]; exact hg⟩
  ·have q := (E.jn.fr hf (fun b hb e => by rcases hb with hb | hb; exact nX (e ▸ hb); exact nVX (hb ▸ e))).frz hf'
   rw [hnil]
   exact ⟨hf'.keep hE (fun h => h), hRW.frz hf', q, E.hi⟩
  ·rw [hnil]; exact hjd
  ·rw [hnil]; exact hsb
  ·rw [hnil]; exact fun h => h
  ·exact (Moved.refl _).mono (by simp)
  ·have hPW : P.PA s0 F0 W := P.fr hPA hf (fun b hb h => (pg_ne E hPA b hb).1 h)
   have := P.fr hPW hf' (fun b _ h => h)
   simpa [tickL] using this
 ·obtain ⟨⟨es', s', c', sb', e1, e2, hE, hJ', hsb', hJZ, hJW, hMv, hEn, hCB, ⟨Fi, hPi, hPF⟩, hF⟩, hg⟩ := hI
  rw [← hL] at e2 hE hPi hJ' hsb' hJZ hJW
  rw [List.getElem?_map] at hz
  obtain ⟨p0, hp0, rfl⟩ := Option.map_eq_some_iff.1 hz
  have hi : i < es.length := (List.getElem?_eq_some_iff.1 hp0).1
  have hLi : L[i]? = some p0.2 := by rw [hL, List.getElem?_map, hp0]; rfl
  obtain ⟨a, ha⟩ : ∃ a, a = p0.2 := ⟨_, rfl⟩
  rw [← ha] at hLi
  have hdr : L.drop i = a :: L.drop (i + 1) := by
   have hlt := (List.getElem?_eq_some_iff.1 hLi).1
   rw [List.drop_eq_getElem_cons hlt, (List.getElem?_eq_some_iff.1 hLi).2]
  have htk : L.take (i + 1) = L.take i ++ [a] := by rw [List.take_add_one, hLi]; rfl
  obtain ⟨T, hT⟩ : ∃ T, T = tickL P ck pause (L.take i) s0 := ⟨_, rfl⟩
  have hTn : tickL P ck pause (L.take (i + 1)) s0 = (T.1 ++ [(tickOne P ck pause a T.2.1).1], (tickOne P ck pause a T.2.1).2.1, T.2.2 ++ (tickOne P ck pause a T.2.1).2.2) := by rw [htk, tickL_snoc, hT]
  have hTok := tickL_ok P ck pause (L.take i) s0 (fun b hb => hLok b (by rw [← hL]; exact List.mem_of_mem_take hb)) (by omega)
  have hTsz := tickL_sz P ck pause (L.take i) s0
  have hTid := tickL_ids P ck pause (L.take i) s0
  rw [← hT] at e2 hE hPi hTok hTsz hTid hJ' hsb' hJZ hJW
  have haL : a ∈ L := List.mem_of_getElem? hLi
  have haok : a.Ok (ck - 1) := hLok a (by rw [← hL]; exact haL)
  have haid : 1 ≤ a.id ∧ a.id ≤ 1000 := hLid a (by rw [← hL]; exact haL)
  rw [hdr] at e2
  have hids : (es'.map (·.2)).map (·.id) = L.map (·.id) := by
   rw [e2, ← hdr, List.map_append, hTid, ← List.map_append, List.take_append_drop]
  have hs2 : (es'.map (·.2)).Pairwise (fun a b => a.id < b.id) := by
   have h1 : (L.map (·.id)).Pairwise (· < ·) := by rw [List.pairwise_map, hL]; exact hLs
   rw [← hids, List.pairwise_map] at h1
   exact h1
  have hs' : Sorted es' := by rw [List.pairwise_map] at hs2; exact hs2
  have hlen' : es'.length = es.length := by have := congrArg List.length e1; simpa using this
  have hok' : ∀ p ∈ es', p.2.Ok ck := by
   intro p hp
   have h1 : p.2 ∈ es'.map (·.2) := List.mem_map.2 ⟨p, hp, rfl⟩
   rw [e2] at h1
   rcases List.mem_append.1 h1 with h1 | h1
   ·exact hTok.1 _ h1
   ·rw [← hdr] at h1
    exact (hLok _ (by rw [← hL]; exact List.mem_of_mem_drop h1)).mono (by omega)
  obtain ⟨p, hp, hpa⟩ : ∃ p ∈ es', p.2 = a := by
   have h1 : a ∈ es'.map (·.2) := by rw [e2]; simp
   obtain ⟨p, hp, h⟩ := List.mem_map.1 h1
   exact ⟨p, hp, h⟩
  have hEW := hE.frz hf
  refine (rNext_ok hEW.roll hs' (by omega) hok' p0.2.told.id ck).mono ?_
  have hz1 : p0.2.told.id = p.2.id := by rw [hpa, ha]; rfl
  rw [hz1]
  rintro e' w' ⟨hq, hf'⟩
  -- nothing is due
  have stay : ¬ (a.open ∧ a.due ≤ ck) → ∀ W', Fr (fun _ => False) W0 W' → TkG P s0 F0 w X J R V A B n base dbase room ck pause ev cache es s recs (i + 1) W' ∧ W'.heap[w.heap.size]? = some (.cells ((es.map fun p => p.2.told).map ST.cs).flatten.toArray 42 (0, 0)) := by
   intro hno W' hfW
   have h1 : tickOne P ck pause a T.2.1 = (a, T.2.1, []) := if_neg hno
   refine ⟨⟨es', s', c', sb', e1, ?_, ?_, ?_, ?_, ?_, ?_, hMv.mono (by push_cast; omega), hEn, hCB, ⟨Fi, ?_, hPF⟩, hF.trans (hfW.mono (fun _ _ h => h.elim)) (fun _ _ h => h)⟩, hfW.keep hg (fun h => h)⟩
   ·rw [← hL, hTn, h1, e2]; simp
   ·rw [← hL, hTn, h1, List.append_nil]
    exact hE.frz hfW
   ·rw [← hL, hTn, h1, List.append_nil]; exact hJ'
   ·rw [← hL, hTn, h1, List.append_nil]; exact hsb'
   ·rw [← hL, hTn, h1, List.append_nil]; exact hJZ
   ·rw [← hL, hTn, h1, List.append_nil]
    refine hJW.imp_right (fun h b hb => ?_)
    rw [htk] at hb
    rcases List.mem_append.1 hb with hb | hb
    ·exact h b hb
    ·rw [List.mem_singleton.1 hb]; exact hno
   ·rw [← hL, hTn, h1]
    exact P.fr hPi hfW (fun _ _ h => h)
  rcases hq with ⟨q, hqm, hqi, hqo, rfl⟩ | ⟨hno, rfl⟩
  ·obtain rfl := sorted_uniq hs' hqm hp hqi
   refine ⟨q.2.asks, _, rfl, hf', fun ht => stay (fun h => ?_), fun ht W' hfW => ?_⟩
   ·rw [← hpa] at h
    simp [h.2] at ht
   ·have hd : q.2.due ≤ ck := of_decide_eq_true ht
    have hE' := hE.frz hfW
    have hP' := P.fr hPi hfW (fun _ _ h => h)
    have hne := fun b hb => pg_ne hE' hP' b hb
    have hsum : ((L.take i).map AS.left).sum + a.left ≤ (L.map AS.left).sum := by
     have h5 : L = L.take i ++ (a :: L.drop (i + 1)) := by rw [← hdr, List.take_append_drop]
     conv => rhs; rw [h5]
     rw [List.map_append, List.sum_append_nat, List.map_cons, List.sum_cons]
     omega
    have hleft : 1 ≤ a.left := haok.left1 (by rw [← hpa]; exact hqo)
    have hTm := hTok.2
    have hrm : recs.length + 1 + T.2.2.length + 1 ≤ n := by
     rw [← hL] at hroom
     omega
    have hrll : (recs ++ T.2.2.map mvP).length = recs.length + T.2.2.length := by rw [List.length_append, List.length_map]
    have hfWW : Fr (fun b => b = X ∨ JnF A B J cache b ∨ F0 b ∨ RollF R ev es b) w W' := hF.trans (hfW.mono (fun _ _ h => h.elim)) (fun _ _ h => h)
    have hG' : GOk W' := hG.fr hfWW (by
     rintro (h | h | h | h)
     ·exact hXG h
     ·exact nJG h
     ·exact hFG hGl h
     ·exact hRG h)
    have hszW := hfWW.size
    have hTl2 : (L.take i).length ≤ i := by rw [List.length_take]; omega
    have hbd' : Bd (k + 6) s' := by
     obtain ⟨b1, b2, b3, b4, b5, b6, b7⟩ := hbd
     obtain ⟨c1, c2, c3, c4, c5, c6, _⟩ := hMv
     exact ⟨by omega, by push_cast; omega, by omega, by push_cast; omega, by omega, by push_cast; omega, by omega⟩
    have hFGi : ¬ Fi 0 := fun h => by
     rcases hPF _ h with h | h
     ·exact hFG hGl h
     ·omega
    refine (ask_G hE' hJ' hsb' hbd' (by omega) hs' (by omega) hok' (by omega) hp hqo (kk := q.2.id.toNat) (by rw [hpa]; omega) (by rw [hpa]; omega) (by omega) hn4 (HIT _ (by omega) (by rw [← hL]; omega)) hG' hp1 hp2 (by omega) (by omega) (F := Fi)
     (Q := fun r W => r = (P.ask T.2.1 q.2.asks).1 ∧ ∃ F, P.PA (P.ask T.2.1 q.2.asks).2 F W ∧ ∀ b, F b → Fi b ∨ W'.heap.size ≤ b) hne hFGi (fun W2 hf2 hE2 => ?_) (fun r S W2 W3 h hf3 hNP => ?_)).mono ?_
    ·have hP2 := P.fr hP' hf2 (fun b hb h => (hne b hb).2.1 h)
     refine (P.rep q.2.asks hP2 (by omega) hE2).mono ?_
     rintro e2 w2 ⟨rfl, hfr, F2, hpa2, hgr⟩
     exact ⟨_, rfl, P.le _ _, hfr, rfl, F2, hpa2, fun b hb => (hgr b hb).imp id (fun h => Nat.le_trans hf2.size h)⟩
    ·obtain ⟨hr0, F2, hp2, hg2⟩ := h
     refine ⟨hr0, F2, P.fr hp2 hf3 (fun b hb => ?_), hg2⟩
     obtain ⟨c, t, hc, ht⟩ := P.ty hp2 hb
     exact hNP.pt hc ht
    ·have hgrow : ∀ {F3 : Nat → Prop}, (∀ b, F3 b → Fi b ∨ W'.heap.size ≤ b) → ∀ b, F3 b → F0 b ∨ w.heap.size ≤ b := fun hgr b hb => by
      rcases hgr b hb with h5 | h5
      ·exact hPF b h5
      ·exact .inr (Nat.le_trans hszW h5)
     have hjl : ∀ b, b < w.heap.size → JnF A B J c' b → JnF A B J cache b := by
      rintro b hb ((h | h | h) | h)
      ·exact .inl (.inl h)
      ·exact .inl (.inr (.inl h))
      ·rcases hCB b h with h | h
       ·exact .inl (.inr (.inr h))
       ·omega
      ·exact .inr h
     have hfin : ∀ w3, Fr (fun b => Fi b ∨ JnF A B J c' b ∨ b = q.1 ∨ b = X) W' w3 → Fr (fun b => b = X ∨ JnF A B J cache b ∨ F0 b ∨ RollF R ev es b) w w3 := fun w3 hF3 => hfWW.trans hF3 (fun b hbl h => by
      rcases h with h | h | h | h
      ·rcases hPF b h with h5 | h5
       ·exact .inr (.inr (.inl h5))
       ·omega
      ·exact .inr (.inl (hjl b hbl h))
      ·exact .inr (.inr (.inr ((rollF_fst e1 R ev b).1 (.inr (.inr ⟨q, hp, h⟩)))))
      ·exact .inl h)
     rintro e3 w3 (⟨rfl, r, hr2, ⟨hr, F3, hPr, hgr⟩, s3, cache3, hM3, hC3, hS3, hE3, hF3⟩ | ⟨g, rfl, ht, hng, eB, hR3, s3, cache3, hd3, hM3, hl3, hC3, hw3, hF3⟩)
     ·have h1 : tickOne P ck pause a T.2.1 = (a.after r ck pause, (P.ask T.2.1 a.asks).2, if a.moves r = true then [(a.id.toNat, r)] else []) := by
       rw [tickOne, if_pos ⟨by rw [← hpa]; exact hqo, by rw [← hpa]; exact hd⟩, hr, hpa]
      have hrec : (if q.2.moves r = true then recs ++ T.2.2.map mvP ++ [mvB q.2.id.toNat r] else recs ++ T.2.2.map mvP) = recs ++ (T.2.2 ++ (tickOne P ck pause a T.2.1).2.2).map mvP := by
       rw [h1, hpa]
       by_cases hm : a.moves r = true
       ·simp [hm, mvP]
       ·simp [hm]
      rw [hrec] at hS3 hE3
      refine .inl ⟨rfl, ⟨mapE es' q.2.id (·.after r ck pause), s3, cache3, true, by rw [mapE_fst, e1], ?_, ?_, ?_, ?_, ?_, ?_, ?_, ?_, ?_, ⟨F3, ?_, hgrow hgr⟩, hfin w3 hF3⟩, ?_⟩
      ·rw [← hL, hTn, mapE_snd, e2, hpa]
       rw [e2] at hs2
       rw [map_turn T.1 (L.drop (i + 1)) a (fun b => b.after r ck pause) hs2, h1]
       simp
      ·rw [← hL, hTn]; exact hE3
      ·rw [← hL, hTn]; exact hS3.jd
      ·rw [← hL, hTn]; exact fun _ => hS3
      ·rw [← hL, hTn]; exact fun _ => hS3.jz
      ·rw [← hL, hTn]; exact .inl hS3.jz
      ·exact (hMv.trans hM3).mono (by push_cast; omega)
      ·rw [hS3.2]; exact Nat.zero_le _
      ·exact hCB.trans hC3 hszW
      ·rw [← hL, hTn, h1, ← hpa]; exact hPr
      ·refine hF3.keep (hfW.keep hg (fun h => h)) (fun h => ?_)
       have h8 := hfW.keep hg (fun h => h)
       rcases h with h | (h | h) | h | h
       ·obtain ⟨c, t, hc, ht⟩ := P.ty hP' h
        have h9 := h8.symm.trans hc
        simp only [Option.some.injEq, Obj.cells.injEq] at h9
        rw [← h9.2.1] at ht
        revert ht
        unfold PT
        decide
       ·exact hE'.jn.d.not h8 (by decide) h
       ·rw [h] at h8; have := h8.symm.trans hE'.jn.j; simp at this
       ·rw [h] at h8; have := h8.symm.trans (hE'.roll.e q hp).2; simp at this
       ·rw [h] at h8; have := h8.symm.trans hE'.eng; simp at this
     ·refine .inr ⟨g, rfl, i, a, es', s3, cache3, by rw [← hL]; exact hLi, ⟨by rw [← hpa]; exact hqo, by rw [← hpa]; exact hd⟩, e1, by rw [← hL, ← hT, hdr]; exact e2, ht, fun hg => hng (hMv.good hg), eB, hR3, hd3, hMv.trans hM3, by omega, hCB.trans hC3 hszW, hfin w3 hF3, ?_⟩
      rw [← hL, ← hT]
      rcases hw3 with ⟨hj3, hfX⟩ | ⟨r, ⟨hr, F3, hPr, hgr⟩, hm, hj3⟩
      ·exact .inl ⟨⟨hj3.1, fun h => hj3.2 (hJZ h), hJW.imp_left hj3.2⟩, Fi, P.fr hP' hfX (fun b hb h => by rcases h with h | h; exact (hne b hb).2.1 h; exact (hne b hb).1 h), hPF⟩
      ·rw [hpa] at hm hj3 hr hPr
       subst hr
       exact .inr ⟨hm, hj3, F3, hPr, hgrow hgr⟩
  ·refine ⟨zC, false, rfl, hf', fun _ => stay (fun h => ?_), fun ht => by cases ht⟩
   rw [← hpa] at h
   exact hno p hp rfl h.1
end
end Go.Proofs.YteebjgfalllbjaaGreatDoor
namespace Go.Proofs.YteebjgfalllbjaaGreatDoor
open Go.RowKit
theorem tickU_recs {cv : Value} (P : Ptn cv) (ck pause : Int) (u l : List AS) : ∀ (s : P.σ) (d : List AS) (rs : List Rec), (d ++ (l ++ u)).Pairwise (fun a b => a.id < b.id) → (∀ a ∈ l, 1 ≤ a.id ∧ a.id ≤ 1000) → RecsOk rs → (d ++ (l ++ u)).map AS.zero = recL rs →
  RecsOk (rs ++ (tickL P ck pause l s).2.2.map mvR) ∧ (d ++ ((tickL P ck pause l s).1 ++ u)).map AS.zero = recL (rs ++ (tickL P ck pause l s).2.2.map mvR) := by
 induction l with
 | nil => intro s d rs _ _ h1 h2; simpa [tickL] using ⟨h1, by simpa using h2⟩
 | cons a l ih =>
  intro s d rs hs hid hok hL
  rw [List.cons_append] at hs hL
  obtain ⟨T, hT⟩ : ∃ T, T = tickOne P ck pause a s := ⟨_, rfl⟩
  have hTid : T.1.id = a.id := by rw [hT]; exact (tickOne_id P ck pause a s).1
  have key : RecsOk (rs ++ T.2.2.map mvR) ∧ (d ++ T.1 :: (l ++ u)).map AS.zero = recL (rs ++ T.2.2.map mvR) := by
   unfold tickOne at hT
   by_cases hd : a.open ∧ a.due ≤ ck
   ·rw [if_pos hd] at hT
    obtain ⟨r, hr⟩ : ∃ r, r = (P.ask s a.asks).1 := ⟨_, rfl⟩
    have hr2 : r ≤ 2 := by rw [hr]; exact P.le _ _
    rw [← hr] at hT
    by_cases hm : a.moves r = true
    ·rw [if_pos hm, AS.after, if_pos hm] at hT
     subst hT
     have hia := hid a (by simp)
     have hzm : a.zero ∈ recL rs := by rw [← hL]; simp
     have hcast : ((a.id.toNat : Nat) : Int) = a.id := by omega
     refine ⟨?_, ?_⟩
     ·show RecsOk (rs ++ [.move a.id.toNat r])
      exact recsOk_snoc.2 ⟨hok, hr2, by omega, a.zero, hzm, hcast.symm, hd.1, hm⟩
     ·show (d ++ a.go r :: (l ++ u)).map AS.zero = recL (rs ++ [.move a.id.toNat r])
      rw [recL_snoc]
      show _ = mvA (recL rs) ((a.id.toNat : Nat) : Int) r
      rw [← hL, hcast, ← mvA_zero]
      congr 1
      exact (map_turn d (l ++ u) a (fun b => b.go r) hs).symm
    ·rw [if_neg hm, AS.after, if_neg hm] at hT
     subst hT
     refine ⟨by simpa using hok, ?_⟩
     show (d ++ a.vain ck pause :: (l ++ u)).map AS.zero = recL (rs ++ [])
     rw [List.append_nil, ← hL]
     simp only [List.map_append, List.map_cons]
     rfl
   ·rw [if_neg hd] at hT
    subst hT
    exact ⟨by simpa using hok, by simpa using hL⟩
  have hs2 : ((d ++ [T.1]) ++ (l ++ u)).Pairwise (fun a b => a.id < b.id) := by
   rw [sorted_ids_iff] at hs ⊢
   simpa [hTid] using hs
  have := ih T.2.1 (d ++ [T.1]) (rs ++ T.2.2.map mvR) hs2 (fun b hb => hid b (by simp [hb])) key.1 (by simpa using key.2)
  simp only [tickL, ← hT, List.map_append]
  simpa [List.append_assoc] using this
theorem ENp.part {n : Nat} {clock : Int} {L : List AS} {rs : List Rec} {cv : Value} (P : Ptn cv) (s0 : P.σ) (pause : Int) (h : ENp n clock L rs) (i : Nat) : ENp n (clock + 1) ((tickL P (clock + 1) pause (L.take i) s0).1 ++ L.drop i) (rs ++ (tickL P (clock + 1) pause (L.take i) s0).2.2.map mvR) := by
 have hck := h.ck
 have h1 := tickU_recs P (clock + 1) pause (L.drop i) (L.take i) s0 [] rs (by rw [List.take_append_drop]; simpa using h.so) (fun a ha => by have := saga_of _ _ (h.mem (List.mem_of_mem_take ha)).2; omega) h.ok (by rw [List.take_append_drop]; simpa using h.zL)
 have h2 := tickL_ok P (clock + 1) pause (L.take i) s0 (fun a ha => by have := (h.mem (List.mem_of_mem_take ha)).1; simpa using this) (by omega)
 refine ⟨h.n8, h.n4, by omega, h1.1, ?_, by simpa using h1.2, fun a ha => ?_⟩
 ·have e : needC (rs ++ (tickL P (clock + 1) pause (L.take i) s0).2.2.map mvR) = needC rs := by
   unfold needC
   rw [List.map_append, List.sum_append_nat, List.map_map]
   have : ∀ l : List (Nat × Nat), (l.map (Rec.need ∘ mvR)).sum = 0 := fun l => by
    induction l with
    | nil => rfl
    | cons m l ih => rw [List.map_cons, List.sum_cons, ih]; rfl
   rw [this]; rfl
  rw [e]; exact h.nd
 ·rcases List.mem_append.1 ha with ha | ha
  ·exact ⟨(h2.1 a ha).t0, (h2.1 a ha).t1⟩
  ·have := h.tr a (List.mem_of_mem_drop ha); exact ⟨this.1, by omega⟩
theorem recs_moves (rs : List Rec) (l : List (Nat × Nat)) : (rs ++ l.map mvR).map Rec.bytes = rs.map Rec.bytes ++ l.map mvP := by rw [List.map_append, mvR_bytes]
theorem needC_moves (rs : List Rec) (l : List (Nat × Nat)) : needC (rs ++ l.map mvR) = needC rs := by
 unfold needC
 rw [List.map_append, List.sum_append_nat, List.map_map]
 have : ∀ l : List (Nat × Nat), (l.map (Rec.need ∘ mvR)).sum = 0 := fun l => by
  induction l with
  | nil => rfl
  | cons m l ih => rw [List.map_cons, List.sum_cons, ih]; rfl
 rw [this]; rfl
section
variable {w w' : World} {k X A B n : Nat} {clock pause : Int} {cv : Value} {L : List AS} {rs : List Rec} {s : DS} {C F : Nat → Prop}
def TickF (P : Ptn cv) (s0 : P.σ) (F0 : Nat → Prop) (w : World) (k X A B n : Nat) (clock pause : Int) (L : List AS) (rs : List Rec) (s s' : DS) (C' F' : Nat → Prop) (w' : World) (v : Value) : Prop :=
 ErrT w' v ∧ ¬ s.d.good ∧ DG w' (k + 2) A B n s' C' ∧ ∃ (i : Nat) (a : AS), L[i]? = some a ∧ (a.open ∧ a.due ≤ clock + 1) ∧ ED w' X n (clock + 1) pause cv ((tickL P (clock + 1) pause (L.take i) s0).1 ++ L.drop i) (rs ++ (tickL P (clock + 1) pause (L.take i) s0).2.2.map mvR) F' ∧
  (((JD n s' ((rs ++ (tickL P (clock + 1) pause (L.take i) s0).2.2.map mvR).map Rec.bytes) ∧ (JZ n s (rs.map Rec.bytes) → JZ n s' ((rs ++ (tickL P (clock + 1) pause (L.take i) s0).2.2.map mvR).map Rec.bytes)) ∧ (JZ n s' ((rs ++ (tickL P (clock + 1) pause (L.take i) s0).2.2.map mvR).map Rec.bytes) ∨ ∀ a ∈ L.take i, ¬ (a.open ∧ a.due ≤ clock + 1))) ∧ ∃ F1, P.PA (tickL P (clock + 1) pause (L.take i) s0).2.1 F1 w' ∧ ∀ b, F1 b → F0 b ∨ w.heap.size ≤ b) ∨
   (a.moves (P.ask (tickL P (clock + 1) pause (L.take i) s0).2.1 a.asks).1 = true ∧ (JZ n s' ((rs ++ (tickL P (clock + 1) pause (L.take i) s0).2.2.map mvR).map Rec.bytes) ∨ JD n s' ((rs ++ (tickL P (clock + 1) pause (L.take i) s0).2.2.map mvR ++ [mvR (a.id.toNat, (P.ask (tickL P (clock + 1) pause (L.take i) s0).2.1 a.asks).1)]).map Rec.bytes)) ∧ ∃ F1, P.PA (P.ask (tickL P (clock + 1) pause (L.take i) s0).2.1 a.asks).2 F1 w' ∧ ∀ b, F1 b → F0 b ∨ w.heap.size ≤ b))
theorem EG.tick (P : Ptn cv) {s0 : P.σ} {F0 : Nat → Prop} (h : EG w k X A B n clock pause cv L rs s C F) (hk : k < 50000) (HIT : ∀ i, i ≤ needC rs → ItH i) (hG : GOk w) (hFG : ¬ F 0) (hF0 : ¬ F0 0) (hp1 : 1 ≤ pause) (hp2 : pause ≤ 64) (hc1 : clock < 1000000) (hPA : P.PA s0 F0 w) (hsz : P.sz s0 + L.length ≤ 20000000) :
  Calls Tryz.prog 23 #[.pointer (some ⟨X, 0, none⟩)] w fun e w' => ∃ v s' C' F', e = .returned v ∧ (∀ b, C' b → C b ∨ w.heap.size ≤ b) ∧ (∀ b, F' b → F b ∨ w.heap.size ≤ b) ∧ Moved 2000 s.d s'.d ∧ Fr (fun b => b = A ∨ b = B ∨ C b ∨ F b ∨ F0 b) w w' ∧
   ((v = .nilIface ∧ FU w' F' ∧ EG w' (k + 2) X A B n (clock + 1) pause cv (tickL P (clock + 1) pause L s0).1 (rs ++ (tickL P (clock + 1) pause L s0).2.2.map mvR) s' C' F' ∧ (JZ n s (rs.map Rec.bytes) → JZ n s' ((rs ++ (tickL P (clock + 1) pause L s0).2.2.map mvR).map Rec.bytes)) ∧ (JZ n s' ((rs ++ (tickL P (clock + 1) pause L s0).2.2.map mvR).map Rec.bytes) ∨ ∀ a ∈ L, ¬ (a.open ∧ a.due ≤ clock + 1)) ∧ ∃ F1, P.PA (tickL P (clock + 1) pause L s0).2.1 F1 w' ∧ ∀ b, F1 b → F0 b ∨ w.heap.size ≤ b) ∨ TickF P s0 F0 w k X A B n clock pause L rs s s' C' F' w' v) := by
 obtain ⟨hp, hbd, hjd, J, R, V, base, dbase, room, ev, cache, es, sb, hsb, gd, hC⟩ := h
 have hlen : es.length = L.length := by rw [← gd.m, List.length_map]
 have hl := hp.len
 have n8 := hp.n8
 have n4 := hp.n4
 have hso := sorted_of gd.m hp.so
 have hbl : (rs.map Rec.bytes).length = rs.length := List.length_map _
 have E : ESG w X J R V A B n base dbase ((rs.map Rec.bytes).length + 1) room clock pause ev cv cache es sb s := ⟨gd.eng, gd.roll, by rw [hbl]; exact gd.jn, gd.hi⟩
 have hlf : rs.length + (L.map AS.left).sum ≤ needC rs := by
  have h1 := (recG hp.ok).lf
  have h3 : (recL rs).map AS.left = L.map AS.left := by rw [← hp.zL, List.map_map]; rfl
  rw [h3] at h1; exact h1
 have TG := tick_G P E hjd hsb hbd (by omega) hso (fun p hp' => (hp.mem (mem_of_map gd.m hp')).1) (fun p hp' => by have := saga_of _ _ (hp.mem (mem_of_map gd.m hp')).2; omega) (by rw [gd.m, hbl]; omega) n4 (by omega) (fun i h1 h2 => HIT i (by rw [gd.m, hbl] at h2; omega)) hG (fun _ => hF0) (fun e => hFG (gd.f _ (.inl e))) (fun h => hFG (gd.f _ (.inr (.inr (.inr h))))) hp1 hp2 hp.ck hc1 hPA (by omega)
 have hfr : ∀ w', Fr (fun b => b = X ∨ JnF A B J cache b ∨ F0 b ∨ RollF R ev es b) w w' → Fr (fun b => b = A ∨ b = B ∨ C b ∨ F b ∨ F0 b) w w' := fun w' hf => hf.mono (fun b _ h => by
  rcases h with h | ((h | h | h) | h) | h | h
  ·exact .inr (.inr (.inr (.inl (gd.f b (.inl h)))))
  ·exact .inl h
  ·exact .inr (.inl h)
  ·exact .inr (.inr (.inl (hC b h)))
  ·exact .inr (.inr (.inr (.inl (gd.f b (.inr (.inl h))))))
  ·exact .inr (.inr (.inr (.inr h)))
  ·exact .inr (.inr (.inr (.inl (gd.f b (.inr (.inr (.inr h))))))))
 have hcb : ∀ {cache' : Value}, CB w cache cache' → ∀ b, cache'.ownBlock = some b → C b ∨ w.heap.size ≤ b := fun h b hb => (h b hb).imp_left (hC b)
 have hbd2 : ∀ {s' : DS} {j : Int}, Moved j s.d s'.d → j ≤ 2000 → s'.ents.length ≤ s.ents.length + 2 → Bd (k + 2) s' := fun hm hj he => by
  obtain ⟨b1, b2, b3, b4, b5, b6, b7⟩ := hbd
  obtain ⟨c1, c2, c3, c4, c5, c6, _⟩ := hm
  exact ⟨by omega, by push_cast; omega, by omega, by push_cast; omega, by omega, by push_cast; omega, by omega⟩
 refine (eTick_tr (Q := fun v w' => (v = .nilIface ∧ TkG P s0 F0 w X J R V A B n base dbase room (clock + 1) pause ev cache es s (rs.map Rec.bytes) es.length w') ∨ (∃ g, v = trV g ∧ TkF P s0 F0 w X J R A B n base dbase room (clock + 1) pause ev cache es s (rs.map Rec.bytes) g w')) (TG.mono ?_)).mono ?_
 ·rintro e w' (⟨rfl, h⟩ | ⟨g, rfl, h⟩)
  ·exact ⟨_, rfl, .inl rfl, .inl ⟨rfl, h⟩⟩
  ·exact ⟨_, rfl, .inr ⟨g, rfl⟩, .inr ⟨g, rfl, h⟩⟩
 ·rintro e w' (⟨rfl, hq⟩ | ⟨g, w1, f, t, rfl, hft, hq, hf1⟩)
  ·rcases hq with ⟨_, es', s', cache', sb', e1, e2, hE, hJ', hsb', hJZ, hJW, hMv, hEn, hCB, ⟨F1, hP1, hg1⟩, hF⟩ | ⟨g, h, _⟩
   ·rw [List.take_of_length_le (by rw [List.length_map]; omega)] at e2 hE hJ' hsb' hJZ hJW hP1
    rw [List.drop_of_length_le (by rw [List.length_map]; omega), List.append_nil] at e2
    rw [gd.m] at e2 hE hJ' hsb' hJZ hJW hP1
    rw [← recs_moves] at hJ' hE hJZ hJW
    have hsb2 : sb' = true → JSet n s' ((rs ++ (tickL P (clock + 1) pause L s0).2.2.map mvR).map Rec.bytes) := fun h => by rw [recs_moves]; exact hsb' h
    rw [List.length_map] at hE
    have hRF : ∀ b, RollF R ev es' b → RollF R ev es b := fun b hb => (rollF_fst e1 R ev b).1 hb
    have hM2 : Moved 2000 s.d s'.d := hMv.mono (by omega)
    have gE : EGw w' X J R V A B n base dbase room (clock + 1) pause ev cv cache' es' sb' s' (tickL P (clock + 1) pause L s0).1 (rs ++ (tickL P (clock + 1) pause L s0).2.2.map mvR) (EngF X J R V ev es') :=
     ⟨hE.eng, hE.roll, hE.jn, gd.hi, e2, by rw [needC_moves]; exact gd.rm, Nat.le_trans gd.b hF.size, fun b hb => hb⟩
    refine ⟨_, s', fun b => cache'.ownBlock = some b, EngF X J R V ev es', rfl, hcb hCB, ?_, hM2, hfr w' hF, .inl ⟨rfl, gE.fu, ⟨hp.tick P s0 pause, hbd2 hM2 (by decide) (by omega), hJ', J, R, V, base, dbase, room, ev, cache', es', sb', hsb2, gE, fun _ h => h⟩, hJZ, hJW, F1, hP1, hg1⟩⟩
    rintro b (h | h | h | h)
    ·exact .inl (gd.f b (.inl h))
    ·exact .inl (gd.f b (.inr (.inl h)))
    ·exact .inl (gd.f b (.inr (.inr (.inl h))))
    ·exact .inl (gd.f b (.inr (.inr (.inr (hRF b h)))))
   ·cases h
  ·rcases hq with ⟨h, _⟩ | ⟨g2, hg2, i, a, es', s', cache', hLi, hao, e1, e2, ht, hng, eB, hR', hd', hMv, hEn, hCB, hF, hw⟩
   ·cases h
   ·obtain rfl : g = g2 := by unfold trV at hg2; simpa using hg2
    rw [gd.m] at hLi e2 hw
    have hil : i < L.length := (List.getElem?_eq_some_iff.1 hLi).1
    have hRF : ∀ b, RollF R ev es' b → RollF R ev es b := fun b hb => (rollF_fst e1 R ev b).1 hb
    have hM2 : Moved 2000 s.d s'.d := hMv.mono (by omega)
    refine ⟨_, s', fun b => cache'.ownBlock = some b, fun b => b = X ∨ RollF R ev es' b, rfl, hcb hCB, ?_, hM2, (hfr w1 hF).trans (hf1.mono (fun _ _ h => h.elim)) (fun _ _ h => h), .inr ⟨⟨f, t, g, rfl, hft, ht.fr hf1 (fun _ _ _ _ _ h => h)⟩, hng, ⟨hbd2 hM2 (by decide) (by omega), dbase, cache', hd'.frz hf1, fun _ h => h, gd.hi.1, gd.hi.2.1, gd.hi.2.2.1⟩, i, a, hLi, hao, ⟨hp.part P s0 pause i, J, R, base, room, ev, es', hf1.keep eB (fun h => h), hR'.frz hf1, e2, .inl rfl, fun b hb => .inr hb⟩, ?_⟩⟩
    ·rintro b (h | h)
     ·exact .inl (gd.f b (.inl h))
     ·exact .inl (gd.f b (.inr (.inr (.inr (hRF b h)))))
    ·rcases hw with ⟨h1, F1, h2, h3⟩ | ⟨hm, h1, F1, h2, h3⟩
     ·exact .inl ⟨by rw [recs_moves]; exact h1, F1, P.fr h2 hf1 (fun _ _ h => h), h3⟩
     ·refine .inr ⟨hm, ?_, F1, P.fr h2 hf1 (fun _ _ h => h), h3⟩
      rw [map_snoc_bytes, recs_moves]
      exact h1
end
end Go.Proofs.YteebjgfalllbjaaGreatDoor
