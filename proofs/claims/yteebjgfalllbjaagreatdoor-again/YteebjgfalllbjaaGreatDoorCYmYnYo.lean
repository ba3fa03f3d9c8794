import Derived.Test.YteebjgfalllbjaaGreatDoorCYkKxYg
import Derived.BigRegion
import Derived.Test.YteebjgfalllbjaaGreatDoorCAs2
namespace Go.Proofs.YteebjgfalllbjaaGreatDoor
open Go.RowKit
section
variable {w : World} {k X A B n : Nat} {clock pause : Int} {cv : Value} {L : List AS} {rs : List Rec} {s : DS} {C F : Nat → Prop}
/-- Submit of a new saga, where nothing fails and there is room. -/
theorem EG.new (h : EG w k X A B n clock pause cv L rs s C F) (hg : s.d.good) (hk : k < 50000) (hl : rs.length + 1 < 100) (hG : GOk w) (id : Int) (st : List SS) (hok : sagaOk id st = true) (hno : ∀ a ∈ L, a.id ≠ id) (hroom : 1 + (L.map fun a => 2 * a.st.length).sum + 2 * st.length ≤ n) {g cap : Nat} (hrows : RowsOf w (some ⟨g, 0, none⟩) 2 (st.map stv)) :
    Calls Tryz.prog 21 #[.pointer (some ⟨X, 0, none⟩), .int .i64 id, .slice (some ⟨g, 0, none⟩) st.length cap] w fun e w' => e = .returned .nilIface ∧ ∃ s' C' F', EG w' (k + 1) X A B n clock pause cv (insA (newA id st) L) (rs ++ [Rec.take id.toNat st]) s' C' F' ∧ s'.d.good ∧ JSet n s' ((rs ++ [Rec.take id.toNat st]).map Rec.bytes) ∧ FU w' F' ∧ (∀ b, C' b → C b ∨ w.heap.size ≤ b) ∧ (∀ b, F' b → F b ∨ w.heap.size ≤ b) ∧ Fr (fun b => b = A ∨ b = B ∨ C b ∨ F b) w w' := by
  refine (h.sub (by omega) (fun _ => itH_small hl) hG id st cap hrows (fun _ => ⟨g, rfl⟩)).mono ?_
  rintro e w' ⟨v, s', C', F', rfl, hC', hF', hM, hf, ⟨kk, L', rs', hv, hS, hU, hE, hJ⟩ | hF⟩
  · obtain ⟨rfl, rfl, rfl⟩ : kk = 0 ∧ L' = insA (newA id st) L ∧ rs' = rs ++ [Rec.take id.toNat st] := by
      rcases hS with ⟨h, _⟩ | ⟨_, a, ha, hid, _⟩ | ⟨_, _, ⟨h1, h2, h3⟩ | ⟨_, h, _⟩⟩
      · rw [hok] at h; cases h
      · exact absurd hid (hno a ha)
      · exact ⟨h1, h2, h3⟩
      · omega
    obtain rfl := err0 hv
    exact ⟨rfl, s', C', F', hE, hM.good hg, hJ.1 (by simp), hU, hC', hF', hf⟩
  · exact absurd hg hF.2.1
end
end Go.Proofs.YteebjgfalllbjaaGreatDoor
namespace Go.Proofs.YteebjgfalllbjaaGreatDoor
open Go.RowKit
theorem recL_moves (l : List (Nat × Nat)) : ∀ rs : List Rec, (recL (rs ++ l.map mvR)).length = (recL rs).length := by
  induction l with
  | nil => intro rs; simp
  | cons m l ih =>
    intro rs
    have e : rs ++ (m :: l).map mvR = (rs ++ [mvR m]) ++ l.map mvR := by simp
    rw [e, ih, recL_snoc]
    show (mvA (recL rs) m.1 m.2).length = _
    unfold mvA
    rw [List.length_map]
/-- A disk whose journal holds two sagas, whatever of its last record is there. -/
def AgS (W : World) (A B : Nat) (w : World) : Prop :=
  ∃ k s C rs, k < 100 ∧ DG w k A B 120 s C ∧ (∀ b, C b → W.heap.size ≤ b) ∧ RecsOk rs ∧ needC rs ≤ 24 ∧ (recL rs).length = 2 ∧ JD 120 s (rs.map Rec.bytes) ∧
    (JZ 120 s (rs.map Rec.bytes) ∨ ∃ rs0 r, rs = rs0 ++ [r] ∧ RecsOk rs0 ∧ needC rs0 ≤ 24 ∧ (recL rs0).length = 2)
/-- .. and behind a failure of power. -/
def AgC (W : World) (A B : Nat) (s : DS) (rs : List Rec) (w : World) : Prop :=
  DG w 1 A B 120 s (fun _ => False) ∧ s.d.good ∧ s.ents = [] ∧ s.d.writes = 0 ∧ RecsOk rs ∧ needC rs ≤ 24 ∧ (recL rs).length = 2 ∧ JZ 120 s (rs.map Rec.bytes) ∧ W.heap.size ≤ A ∧ W.heap.size ≤ B
theorem AgS.cut {W w : World} {A B : Nat} (h : AgS W A B w) (hW : W.heap.size ≤ w.heap.size) {la : Option Addr} {zs : List Int} {kc : Nat} (hz : IntsAt w la zs) (hz1 : zs.length < 1000) :
    Calls Tryz.prog 32 #[.pointer (some ⟨A, 0, none⟩), .slice la zs.length kc] w fun e w' => ∃ A' B' s' rs', e = .returned (.pointer (some ⟨A', 0, none⟩)) ∧ AgC W A' B' s' rs' w' ∧ w.heap.size ≤ A' ∧ w.heap.size ≤ B' ∧ Fr (fun _ => False) w w' := by
  obtain ⟨k, s, C, rs, hk, hD, hC, hok, hnd, h2, hj, hz'⟩ := h
  have hlf := (recG hok).lf
  refine (hD.cut hj (by rw [List.length_map]; omega) (by decide) hz hz1).mono ?_
  rintro e w' ⟨A', B', s', recs', rfl, hD', hg, he, hJ, hr, hA, hB, hf, hw⟩
  rcases hr with rfl | ⟨hn, r, hr⟩
  · exact ⟨A', B', s', rs, rfl, ⟨hD', hg, he, hw, hok, hnd, h2, hJ, by omega, by omega⟩, hA, hB, hf⟩
  · rcases hz' with h3 | ⟨rs0, r0, rfl, q1, q2, q3⟩
    · exact absurd h3 hn
    · rw [map_snoc_bytes] at hr
      have e : recs' = rs0.map Rec.bytes := ((List.append_inj' hr rfl).1).symm
      subst e
      exact ⟨A', B', s', rs0, rfl, ⟨hD', hg, he, hw, q1, q2, q3, hJ, by omega, by omega⟩, hA, hB, hf⟩
section
variable {w : World} {k X A B : Nat} {cv : Value} {L : List AS} {rs : List Rec} {s : DS} {C F : Nat → Prop}
/-- Again's second Tick, whatever fails. -/
theorem EG.tickS {W : World} {clock pause : Int} (P : Ptn cv) {s0 : P.σ} {F0 : Nat → Prop} (h : EG w k X A B 120 clock pause cv L rs s C F) (hJ : JZ 120 s (rs.map Rec.bytes)) (h2 : (recL rs).length = 2) (hnd : needC rs ≤ 24) (hk : k < 90) (hG : GOk w) (hFG : ¬ F 0) (hF0 : ¬ F0 0) (hp1 : 1 ≤ pause) (hp2 : pause ≤ 64) (hc1 : clock < 1000000) (hPA : P.PA s0 F0 w) (hsz : P.sz s0 + L.length ≤ 20000000) (hC : ∀ b, C b → W.heap.size ≤ b) (hW : W.heap.size ≤ w.heap.size) :
    Calls Tryz.prog 23 #[.pointer (some ⟨X, 0, none⟩)] w fun e w' => (∃ v, e = .returned v) ∧ AgS W A B w' ∧ (∃ s1 F1, P.PA s1 F1 w' ∧ ∀ b, F1 b → F0 b ∨ w.heap.size ≤ b) ∧ Fr (fun b => b = A ∨ b = B ∨ C b ∨ F b ∨ F0 b) w w' := by
  refine (h.tick P (by omega) (fun i hi => itH_small (by omega)) hG hFG hF0 hp1 hp2 hc1 hPA hsz).mono ?_
  rintro e w' ⟨v, s', C', F', rfl, hC', hF', hM, hfr, ⟨rfl, hU, hE', hJZ, _, F1, hP1, hF1⟩ | ⟨_, _, hD, i, a, hLi, hao, ⟨hp, _⟩, hw⟩⟩
  · refine ⟨⟨_, rfl⟩, ⟨k + 2, s', C', _, by omega, hE'.disk, fun b hb => (hC' b hb).elim (hC b) (fun h => by omega), hE'.1.ok, by rw [needC_moves]; exact hnd, by rw [recL_moves]; exact h2, (hJZ hJ).jd, .inl (hJZ hJ)⟩, ⟨_, F1, hP1, hF1⟩, hfr⟩
  · have hC2 : ∀ b, C' b → W.heap.size ≤ b := fun b hb => (hC' b hb).elim (hC b) (fun h => by omega)
    rcases hw with ⟨⟨q1, q2, _⟩, F1, hP1, hF1⟩ | ⟨hm, q1 | q1, F1, hP1, hF1⟩
    · exact ⟨⟨_, rfl⟩, ⟨k + 2, s', C', _, by omega, hD, hC2, hp.ok, by rw [needC_moves]; exact hnd, by rw [recL_moves]; exact h2, q1, .inl (q2 hJ)⟩, ⟨_, F1, hP1, hF1⟩, hfr⟩
    · exact ⟨⟨_, rfl⟩, ⟨k + 2, s', C', _, by omega, hD, hC2, hp.ok, by rw [needC_moves]; exact hnd, by rw [recL_moves]; exact h2, q1.jd, .inl q1⟩, ⟨_, F1, hP1, hF1⟩, hfr⟩
    · have haL : a ∈ (tickL P (clock + 1) pause (L.take i) s0).1 ++ L.drop i := by
        refine List.mem_append.2 (.inr ?_)
        have hlt := (List.getElem?_eq_some_iff.1 hLi).1
        rw [List.drop_eq_getElem_cons hlt, (List.getElem?_eq_some_iff.1 hLi).2]
        exact List.mem_cons_self ..
      have hz : a.zero ∈ recL (rs ++ (tickL P (clock + 1) pause (L.take i) s0).2.2.map mvR) := by rw [← hp.zL]; exact List.mem_map.2 ⟨a, haL, rfl⟩
      have hid := saga_of _ _ (hp.mem haL).2
      have hcast : ((a.id.toNat : Nat) : Int) = a.id := by omega
      have hokm : RecsOk (rs ++ (tickL P (clock + 1) pause (L.take i) s0).2.2.map mvR ++ [mvR (a.id.toNat, (P.ask (tickL P (clock + 1) pause (L.take i) s0).2.1 a.asks).1)]) := recsOk_snoc.2 ⟨hp.ok, P.le _ _, by show a.id.toNat ≤ 1000; omega, a.zero, hz, hcast.symm, hao.1, hm⟩
      have e1 := needC_moves (rs ++ (tickL P (clock + 1) pause (L.take i) s0).2.2.map mvR) [(a.id.toNat, (P.ask (tickL P (clock + 1) pause (L.take i) s0).2.1 a.asks).1)]
      have e2 := recL_moves [(a.id.toNat, (P.ask (tickL P (clock + 1) pause (L.take i) s0).2.1 a.asks).1)] (rs ++ (tickL P (clock + 1) pause (L.take i) s0).2.2.map mvR)
      have e1' := e1.trans (needC_moves rs _)
      have e2' := e2.trans (recL_moves _ rs)
      exact ⟨⟨_, rfl⟩, ⟨k + 2, s', C', _, by omega, hD, hC2, hokm, Nat.le_trans (Nat.le_of_eq e1') hnd, e2'.trans h2, q1, .inr ⟨_, _, rfl, hp.ok, by rw [needC_moves]; exact hnd, by rw [recL_moves]; exact h2⟩⟩, ⟨_, F1, hP1, hF1⟩, hfr⟩
end
end Go.Proofs.YteebjgfalllbjaaGreatDoor
namespace Go.Proofs.YteebjgfalllbjaaGreatDoor
open Go.RowKit
theorem own_ints {W : World} {b0 : Nat} {ao : Option Addr} {n cap : Nat} {zs : List Int} (h : W.ownsRow b0 3 1 (.slice ao n cap) n (intC zs)) : IntsAt W ao zs := by
  intro i z hz
  have hi := (List.getElem?_eq_some_iff.1 hz).1
  have hlen := h.1
  have hl : (intC zs).length = zs.length := by simp [intC]
  rcases h.2 with ⟨hv, hn⟩ | ⟨g, cap', cur, hv, _, hg, _, _, _, hx⟩
  · rw [hl, hn] at hlen; omega
  · cases hv
    refine ⟨g, 0, rfl, ?_⟩
    refine (cell_of_row W g _ _ _ _ hg).trans ?_
    have h1 : (intC zs)[i]? = some (.int .i64 z) := by simp [intC, hz]
    rw [← hx, List.getElem?_take] at h1
    split at h1
    · rw [Nat.zero_add]; simpa using h1
    · cases h1
theorem IntsAt.frz {w w' : World} {la : Option Addr} {zs : List Int} (h : IntsAt w la zs) (hf : Fr (fun _ => False) w w') : IntsAt w' la zs := fun i z hz => by
  obtain ⟨g, off, h1, h2⟩ := h i z hz
  exact ⟨g, off, h1, hf.cell h2 (fun h => h)⟩
section
variable {w w' : World} {k X A B n : Nat} {clock pause : Int} {cv : Value} {L : List AS} {rs : List Rec} {s : DS} {C F : Nat → Prop}
/-- A block of a partner is no disk. -/
theorem DG.np (h : DG w k A B n s C) {b : Nat} {c : Array Value} {t : TypeId} (hc : w.heap[b]? = some (.cells c t (0, 0))) (ht : PT t) : b ≠ A := by
  obtain ⟨_, base, cache, hd, _⟩ := h
  rintro rfl
  have := hc.symm.trans hd.d
  simp at this
  rw [this.2] at ht
  unfold PT at ht
  revert ht; decide
theorem DG.writes (h : DG w k A B n s C) : Calls Tryz.prog 36 #[.pointer (some ⟨A, 0, none⟩)] w fun e w' => e = .returned (.int .i64 s.d.writes) ∧ w' = w := by
  obtain ⟨_, base, cache, hd, _⟩ := h
  exact Writes_gen hd.d
theorem DG.pend (h : DG w k A B n s C) : Calls Tryz.prog 34 #[.pointer (some ⟨A, 0, none⟩)] w fun e w' => e = .returned (.int .i64 (s.ents.length : Nat)) ∧ w' = w := by
  obtain ⟨_, base, cache, hd, _⟩ := h
  rcases hd.q.o.2 with ⟨rfl, h0⟩ | ⟨g, cap, cur, rfl, _⟩
  · have := Pending_gen hd.d
    rw [h0]
    exact this
  · exact Pending_gen hd.d
theorem DG.bytes (h : DG w k A B n s C) (hn1 : 1 ≤ n) (hn : n ≤ 400) (hu : U8s s.bs) : Calls Tryz.prog 28 #[.pointer (some ⟨A, 0, none⟩)] w fun e w' => e = .returned (.string (bytesT (s.bs.take (n * 128)))) ∧ Fr (fun _ => False) w w' := by
  obtain ⟨_, base, cache, hd, _⟩ := h
  exact Bytes_gen w hd.d hd.c hd.r hn1 hn hu
theorem JZ.u8 {recs : List (List Value)} (h : JZ n s recs) : U8s s.bs := by
  obtain ⟨tl, h, _⟩ := h
  exact h.one
/-- All, when its disk has been read since. -/
theorem EG.allL (h : EG w k X A B n clock pause cv L rs s C F) (hf : Fr (fun b => b = A) w w') (most : Int) : Calls Tryz.prog 35 #[.pointer (some ⟨X, 0, none⟩), .int .i64 most] w' fun e w2 => AllQ ((L.take most.toNat).map AS.told) w' e w2 := by
  obtain ⟨hp, hb, hj, J, R, V, base, dbase, room, ev, cache, es, sb, hs, g, hc⟩ := h
  have hlen : es.length = L.length := by rw [← g.m, List.length_map]
  have hl := hp.len
  have nX : X ≠ A := fun e => by have := g.eng; rw [e] at this; have := this.symm.trans g.jn.d.d; simp at this
  have := pAll_ok (hf.keep g.eng nX) (g.roll.fr hf (fun b hb e => (g.dis b hb).1 (.inl (.inl e)))) (by omega) (fun p hp' => (hp.mem (mem_of_map g.m hp')).1.l6) most
  have e : (sts es).take most.toNat = (L.take most.toNat).map AS.told := by
    rw [← g.m, List.map_take, List.map_map]; rfl
  rwa [e] at this
/-- A Tick, where nothing fails. -/
theorem EG.tickG (P : Ptn cv) {s0 : P.σ} {F0 : Nat → Prop} (h : EG w k X A B 120 clock pause cv L rs s C F) (hg : s.d.good) (hJ : JZ 120 s (rs.map Rec.bytes)) (h2 : (recL rs).length = 2) (hnd : needC rs ≤ 24) (hk : k < 90) (hG : GOk w) (hFG : ¬ F 0) (hF0 : ¬ F0 0) (hp1 : 1 ≤ pause) (hp2 : pause ≤ 64) (hc1 : clock < 1000000) (hPA : P.PA s0 F0 w) (hsz : P.sz s0 + L.length ≤ 20000000) :
    Calls Tryz.prog 23 #[.pointer (some ⟨X, 0, none⟩)] w fun e w' => e = .returned .nilIface ∧ ∃ L' rs' s' C' F' s1 F1, EG w' (k + 2) X A B 120 (clock + 1) pause cv L' rs' s' C' F' ∧ s'.d.good ∧ JZ 120 s' (rs'.map Rec.bytes) ∧ (recL rs').length = 2 ∧ needC rs' ≤ 24 ∧ L'.length = L.length ∧ P.PA s1 F1 w' ∧ P.sz s1 ≤ P.sz s0 + L.length ∧ (∀ b, C' b → C b ∨ w.heap.size ≤ b) ∧ (∀ b, F' b → F b ∨ w.heap.size ≤ b) ∧ (∀ b, F1 b → F0 b ∨ w.heap.size ≤ b) ∧ Fr (fun b => b = A ∨ b = B ∨ C b ∨ F b ∨ F0 b) w w' := by
  refine (h.tick P (by omega) (fun i hi => itH_small (by omega)) hG hFG hF0 hp1 hp2 hc1 hPA hsz).mono ?_
  rintro e w' ⟨v, s', C', F', rfl, hC', hF', hM, hfr, ⟨rfl, hU, hE', hJZ, _, F1, hP1, hF1⟩ | hT⟩
  · exact ⟨rfl, _, _, s', C', F', _, F1, hE', hM.good hg, hJZ hJ, by rw [recL_moves]; exact h2, by rw [needC_moves]; exact hnd, tickL_len _ _ _ _ _, hP1, tickL_sz _ _ _ _ _, hC', hF', hF1, hfr⟩
  · exact absurd hg hT.2.1
theorem AgS.frz {W : World} (h : AgS W A B w) (hf : Fr (fun _ => False) w w') : AgS W A B w' := by
  obtain ⟨k, s, C, rs, h1, h2, h3⟩ := h
  exact ⟨k, s, C, rs, h1, h2.fr hf (fun h => h) (fun h => h) (fun _ _ h => h), h3⟩
/-- A partner's list of calls is a list. -/
theorem PrtI.log {Pp b0 : Nat} {rl : List Int} {p : PSt} (h : PrtI Pp b0 rl p F w) : Pp < w.heap.size ∧ ∃ ao ll cp, w.cell? ⟨Pp, 0, none⟩ = some (.slice ao ll cp) := by
  obtain ⟨_, lg, ef, l, hp, _⟩ := h
  refine ⟨lt_of_heap hp.p, ?_⟩
  have hc : w.cell? ⟨Pp, 0, none⟩ = some lg := (cell_of_row w Pp 0 _ _ _ hp.p).trans rfl
  rcases hp.lo.2 with ⟨rfl, _⟩ | ⟨g, cap, cur, rfl, _⟩
  · exact ⟨_, _, _, hc⟩
  · exact ⟨_, _, _, hc⟩
end
end Go.Proofs.YteebjgfalllbjaaGreatDoor
