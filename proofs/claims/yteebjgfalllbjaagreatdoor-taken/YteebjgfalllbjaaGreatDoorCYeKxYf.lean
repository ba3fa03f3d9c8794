import Derived.Test.YteebjgfalllbjaaGreatDoorCKhYdKt
import Derived.Test.YteebjgfalllbjaaGreatDoorCKcKeKr
import Derived.ChangeSlices
import Derived.ChangeShapes
namespace Go.Proofs.YteebjgfalllbjaaGreatDoor
open Go.RowKit
/-- A saga of which each tick does one step: behind t of them. -/
def stA (id : Int) (st : List SS) (t : Nat) : AS := if t < st.length then ⟨id, st, (1, (t : Int) + 1), 0, 0⟩ else ⟨id, st, (3, 0), 0, 0⟩
theorem stA_id (id : Int) (st : List SS) (t : Nat) : (stA id st t).id = id ∧ (stA id st t).st = st := by unfold stA; split <;> exact ⟨rfl, rfl⟩
theorem stA_zero {id : Int} {st : List SS} (h : 1 ≤ st.length) : stA id st 0 = newA id st := by
  unfold stA
  rw [if_pos (by omega)]; rfl
theorem tickOne_nil {Pp b0 : Nat} (id : Int) (st : List SS) (t : Nat) (ck pause : Int) (hck : 0 ≤ ck) (s : PSt) : (tickOne (ptn (ask_nil_ok (Pp := Pp) (b0 := b0))) ck pause (stA id st t) s).1 = stA id st (t + 1) := by
  have hr : ((ptn (ask_nil_ok (Pp := Pp) (b0 := b0))).ask s (stA id st t).asks).1 = 0 := by
    show askR (kOf [] s.at') _ _ = 0
    have : kOf [] s.at' = 0 := if_pos rfl
    rw [this]
    unfold askR
    split <;> simp
  unfold tickOne
  by_cases h : t < st.length
  · have e : stA id st t = ⟨id, st, (1, (t : Int) + 1), 0, 0⟩ := by unfold stA; rw [if_pos h]
    have ho : (stA id st t).open ∧ (stA id st t).due ≤ ck := by rw [e]; exact ⟨.inl rfl, hck⟩
    rw [if_pos ho, hr]
    show AS.after _ 0 ck pause = _
    have hm : (stA id st t).moves ((0 : Nat) : Int) = true := by simp [AS.moves]
    unfold AS.after
    rw [if_pos hm, e]
    unfold AS.go AS.next
    by_cases h2 : t + 1 < st.length
    · have e2 : stA id st (t + 1) = ⟨id, st, (1, ((t + 1 : Nat) : Int) + 1), 0, 0⟩ := by unfold stA; rw [if_pos h2]
      rw [e2]
      have hne : ¬ ((t : Int) + 1 = (st.length : Int)) := by omega
      simp [hne]
    · have e2 : stA id st (t + 1) = ⟨id, st, (3, 0), 0, 0⟩ := by unfold stA; rw [if_neg h2]
      rw [e2]
      have heq : ((t : Int) + 1 = (st.length : Int)) := by omega
      simp [heq]
  · have e : stA id st t = ⟨id, st, (3, 0), 0, 0⟩ := by unfold stA; rw [if_neg h]
    have e2 : stA id st (t + 1) = ⟨id, st, (3, 0), 0, 0⟩ := by unfold stA; rw [if_neg (by omega)]
    have ho : ¬ ((stA id st t).open ∧ (stA id st t).due ≤ ck) := by
      rw [e]
      rintro ⟨h | h, _⟩
      · exact absurd h (by show ¬ (3 : Int) = 1; decide)
      · exact absurd h (by show ¬ (3 : Int) = 2; decide)
    rw [if_neg ho, e, e2]
theorem tickL_nil {Pp b0 : Nat} (i1 i2 : Int) (s1 s2 : List SS) (t : Nat) (ck pause : Int) (hck : 0 ≤ ck) (s : PSt) : (tickL (ptn (ask_nil_ok (Pp := Pp) (b0 := b0))) ck pause [stA i1 s1 t, stA i2 s2 t] s).1 = [stA i1 s1 (t + 1), stA i2 s2 (t + 1)] := by
  show [(tickOne (ptn (ask_nil_ok (Pp := Pp) (b0 := b0))) ck pause (stA i1 s1 t) s).1, (tickOne (ptn (ask_nil_ok (Pp := Pp) (b0 := b0))) ck pause (stA i2 s2 t) (tickOne (ptn (ask_nil_ok (Pp := Pp) (b0 := b0))) ck pause (stA i1 s1 t) s).2.1).1] = _
  rw [tickOne_nil i1 s1 t ck pause hck s]
  exact congrArg (fun x => [stA i1 s1 (t + 1), x]) (tickOne_nil i2 s2 t ck pause hck _)
/-- Taken: behind t ticks of the second engine. -/
structure TakI (w : World) (Pp b0 X A B n1 n2 t : Nat) (ps : PSt) (wr : World) : Prop where
  e : ∃ rs s C F, EG wr (10 + 2 * t) X A B 120 t 2 (askV Pp) [stA 1 (kst 1 n1) t, stA 2 (kst 2 n2) t] rs s C F ∧ s.d.good ∧ needC rs ≤ 50 ∧ ∀ b, F b ∨ C b → w.heap.size ≤ b
  p : ∃ F0, PrtI Pp b0 [] ps F0 wr ∧ ∀ b, F0 b → w.heap.size ≤ b
  ab : w.heap.size ≤ A ∧ w.heap.size ≤ B
  f : Fr (fun _ => False) w wr
  eff : ∀ a ∈ [stA 1 (kst 1 n1) t, stA 2 (kst 2 n2) t], ∃ nv, EffI a (mine a.id ps.eff) nv
  sz : (ptn (ask_nil_ok (Pp := Pp) (b0 := b0))).sz ps ≤ 2 * t
theorem TakI.tick {w : World} {Pp b0 X A B n1 n2 t : Nat} {ps : PSt} {wr : World} (h : TakI w Pp b0 X A B n1 n2 t ps wr) (ht : t < 100) (hG : GOk w) :
    Calls Tryz.prog 23 #[.pointer (some ⟨X, 0, none⟩)] wr fun e w' => e = .returned .nilIface ∧ ∃ ps', TakI w Pp b0 X A B n1 n2 (t + 1) ps' w' := by
  obtain ⟨⟨rs, s, C, F, hE, hg, hnd, hFC⟩, ⟨F0, hP, hF0⟩, hab, hf, heff, hsz⟩ := h
  have hGl : 0 < w.heap.size := World.block_lt_of_cell? w _ hG
  refine (hE.tick (ptn (ask_nil_ok (Pp := Pp) (b0 := b0))) (s0 := ps) (F0 := F0) (by omega) (fun i hi => itH_small (by omega)) (hG.fr hf (fun h => h)) (fun h => by have := hFC _ (.inl h); omega) (fun h => by have := hF0 _ h; omega) (by decide) (by decide) (by omega) hP (by show _ + 2 ≤ 20000000; omega)).mono ?_
  rintro e w' ⟨v, s', C', F', rfl, hC', hF', hM, hfr, ⟨rfl, hU, hE', hJZ, F1, hP1, hF1⟩ | hT⟩
  · have hck : (0 : Int) ≤ (t : Int) + 1 := by omega
    rw [tickL_nil 1 2 (kst 1 n1) (kst 2 n2) t ((t : Int) + 1) 2 hck ps] at hE'
    have hso : [stA 1 (kst 1 n1) t, stA 2 (kst 2 n2) t].Pairwise (fun a b => a.id < b.id) := by
      rw [List.pairwise_cons]
      exact ⟨fun b hb => by obtain rfl := List.mem_singleton.1 hb; rw [(stA_id 1 _ t).1, (stA_id 2 _ t).1]; decide, List.pairwise_singleton _ _⟩
    have hef : ∀ b ∈ (tickL (ptn (ask_nil_ok (Pp := Pp) (b0 := b0))) ((t : Int) + 1) 2 [stA 1 (kst 1 n1) t, stA 2 (kst 2 n2) t] ps).1, ∃ nv, EffI b (mine b.id (PSt.eff (tickL (ptn (ask_nil_ok (Pp := Pp) (b0 := b0))) ((t : Int) + 1) 2 [stA 1 (kst 1 n1) t, stA 2 (kst 2 n2) t] ps).2.1)) nv := (tickL_eff (r := []) (Z := 0) (H := (show AskOk Pp b0 (rlOf [] 0) from ask_nil_ok)) (ck := (t : Int) + 1) (pause := 2) _ ps hso heff).1
    rw [tickL_nil 1 2 (kst 1 n1) (kst 2 n2) t ((t : Int) + 1) 2 hck ps] at hef
    have hs2 := tickL_sz (ptn (ask_nil_ok (Pp := Pp) (b0 := b0))) ((t : Int) + 1) 2 [stA 1 (kst 1 n1) t, stA 2 (kst 2 n2) t] ps
    have hwr := hf.size
    refine ⟨rfl, _, ⟨⟨rs ++ (tickL (ptn (ask_nil_ok (Pp := Pp) (b0 := b0))) ((t : Int) + 1) 2 [stA 1 (kst 1 n1) t, stA 2 (kst 2 n2) t] ps).2.2.map mvR, s', C', F', ?_, hM.good hg, Nat.le_trans (Nat.le_of_eq (needC_moves _ _)) hnd, fun b hb => ?_⟩, ⟨F1, hP1, fun b hb => ?_⟩, hab, hf.trans hfr (fun b hb h => ?_), hef, by have : [stA 1 (kst 1 n1) t, stA 2 (kst 2 n2) t].length = 2 := rfl; omega⟩⟩
    · have e : 10 + 2 * (t + 1) = 10 + 2 * t + 2 := by omega
      rw [e]; push_cast; exact hE'
    · rcases hb with hb | hb
      · rcases hF' b hb with h | h
        · exact hFC b (.inl h)
        · omega
      · rcases hC' b hb with h | h
        · exact hFC b (.inr h)
        · omega
    · rcases hF1 b hb with h | h
      · exact hF0 b h
      · omega
    · rcases h with h | h | h | h | h
      · omega
      · omega
      · have := hFC b (.inr h); omega
      · have := hFC b (.inl h); omega
      · have := hF0 b h; omega
  · exact absurd hg hT.2.1
end Go.Proofs.YteebjgfalllbjaaGreatDoor
namespace Go.Proofs.YteebjgfalllbjaaGreatDoor
open Go.ChangeShapes Go.WideShapes Go.RowKit
theorem cells_intK : Tryz.prog.cellsOf 3 = 1 := by kernel_rfl
set_option maxRecDepth 100000 in
/-- A list of numbers that came in. -/
theorem open_list {H : Type} {enc : TypeId × Value → H} {W : World} {base : Nat} {v : Value} {d : DataW H} {ps : List MemPlace} (hv : Value.okWide Tryz.prog W .any base 24 v) (h : DataW.Trod enc Tryz.prog W 0 (fun _ => true) true 24 v d ps) :
    ∃ (la : Option Addr) (cap : Nat) (zs : List Int), v = .slice la zs.length cap ∧ IntsAt W la zs ∧ ∀ z ∈ zs, I64 z := by
  obtain ⟨a0, len0, cap0, rfl⟩ := okWide_slice Tryz.underlying24 hv
  obtain ⟨fuel, h⟩ := h
  rcases open_ints Tryz.underlying24 Tryz.underlying3 cells_intK h with ⟨h1, _⟩ | ⟨a, len, cap, zs, h1, hb, hl, hm, hzl, _, hc, hw⟩
  · simp [Value.cells] at h1
    obtain ⟨rfl, rfl, rfl⟩ := h1
    exact ⟨none, 0, [], rfl, fun i z hz => by simp at hz, fun z hz => by cases hz⟩
  · simp [Value.cells] at h1
    obtain ⟨rfl, rfl, rfl⟩ := h1
    have hzl' : zs.length = cap0 := by simpa using hzl
    have hlen : (zs.take len0).length = len0 := by rw [List.length_take]; omega
    refine ⟨some a, cap0, zs.take len0, by rw [hlen], fun i z hz => ?_, fun z hz => i64_wf (hw z (List.mem_of_mem_take hz))⟩
    have hi := (List.getElem?_eq_some_iff.1 hz).1
    rw [hlen] at hi
    have hz' : zs[i]? = some z := by rw [List.getElem?_take, if_pos hi] at hz; exact hz
    have hcell := hc i (by omega)
    have h0 := hc 0 (by omega)
    have hsp : a.spot = none := by
      have := World.cell?_spot h0
      simpa [Addr.add] using this
    obtain ⟨ab, ao, asp⟩ := a
    simp only at hsp
    subst hsp
    refine ⟨ab, ao, rfl, ?_⟩
    have e : zs.getD i 0 = z := by rw [List.getD_eq_getElem?_getD, hz']; rfl
    rw [e] at hcell
    rcases Nat.eq_zero_or_pos i with rfl | hi0
    · simpa [Addr.add] using hcell
    · simpa [Addr.add, show ¬ i = 0 by omega] using hcell
end Go.Proofs.YteebjgfalllbjaaGreatDoor
namespace Go.Proofs.YteebjgfalllbjaaGreatDoor
open Go.RowKit
/-- Behind the second Submit of Taken. -/
def TkS (W : World) (A B n1 n2 : Nat) (v : Value) (w : World) : Prop :=
  ∃ k s C rs, k < 100 ∧ DG w k A B 120 s C ∧ (∀ b, C b → W.heap.size ≤ b) ∧ (rs = [Rec.take 1 (kst 1 n1)] ∨ rs = [Rec.take 1 (kst 1 n1), Rec.take 2 (kst 2 n2)]) ∧ JD 120 s (rs.map Rec.bytes) ∧ (rs = [Rec.take 1 (kst 1 n1)] → JZ 120 s (rs.map Rec.bytes)) ∧
    ((v = .nilIface ∧ rs = [Rec.take 1 (kst 1 n1), Rec.take 2 (kst 2 n2)] ∧ JZ 120 s (rs.map Rec.bytes)) ∨ ∃ f, v = .iface 117 (.pointer (some ⟨f, 0, none⟩)))
/-- .. and behind the failure of power. -/
def TkC (W : World) (A B n1 n2 : Nat) (v : Value) (w : World) : Prop :=
  ∃ s rs, DG w 1 A B 120 s (fun _ => False) ∧ s.d.good ∧ (rs = [Rec.take 1 (kst 1 n1)] ∨ rs = [Rec.take 1 (kst 1 n1), Rec.take 2 (kst 2 n2)]) ∧ JZ 120 s (rs.map Rec.bytes) ∧ W.heap.size ≤ A ∧ W.heap.size ≤ B ∧
    ((v = .nilIface ∧ rs = [Rec.take 1 (kst 1 n1), Rec.take 2 (kst 2 n2)]) ∨ ∃ f, v = .iface 117 (.pointer (some ⟨f, 0, none⟩)))
theorem TkS.cut {W w : World} {A B n1 n2 : Nat} {v : Value} (h : TkS W A B n1 n2 v w) (hW : W.heap.size ≤ w.heap.size) {la : Option Addr} {zs : List Int} {kc : Nat} (hz : IntsAt w la zs) (hz1 : zs.length < 1000) :
    Calls Tryz.prog 32 #[.pointer (some ⟨A, 0, none⟩), .slice la zs.length kc] w fun e w' => ∃ A' B', e = .returned (.pointer (some ⟨A', 0, none⟩)) ∧ TkC W A' B' n1 n2 v w' ∧ w.heap.size ≤ A' ∧ w.heap.size ≤ B' ∧ Fr (fun _ => False) w w' := by
  obtain ⟨k, s, C, rs, hk, hD, hC, hrs, hj, hjz, hv⟩ := h
  refine (hD.cut hj (by rw [List.length_map]; rcases hrs with rfl | rfl <;> simp) (by decide) hz hz1).mono ?_
  rintro e w' ⟨A', B', s', recs', rfl, hD', hg, _, hJ, hr, hA, hB, hf, _⟩
  refine ⟨A', B', rfl, ?_, hA, hB, hf⟩
  rcases hr with rfl | ⟨hn, r, hr⟩
  · exact ⟨s', rs, hD', hg, hrs, hJ, by omega, by omega, hv.imp (fun h => ⟨h.1, h.2.1⟩) id⟩
  · rcases hrs with h1 | h1
    · exact absurd (hjz h1) hn
    · rcases hv with ⟨_, _, h2⟩ | hv
      · exact absurd h2 hn
      · refine ⟨s', [Rec.take 1 (kst 1 n1)], hD', hg, .inl rfl, ?_, by omega, by omega, .inr hv⟩
        rw [h1] at hr
        have e : recs' = [Rec.take 1 (kst 1 n1)].map Rec.bytes := by
          have h3 : ([Rec.take 1 (kst 1 n1)].map Rec.bytes) ++ [(Rec.take 2 (kst 2 n2)).bytes] = recs' ++ [r] := hr
          exact ((List.append_inj' h3 rfl).1).symm
        rw [e] at hJ
        exact hJ
section
variable {w : World} {k X A B n1 n2 : Nat} {cv : Value} {s : DS} {C F : Nat → Prop}
/-- The first Submit of Taken. -/
theorem EG.first (h : EG w k X A B 120 0 2 cv [] [] s C F) (hg : s.d.good) (hk : k < 50000) (hG : GOk w) (h1 : 1 ≤ n1) (h6 : n1 ≤ 6) {g cap : Nat} (hrows : RowsOf w (some ⟨g, 0, none⟩) 2 ((kst 1 n1).map stv)) :
    Calls Tryz.prog 21 #[.pointer (some ⟨X, 0, none⟩), .int .i64 1, .slice (some ⟨g, 0, none⟩) n1 cap] w fun e w' => e = .returned .nilIface ∧ ∃ s' C' F', EG w' (k + 1) X A B 120 0 2 cv [newA 1 (kst 1 n1)] [Rec.take 1 (kst 1 n1)] s' C' F' ∧ JZ 120 s' ([Rec.take 1 (kst 1 n1)].map Rec.bytes) ∧ FU w' F' ∧ (∀ b, C' b → C b ∨ w.heap.size ≤ b) ∧ (∀ b, F' b → F b ∨ w.heap.size ≤ b) ∧ Fr (fun b => b = A ∨ b = B ∨ C b ∨ F b) w w' := by
  have hok := kst_ok (id := 1) h1 h6 (k := 1) (by decide) (by decide)
  have HS := h.sub (by omega) (fun _ => itH_small (by show 0 + 1 < 100; omega)) hG 1 (kst 1 n1) cap hrows (fun _ => ⟨g, rfl⟩)
  rw [kst_len] at HS
  refine HS.mono ?_
  rintro e w' ⟨v, s', C', F', rfl, hC', hF', hM, hf, ⟨kk, L', rs', hv, hS, hU, hE, hJ⟩ | hF⟩
  · obtain ⟨rfl, rfl, rfl⟩ : kk = 0 ∧ L' = [newA 1 (kst 1 n1)] ∧ rs' = [Rec.take 1 (kst 1 n1)] := by
      rcases hS with ⟨h, _⟩ | ⟨_, a, ha, _⟩ | ⟨_, _, ⟨h1, h2, h3⟩ | ⟨_, h, _⟩⟩
      · rw [hok] at h; cases h
      · cases ha
      · exact ⟨h1, h2, h3⟩
      · rw [kst_len] at h; simp at h; omega
    obtain rfl := err0 hv
    exact ⟨rfl, s', C', F', hE, (hJ (by simp)).jz, hU, hC', hF', hf⟩
  · exact absurd hg hF.2.1
/-- The second one, whatever fails. -/
theorem EG.second {W : World} (h : EG w k X A B 120 0 2 cv [newA 1 (kst 1 n1)] [Rec.take 1 (kst 1 n1)] s C F) (hJZ : JZ 120 s ([Rec.take 1 (kst 1 n1)].map Rec.bytes)) (hk : k < 90) (hG : GOk w) (h6' : n1 ≤ 6) (h1 : 1 ≤ n2) (h6 : n2 ≤ 6) (hC : ∀ b, C b → W.heap.size ≤ b) (hW : W.heap.size ≤ w.heap.size) {g cap : Nat} (hrows : RowsOf w (some ⟨g, 0, none⟩) 2 ((kst 2 n2).map stv)) :
    Calls Tryz.prog 21 #[.pointer (some ⟨X, 0, none⟩), .int .i64 2, .slice (some ⟨g, 0, none⟩) n2 cap] w fun e w' => ∃ v, e = .returned v ∧ TkS W A B n1 n2 v w' ∧ Fr (fun b => b = A ∨ b = B ∨ C b ∨ F b) w w' := by
  have hok := kst_ok (id := 2) h1 h6 (k := 2) (by decide) (by decide)
  have HS := h.sub (by omega) (fun _ => itH_small (by show 1 + 1 < 100; omega)) hG 2 (kst 2 n2) cap hrows (fun _ => ⟨g, rfl⟩)
  rw [kst_len] at HS
  refine HS.mono ?_
  rintro e w' ⟨v, s', C', F', rfl, hC', hF', hM, hf, ⟨kk, L', rs', hv, hS, hU, hE, hJ⟩ | ⟨⟨f, t, g', rfl, _⟩, _, _, _, _, hj, hD, _⟩⟩
  · obtain ⟨rfl, rfl⟩ : kk = 0 ∧ rs' = [Rec.take 1 (kst 1 n1), Rec.take 2 (kst 2 n2)] := by
      rcases hS with ⟨h, _⟩ | ⟨_, a, ha, hid, _⟩ | ⟨_, _, ⟨h1, h2, h3⟩ | ⟨_, h, _⟩⟩
      · rw [hok] at h; cases h
      · obtain rfl := List.mem_singleton.1 ha
        exact absurd hid (by show ¬ (1 : Int) = 2; decide)
      · exact ⟨h1, h3⟩
      · have e : ((newA 1 (kst 1 n1)).st.length) = n1 := kst_len _ _
        simp [kst_len, e] at h; omega
    obtain rfl := err0 hv
    have hS' := hJ (by simp)
    exact ⟨_, rfl, ⟨k + 1, s', C', _, by omega, hE.disk, fun b hb => (hC' b hb).elim (hC b) (fun h => by omega), .inr rfl, hS'.jd, fun _ => hS'.jz, .inl ⟨rfl, rfl, hS'.jz⟩⟩, hf⟩
  · refine ⟨_, rfl, ?_, hf⟩
    rcases hj with ⟨h2, h3⟩ | h2
    · exact ⟨k + 1, s', C', [Rec.take 1 (kst 1 n1)], by omega, hD, fun b hb => (hC' b hb).elim (hC b) (fun h => by omega), .inl rfl, h2, fun _ => h3 hJZ, .inr ⟨f, rfl⟩⟩
    · exact ⟨k + 1, s', C', [Rec.take 1 (kst 1 n1), Rec.take 2 (kst 2 n2)], by omega, hD, fun b hb => (hC' b hb).elim (hC b) (fun h => by omega), .inr rfl, h2, (fun h => by simp at h), .inr ⟨f, rfl⟩⟩
end
end Go.Proofs.YteebjgfalllbjaaGreatDoor
