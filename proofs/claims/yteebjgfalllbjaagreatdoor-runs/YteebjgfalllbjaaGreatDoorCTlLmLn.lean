import Derived.Test.YteebjgfalllbjaaGreatDoorCLlAsAsW
namespace Go.Proofs.YteebjgfalllbjaaGreatDoor
open Go.RowKit

/-- An error of the program: nil (0), or a fault that wraps a number. -/
def ErrAt (w : World) (v : Value) (k : Int) : Prop := (v = .nilIface ∧ k = 0) ∨ (∃ g s, v = .iface 117 (.pointer (some ⟨g, 0, none⟩)) ∧ w.heap[g]? = some (.cells #[.string s, .iface 59 (.int .i64 k)] 119 (0, 0)) ∧ k ≠ 0)
theorem ErrAt.one {w : World} {v : Value} {k : Int} (h : ErrAt w v k) : v.oneCell' = true := by
  rcases h with ⟨rfl, _⟩ | ⟨g, s, rfl, _⟩ <;> rfl
theorem ErrAt.fr {S : Nat → Prop} {w w' : World} {v : Value} {k : Int} (h : ErrAt w v k) (hf : Fr S w w') (hS : ∀ b c, w.heap[b]? = some (.cells c 119 (0, 0)) → ¬ S b) : ErrAt w' v k := by
  rcases h with h | ⟨g, s, e, hg, hk⟩
  · exact .inl h
  · exact .inr ⟨g, s, e, hf.keep hg (hS g _ hg), hk⟩
theorem num_ok (k : Int) (w : World) : Calls Tryz.prog 80 #[.int .i64 k] w fun e w' => e = .returned (.int .i64 k) ∧ w' = w := by
  go_enter Tryz.func80, Tryz.ntmps80
  go_wp2
  go_ret
  exact ⟨rfl, rfl⟩
def GOk (w : World) : Prop := w.cell? ⟨0, 0, none⟩ = some (.iface 198 (.agg #[.pointer (some ⟨4, 36, none⟩)]))
theorem Told_any {w : World} {v : Value} {k : Int} (h : ErrAt w v k) (hG : GOk w) : Calls Tryz.prog 29 #[v] w fun e w' => e = .returned (.int .i64 k) ∧ Fr (fun _ => False) w w' := by
  rcases h with ⟨rfl, rfl⟩ | ⟨g, s, rfl, hg, hk⟩
  · refine (Told_nil w).mono ?_
    rintro e w' ⟨rfl, rfl⟩
    exact ⟨rfl, Fr.refl _ _⟩
  · exact Told_err g k w hG (by rw [cell_of_row w g 1 _ _ _ hg]; rfl)
theorem GOk.fr {S : Nat → Prop} {w w' : World} (h : GOk w) (hf : Fr S w w') (hn : ¬ S 0) : GOk w' := hf.cell h hn
end Go.Proofs.YteebjgfalllbjaaGreatDoor
namespace Go.Proofs.YteebjgfalllbjaaGreatDoor
open Go.RowKit

def zST : ST := ⟨0, 0, 0, 0, 0, 0⟩
/-- What Status answers, of a list of sagas. -/
def StatQ (L : List RS) (id : Int) (w : World) (e : Ending) (w' : World) : Prop := ∃ s v, e = .returned (.tuple #[.agg s.cs.toArray, v]) ∧ Fr (fun _ => False) w w' ∧ ((∃ r ∈ L, r.id = id ∧ s = r.st' ∧ ErrAt w' v 0) ∨ ((∀ r ∈ L, r.id ≠ id) ∧ s = zST ∧ ErrAt w' v 9))
theorem eq_zero_status (w : World) : (binOp .eql 42 (.agg #[.int .i64 0, .int .i64 0, .int .i64 0, .int .i64 0, .int .i64 0, .int .i64 0]) (.agg #[.int .i64 0, .int .i64 0, .int .i64 0, .int .i64 0, .int .i64 0, .int .i64 0])).run Tryz.prog w = .ok (.bool true) w := by kernel_rfl
theorem sorted_find {L : List RS} (hs : L.Pairwise (fun a b => a.id < b.id)) {id : Int} {k : Nat} {t : Bool} (h : FindP L id k t) : (t = true → ∃ r, L[k]? = some r ∧ r.id = id) ∧ (t = false → ∀ r ∈ L, r.id ≠ id) := by
  refine ⟨h.2.2.2.1, fun ht r hr e => ?_⟩
  obtain ⟨j, hj, rfl⟩ := List.mem_iff_getElem.1 hr
  by_cases hjk : j < k
  · have := h.2.1 j _ hjk (List.getElem?_eq_getElem hj); omega
  · have hk : k < L.length := by omega
    have h3 := h.2.2.1 _ (List.getElem?_eq_getElem hk)
    have : L[k].id = id := by
      by_cases e2 : k = j
      · subst e2; exact e
      · have := (List.pairwise_iff_getElem.1 hs) k j hk hj (by omega); omega
    have := h.2.2.2.2 ⟨L[k], List.getElem?_eq_getElem hk, this⟩
    rw [ht] at this; cases this
theorem sorted_one {L : List RS} (hs : L.Pairwise (fun a b => a.id < b.id)) {i j : Nat} {a b : RS} (ha : L[i]? = some a) (hb : L[j]? = some b) (e : a.id = b.id) : a = b := by
  obtain ⟨hi, rfl⟩ := List.getElem?_eq_some_iff.1 ha
  obtain ⟨hj, rfl⟩ := List.getElem?_eq_some_iff.1 hb
  have hp := List.pairwise_iff_getElem.1 hs
  rcases Nat.lt_trichotomy i j with h | h | h
  · have := hp i j hi hj h; omega
  · subst h; rfl
  · have := hp j i hj hi h; omega

set_option maxRecDepth 100000 in
set_option maxHeartbeats 4000000 in
theorem ltold_ok {w : World} {D A Pp n : Nat} {nn : Bool} {x : Value} {pause clock : Int} {ao : Option Addr} {cap : Nat} {L : List RS} (h : LawAt w D A Pp n nn x pause clock (.slice ao L.length cap)) (hl : RowsOf w ao 7 (L.map RS.cs)) (hn : L.length ≤ 1000000) (hs : L.Pairwise (fun a b => a.id < b.id)) (hG : GOk w) (id : Int)
    (hE : Calls Tryz.prog 24 #[x, .int .i64 id] w fun e w' => StatQ L id w e w') :
    Calls Tryz.prog 86 #[.pointer (some ⟨D, 0, none⟩), .int .i64 id] w fun e w' => e = .returned (.bool true) ∧ Fr (fun _ => False) w w' := by
  have c5 := h.c5
  have HL : Hid (RowsOf w ao 7 (L.map RS.cs)) := hl
  have HD : Hid (LawAt w D A Pp n nn x pause clock (.slice ao L.length cap)) := h
  have HS : Hid (L.Pairwise (fun a b => a.id < b.id)) := hs
  clear h hl hs
  go_enter Tryz.func86, Tryz.ntmps86
  go_wp2_with fail
  refine hE.mono ?_
  rintro e w1 ⟨s, v, rfl, hf1, hcase⟩
  have hd1 := HD.out.fr hf1 (fun h => h)
  have hG1 := hG.fr hf1 (fun h => h)
  rcases hcase with ⟨r, hr, hid, rfl, hv⟩ | ⟨hno, rfl, hv⟩
  · obtain rfl : v = .nilIface := by
      rcases hv with ⟨h, _⟩ | ⟨_, _, _, _, h⟩
      · exact h
      · exact absurd rfl h
    clear hE c5
    obtain ⟨k, t, hp0⟩ := findP_ex L id
    clear k t hp0
    have HR : Hid (r ∈ L ∧ r.id = id) := ⟨hr, hid⟩
    obtain ⟨W, HW⟩ : ∃ W, Hid (W = w1.alloc (.cells #[.int .i64 r.id, .int .i64 r.S.1, .int .i64 r.S.2, .int .i64 r.st.length, .int .i64 r.tries, .int .i64 r.due] 42)) := ⟨_, rfl⟩
    obtain ⟨B, HB⟩ : ∃ B, Hid (B = w1.heap.size) := ⟨_, rfl⟩
    have hFW : Fr (fun _ => False) w W := by rw [HW.out]; exact hf1.alloc _
    have hBW : W.rangeAt B 0 r.st'.cs := by rw [HW.out, HB.out]; intro j v hv; rw [cell_of_row _ w1.heap.size _ _ _ _ (heap_alloc_at w1 _), Nat.zero_add]; simpa [ST.cs, RS.st'] using hv
    unfold ST.cs RS.st'
    clear hid hr hv hd1 hG1 hf1
    go_wp2_with fail
    rw [← HW.out, ← HB.out]
    refine (Told_nil W).mono ?_
    rintro e w' ⟨rfl, rfl⟩
    go_wp2_with fail
    refine (num_ok 0 _).mono ?_
    rintro e w2 ⟨rfl, rfl⟩
    have hdW := HD.out.fr hFW (fun h => h)
    have d6 := hdW.c6
    have d7 := hdW.c7
    have d8 := hdW.c8
    have d9 := hdW.c9
    go_wp2_with fail
    refine (rFind_ok (HL.out.frz hFW) hn pause clock false id).mono ?_
    rintro e w3 ⟨k, t, rfl, hp, hf3⟩
    have hF3 := hFW.trans hf3 (fun _ _ h => h)
    have hpt := sorted_find HS.out hp
    have ht : t = true := by
      cases t
      · exact absurd HR.out.2 (hpt.2 rfl r HR.out.1)
      · rfl
    subst ht
    obtain ⟨r', hr', hid'⟩ := hpt.1 rfl
    obtain ⟨j, hj⟩ := List.mem_iff_getElem?.1 HR.out.1
    obtain rfl : r' = r := sorted_one HS.out hr' hj (by rw [hid', HR.out.2])
    have hkl : k < L.length := (List.getElem?_eq_some_iff.1 hr').1
    have hkl' : (k : Int) < L.length := by omega
    obtain ⟨g, off, rfl, hrg⟩ := HL.out k r'.cs (by simp [hr'])
    obtain ⟨s0, s1, s2, s3, s4, s5, s6⟩ := seven_of (range_fr hrg hF3)
    have hB3 := range_fr hBW hf3
    have u0 : w3.cell? ⟨B, 0, none⟩ = some (.int .i64 r'.id) := hB3 0 _ rfl
    have u1 : w3.cell? ⟨B, 1, none⟩ = some (.int .i64 r'.S.1) := hB3 1 _ rfl
    have u2 : w3.cell? ⟨B, 2, none⟩ = some (.int .i64 r'.S.2) := hB3 2 _ rfl
    have u3 : w3.cell? ⟨B, 3, none⟩ = some (.int .i64 r'.st.length) := hB3 3 _ rfl
    have u4 : w3.cell? ⟨B, 4, none⟩ = some (.int .i64 r'.tries) := hB3 4 _ rfl
    have u5 : w3.cell? ⟨B, 5, none⟩ = some (.int .i64 r'.due) := hB3 5 _ rfl
    have hd3 := HD.out.fr hF3 (fun h => h)
    have HD3 : Hid (LawAt w3.drew D A Pp n nn x pause clock (.slice (some ⟨g, off, none⟩) L.length cap) ∧ Fr (fun _ => False) w w3.drew ∧ Fr (fun _ => False) w w3) := ⟨hd3, hF3.drew, hF3⟩
    have e9 := hd3.c9
    have HX : Hid (LawAt w3 D A Pp n nn x pause clock (.slice (some ⟨g, off, none⟩) L.length cap)) := hd3
    clear hB3 hrg hd3 hF3 hf3 hdW hFW d6 d7 d8 d9 hBW hpt hp hj hr' hid' HW HB
    go_wp2_with fail
    refine wp_region_still_tail 10 (by kernel_rfl) (by kernel_rfl) (Bx.out ?_)
    simp only [List.take_succ_cons, List.take_zero, List.drop_succ_cons, List.drop_zero]
    repeat (refine bx_step (fun K hK => ?_); go_simp; refine hK _ ?_; clear hK K)
    refine bx_nil ?_
    go_wp2_with fail
    refine (lstatus_ok HD3.out.1 r').mono ?_
    rintro e w4 ⟨rfl, hf4⟩
    have HF4 : Hid (Fr (fun _ => False) w w4) := HD3.out.2.1.trans hf4 (fun _ _ h => h)
    clear hf4 s0 s1 s2 s3 s4 s5 s6 u0 u1 u2 u3 u4 u5 e9
    go_wp2
    go_ret
    exact ⟨rfl, HF4.out⟩
  · clear hE c5
    have HNO : Hid (∀ r ∈ L, r.id ≠ id) := hno
    obtain ⟨W, HW⟩ : ∃ W, Hid (W = w1.alloc (.cells #[.int .i64 0, .int .i64 0, .int .i64 0, .int .i64 0, .int .i64 0, .int .i64 0] 42)) := ⟨_, rfl⟩
    obtain ⟨B, HB⟩ : ∃ B, Hid (B = w1.heap.size) := ⟨_, rfl⟩
    have hF1W : Fr (fun _ => False) w1 W := by rw [HW.out]; exact (Fr.refl _ _).alloc _
    have hFW : Fr (fun _ => False) w W := hf1.trans hF1W (fun _ _ h => h)
    have hBW : W.rangeAt B 0 zST.cs := by rw [HW.out, HB.out]; intro j v hv; rw [cell_of_row _ w1.heap.size _ _ _ _ (heap_alloc_at w1 _), Nat.zero_add]; simpa [ST.cs, zST] using hv
    have hv1 := hv.one
    have hvW := hv.fr hF1W (fun _ _ _ h => h)
    have hGW := hG1.fr hF1W (fun h => h)
    unfold ST.cs zST
    clear hno hv hd1 hG1 hf1 hF1W
    go_wp2_with fail
    rw [← HW.out, ← HB.out]
    refine (Told_any hvW hGW).mono ?_
    rintro e w2 ⟨rfl, hf2⟩
    go_wp2_with fail
    refine (num_ok 9 _).mono ?_
    rintro e w2' ⟨rfl, rfl⟩
    have hF2 := hFW.trans hf2 (fun _ _ h => h)
    have hdW := HD.out.fr hF2 (fun h => h)
    have d6 := hdW.c6
    have d7 := hdW.c7
    have d8 := hdW.c8
    have d9 := hdW.c9
    go_wp2_with fail
    refine (rFind_ok (HL.out.frz hF2) hn pause clock false id).mono ?_
    rintro e w3 ⟨k, t, rfl, hp, hf3⟩
    have hF3 := hF2.trans hf3 (fun _ _ h => h)
    have hpt := sorted_find HS.out hp
    have ht : t = false := by
      cases t
      · rfl
      · obtain ⟨r, hr, hid⟩ := hpt.1 rfl
        exact absurd hid (HNO.out r (List.mem_of_getElem? hr))
    subst ht
    have hB3 := range_fr (range_fr hBW hf2) hf3
    have u0 : w3.cell? ⟨B, 0, none⟩ = some (.int .i64 0) := hB3 0 _ rfl
    have u1 : w3.cell? ⟨B, 1, none⟩ = some (.int .i64 0) := hB3 1 _ rfl
    have u2 : w3.cell? ⟨B, 2, none⟩ = some (.int .i64 0) := hB3 2 _ rfl
    have u3 : w3.cell? ⟨B, 3, none⟩ = some (.int .i64 0) := hB3 3 _ rfl
    have u4 : w3.cell? ⟨B, 4, none⟩ = some (.int .i64 0) := hB3 4 _ rfl
    have u5 : w3.cell? ⟨B, 5, none⟩ = some (.int .i64 0) := hB3 5 _ rfl
    have HF3 : Hid (Fr (fun _ => False) w w3) := hF3
    clear hB3 hF3 hf3 hf2 hF2 hdW hFW d6 d7 d8 d9 hBW hpt hp HW HB hvW hGW
    have heq := eq_zero_status
    go_wp2
    go_ret
    exact ⟨rfl, HF3.out⟩
end Go.Proofs.YteebjgfalllbjaaGreatDoor
namespace Go.Proofs.YteebjgfalllbjaaGreatDoor
open Go.RowKit

/-- As an engine that was just opened tells of a saga. -/
def RS.fresh (r : RS) : ST := ⟨r.id, r.S.1, r.S.2, r.st.length, 0, 0⟩
/-- A saga as it was found: that is sure. -/
def Found (r r' : RS) : Prop := r'.id = r.id ∧ r'.sa = r.sa ∧ r'.sc = r.sc ∧ r'.st = r.st ∧ r'.S = r.S ∧ r'.tries = 0 ∧ r'.due = 0 ∧ r'.may = [r.S] ∧ r'.mc = 1
def FoundL (L L' : List RS) : Prop := L'.length = L.length ∧ ∀ (i : Nat) (r r' : RS), L[i]? = some r → L'[i]? = some r' → Found r r'
theorem FoundL.snoc {L L' : List RS} {r r' : RS} (h : FoundL L L') (hr : Found r r') : FoundL (L ++ [r]) (L' ++ [r']) := by
  refine ⟨by simp [h.1], fun i a b ha hb => ?_⟩
  by_cases hi : i < L.length
  · rw [List.getElem?_append_left hi] at ha
    rw [List.getElem?_append_left (by rw [h.1]; exact hi)] at hb
    exact h.2 i a b ha hb
  · rw [List.getElem?_append_right (by omega)] at ha
    rw [List.getElem?_append_right (by rw [h.1]; omega), h.1] at hb
    by_cases h0 : i - L.length = 0
    · rw [h0] at ha hb; simp at ha hb; subst ha hb; exact hr
    · rw [List.getElem?_eq_none (by simp; omega)] at ha; cases ha
def MayAt (w : World) (r : RS) : Prop := ∃ g, r.ma = some ⟨g, 0, none⟩ ∧ w.heap[g]? = some (.cells #[.int .i64 r.S.1, .int .i64 r.S.2] 220 (0, 0))
/-- How far the list of what was found is. -/
def FoI (w1 : World) (L : List RS) (i : Nat) (lv : Value) (wr : World) : Prop := ∃ L', FoundL (L.take i) L' ∧ wr.ownsRow w1.heap.size 223 7 lv i (rcells L') ∧ (∀ r ∈ L', MayAt wr r) ∧ Fr (fun _ => False) w1 wr
theorem state_info : (Tryz.prog.info? 220).map (fun i => (i.zero, i.size, i.bytes)) = some (some (.agg #[.int .i64 0, .int .i64 0]), 2, 16) := by kernel_rfl
theorem six_of {w : World} {g o : Nat} {s : ST} (h : w.rangeAt g o s.cs) : w.cell? ⟨g, o, none⟩ = some (.int .i64 s.id) ∧ w.cell? ⟨g, o + 1, none⟩ = some (.int .i64 s.state) ∧ w.cell? ⟨g, o + 2, none⟩ = some (.int .i64 s.step) ∧ w.cell? ⟨g, o + 3, none⟩ = some (.int .i64 s.steps) ∧ w.cell? ⟨g, o + 4, none⟩ = some (.int .i64 s.tries) ∧ w.cell? ⟨g, o + 5, none⟩ = some (.int .i64 s.due) :=
  ⟨h 0 _ rfl, h 1 _ rfl, h 2 _ rfl, h 3 _ rfl, h 4 _ rfl, h 5 _ rfl⟩

/-- A saga's cells in a block of their own. -/
def Box7 (w : World) (B : Nat) (r : RS) : Prop := w.heap[B]? = some (.cells r.cs.toArray 223 (0, 0))
theorem Box7.c {w : World} {B : Nat} {r : RS} (h : Box7 w B r) : seven w B 0 r.id r.sa r.st.length r.sc r.S.1 r.S.2 r.tries r.due r.ma r.may.length r.mc :=
  seven_of (fun j v hv => by rw [cell_of_row w B _ _ _ _ h, Nat.zero_add]; simpa using hv)
theorem Box7.fz {w : World} {B : Nat} {r : RS} (h : Box7 w B r) (j : Nat) : w.frozen? ⟨B, j, none⟩ = false := frozen_of_row w B j _ _ h
theorem box_store {w : World} {B : Nat} {r : RS} (S : SP) (h : Box7 w B r) : (Instr.storeAt 220 (.pointer (some ⟨B, 2, none⟩)) (.agg #[.int .i64 S.1, .int .i64 S.2])).run Tryz.prog w = .ok () (w.setRow B ({ r with S := S } : RS).cs.toArray) ∧ Box7 (w.setRow B ({ r with S := S } : RS).cs.toArray) B { r with S := S } := by
  have := run_storeAt_row (P := Tryz.prog) (o := 2) (ty := 220) (vs := [.int .i64 S.1, .int .i64 S.2]) h (by simp [RS.cs]) (by simp [Value.oneCell']) (by kernel_rfl)
  exact ⟨this, setRow_heap _ _ _ _ _ _ h⟩
theorem MayAt.fr {S : Nat → Prop} {w w' : World} {r : RS} (h : MayAt w r) (hf : Fr S w w') (hS : ∀ b c, w.heap[b]? = some (.cells c 220 (0, 0)) → ¬ S b) : MayAt w' r := by
  obtain ⟨g, e, hg⟩ := h
  exact ⟨g, e, hf.keep hg (hS g _ hg)⟩
theorem fo_step {w1 W : World} {L L' : List RS} {i : Nat} {r r' : RS} {v : Value} (hL : FoundL (L.take i) L') (hown : W.ownsRow w1.heap.size 223 7 v i (rcells L')) (hm : ∀ q ∈ L', MayAt W q) (hf : Fr (fun _ => False) w1 W) (hr : L[i]? = some r) (hF : Found r r') (hM : MayAt W r')
    (w2 : World) (v2 : Value) (h2 : w2.ownsRow w1.heap.size 223 7 v2 (i + 1) (rcells L' ++ r'.cs)) (hg : W.grownBy w2 v.ownBlock) : FoI w1 L (i + 1) v2 w2 ∧ ∃ a2 c2, v2 = .slice a2 (i + 1) c2 := by
  obtain ⟨a2, c2, e2, _⟩ := own_shape h2
  have hfr : Fr (fun b => v.ownBlock = some b) W w2 := (Fr.refl _ _).grown hg (fun _ _ h => h)
  have hno : ∀ b c, W.heap[b]? = some (.cells c 220 (0, 0)) → ¬ v.ownBlock = some b := by
    intro b c hb e
    rcases hown.2 with ⟨rfl, _⟩ | ⟨g, cap, cur, rfl, _, hgg, _⟩
    · cases e
    · simp only [Value.ownBlock, Option.some.injEq] at e
      subst e
      rw [hgg] at hb; simp at hb
  refine ⟨⟨L' ++ [r'], ?_, ?_, ?_, ?_⟩, a2, c2, e2⟩
  · rw [List.take_add_one, hr]; exact hL.snoc hF
  · rw [rcells_append]; simpa [rcells] using h2
  · intro q hq
    rw [List.mem_append] at hq
    rcases hq with hq | hq
    · exact (hm q hq).fr hfr hno
    · simp at hq; subst hq; exact hM.fr hfr hno
  · exact hf.grown hg (fun k hk e => by have := (hown.lt k e).1; omega)
theorem FrD.set {w a : World} {D i : Nat} {v : Value} (h : Fr (· = D) w a) : Fr (· = D) w (a.setCell ⟨D, i, none⟩ v) := h.setCell _ (fun _ => rfl) _
def FoundQ (L : List RS) (D A Pp n : Nat) (xp : Option Addr) (pause : Int) (w : World) (e : Ending) (w' : World) : Prop := e = .returned (.bool true) ∧ ∃ Lv L', LawAt w' D A Pp n false (.pointer xp) pause 0 Lv ∧ FoundL L L' ∧ w'.ownsRow w.heap.size 223 7 Lv L.length (rcells L') ∧ (∀ r ∈ L', MayAt w' r) ∧ Fr (· = D) w w'
set_option maxRecDepth 100000 in
set_option maxHeartbeats 8000000 in
theorem found_ok {w : World} {D A B n Pp : Nat} {nn : Bool} {x0 : Value} {xp : Option Addr} {pause0 clock : Int} {calls writes : Int} {ao : Option Addr} {cap : Nat} {L : List RS} (h : LawAt w D A Pp n nn x0 pause0 clock (.slice ao L.length cap)) (hdk : DiskAt w A B n (.slice none 0 0) calls writes) (hl : SagasAt w ao L) (hn : L.length ≤ 1000000) (hS : ∀ r ∈ L, r.S.1 ≠ 0 ∧ r.S ∈ r.may ∧ r.may.length ≤ 1000000) (hDA : D ≠ A) (pause : Int)
    (hA : Calls Tryz.prog 35 #[.pointer xp, .int .i64 1048576] w fun e w' => AllQ (L.map RS.fresh) w e w') :
    Calls Tryz.prog 82 #[.pointer (some ⟨D, 0, none⟩), .pointer xp, .int .i64 pause] w fun e w' => FoundQ L D A Pp n xp pause w e w' := by
  have HL : Hid (SagasAt w ao L) := hl
  have HD : Hid (LawAt w D A Pp n nn x0 pause0 clock (.slice ao L.length cap)) := h
  have HSN : Hid (∀ r ∈ L, r.S.1 ≠ 0 ∧ r.S ∈ r.may ∧ r.may.length ≤ 1000000) := hS
  have HDK : Hid (DiskAt w A B n (.slice none 0 0) calls writes) := hdk
  clear h hl hS hdk
  go_enter Tryz.func82, Tryz.ntmps82
  go_wp2_with fail
  refine hA.mono ?_
  rintro e w1 ⟨bo, cb, rfl, hb, hf1⟩
  simp only [List.length_map]
  have HB : Hid (RowsOf w1 bo 6 ((L.map RS.fresh).map ST.cs)) := hb
  have HF1 : Hid (Fr (fun _ => False) w w1) := hf1
  have hd1 := HD.out.fr hf1 (fun h => h)
  have hk1 := HDK.out.fr hf1 (fun h => h)
  have c0 := hd1.c0
  have c4 := hd1.c4
  clear hA hb hf1 hd1
  by_cases hL0 : L.length = 0
  · have hnil : L = [] := List.eq_nil_of_length_eq_zero hL0
    subst hnil
    simp only [List.length_nil] at *
    go_wp2_with fail
    refine (Pending_ok hk1).mono ?_
    rintro e w1' ⟨rfl, rfl⟩
    clear hk1 c0 c4
    go_wp2
    go_loopw [9, 10, 11] (fun lv q c wr => lv = .slice none 0 0 ∧ q = .int .i64 0 ∧ c = .int .i64 0 ∧ Hid (wr = w1')) (fun _ _ _ _ => 0)
    case atStart => exact ⟨rfl, rfl, rfl, (rfl : w1' = w1')⟩
    case round =>
      obtain ⟨rfl, rfl, rfl, HR⟩ := hrel
      have hFr : Fr (fun _ => False) w wr := by rw [HR.out]; exact HF1.out
      have HI0 : Hid (FoI w1' [] 0 (.slice none 0 0) wr) := by rw [HR.out]; exact ⟨[], ⟨by simp, fun i r r' h => by simp at h⟩, World.ownsRow_nil _ _ _ _, (fun r hr => absurd hr (by simp)), Fr.refl _ _⟩
      have hd := HD.out.fr hFr (fun h => h)
      have c3 := hd.c3
      have c4 := hd.c4
      have c5 := hd.c5
      have c6 := hd.c6
      have c7 := hd.c7
      have c8 := hd.c8
      have c9 := hd.c9
      have fz : ∀ j, wr.frozen? ⟨D, j, none⟩ = false := hd.fz
      have HX : Hid (LawAt wr D A Pp n nn x0 pause0 clock (.slice ao 0 cap) ∧ Fr (fun _ => False) w wr) := ⟨hd, hFr⟩
      clear hd hFr
      go_wp2
      go_ret
      obtain ⟨L', h1, h2, h3, h4⟩ := HI0.out
      have e5 := HX.out.1.set5 (.pointer xp)
      have e6 := e5.set6 pause
      have e7 := e6.set7 0
      have e8 := e7.set8
      have e9 := e8.set9 (.slice none 0 0)
      have e3 := e9.set3 false
      have e4 := e3.set4
      have hfD : Fr (· = D) wr (((((((wr.setCell ⟨D, 5, none⟩ (.pointer xp)).setCell ⟨D, 6, none⟩ (.int .i64 pause)).setCell ⟨D, 7, none⟩ (.int .i64 0)).setCell ⟨D, 8, none⟩ (.bool false)).setCell ⟨D, 9, none⟩ (.slice none 0 0)).setCell ⟨D, 3, none⟩ (.bool false)).setCell ⟨D, 4, none⟩ (.bool false)) :=
        FrD.set (FrD.set (FrD.set (FrD.set (FrD.set (FrD.set (FrD.set (Fr.refl _ _)))))))
      have hDT : ∀ b c, wr.heap[b]? = some (.cells c 220 (0, 0)) → ¬ b = D := by
        intro b c hb e
        subst e
        have := HX.out.1.symm.trans hb
        simp at this
      refine ⟨rfl, _, L', e4, h1, own_base2 (own_fr2 h2 hfD ?_) HF1.out.size, fun q hq => (h3 q hq).fr hfD hDT, (HX.out.2.mono (fun _ _ h => h.elim)).trans hfD (fun _ _ h => h)⟩
      intro b hb e
      have := lt_of_heap HD.out
      have := HF1.out.size
      omega
  · have hL0' : ¬ (L.length : Int) = 0 := by omega
    go_wp2_with fail
    refine (Pending_ok hk1).mono ?_
    rintro e w1' ⟨rfl, rfl⟩
    have HI : Hid (FoI w1' L 0 (.slice none 0 0) w1') := ⟨[], ⟨by simp, fun i r r' h => by simp at h⟩, World.ownsRow_nil _ _ _ _, (fun r hr => absurd hr (by simp)), Fr.refl _ _⟩
    clear hk1 c0 c4
    go_wp2
    go_loopw [9, 10, 11] (fun lv q c wr => ∃ (i : Nat) (ax : Option Addr) (cx : Nat), i ≤ L.length ∧ lv = .slice ax i cx ∧ q = .int .i64 i ∧ c = .int .i64 i ∧ Hid (FoI w1' L i lv wr)) (fun _ _ c _ => L.length - (intOf c).toNat)
    case atStart => exact ⟨0, none, 0, Nat.zero_le _, rfl, rfl, rfl, HI⟩
    case round =>
      obtain ⟨i, ax, cx, hi, rfl, rfl, rfl, HR⟩ := hrel
      have hFr : Fr (fun _ => False) w wr := by obtain ⟨L', _, _, _, hf⟩ := HR.out; exact HF1.out.trans hf (fun _ _ h => h)
      have hd := HD.out.fr hFr (fun h => h)
      have c9 := hd.c9
      by_cases hlt : i < L.length
      · have hlt' : (i : Int) < L.length := by omega
        obtain ⟨r, hr⟩ : ∃ r, L[i]? = some r := ⟨_, List.getElem?_eq_getElem hlt⟩
        obtain ⟨g, off, rfl, hrg⟩ := HL.out.get hr
        obtain ⟨s0, s1, s2, s3, s4, s5, s6⟩ := seven_of (range_fr hrg hFr)
        clear hrg hd
        obtain ⟨hS0, hSm, hSl⟩ := HSN.out r (List.mem_of_getElem? hr)
        obtain ⟨g2, o2, rfl, hrg2⟩ := HB.out i r.fresh.cs (by rw [List.getElem?_map, List.getElem?_map, hr]; rfl)
        have HRG : Hid (wr.rangeAt g2 (o2 + i * 6) r.fresh.cs) := by obtain ⟨L', _, _, _, hf⟩ := HR.out; exact range_fr hrg2 hf
        have HMY : Hid (RowsOf w r.ma 2 (r.may.map spv)) := HL.out.m r (List.mem_of_getElem? hr)
        have HSS : Hid (r.S.1 ≠ 0 ∧ r.S ∈ r.may ∧ L[i]? = some r) := ⟨hS0, hSm, hr⟩
        clear hrg2 hSm
        go_wp2_with fail
        obtain ⟨W, HW⟩ : ∃ W, Hid (W = wr.alloc (.cells #[.int .i64 r.id, .slice r.sa r.st.length r.sc, .int .i64 0, .int .i64 0, .int .i64 r.tries, .int .i64 r.due, .slice r.ma r.may.length r.mc] 223)) := ⟨_, rfl⟩
        obtain ⟨B7, HB7⟩ : ∃ B7, Hid (B7 = wr.heap.size) := ⟨_, rfl⟩
        have hFW : Fr (fun _ => False) wr W := by rw [HW.out]; exact (Fr.refl _ _).alloc _
        have hBx : Box7 W B7 { r with S := (0, 0) } := by rw [HW.out, HB7.out]; exact heap_alloc_at wr _
        rw [← HW.out, ← HB7.out]
        have HB7' : Hid (wr.heap.size ≤ B7) := by show wr.heap.size ≤ B7; rw [HB7.out]; exact Nat.le_refl _
        clear HW HB7 s0 s1 s2 s3 s4 s5 s6 c9
        obtain ⟨q0, q1, q2, q3, q4, q5, q6⟩ := hBx.c
        obtain ⟨t0, t1, t2, t3, t4, t5⟩ := six_of (range_fr HRG.out hFW)
        simp only [RS.fresh] at t0 t1 t2 t3 t4 t5
        have HWW : Hid (Fr (fun _ => False) wr W ∧ Box7 W B7 { r with S := (0, 0) }) := ⟨hFW, hBx⟩
        clear hFW hBx
        refine wp_region_still_lit (by kernel_rfl) (by kernel_rfl) (Bx.out ?_)
        repeat (refine bx_step (fun K hK => ?_); go_simp; refine hK _ ?_; clear hK K)
        refine bx_nil ?_
        go_wp2_with fail
        clear q0 q1 q2 q3 q4 q5 q6 t0 t1 t2 t3 t4 t5
        obtain ⟨W2, HW2⟩ : ∃ W2, Hid (W2 = W.drew) := ⟨_, rfl⟩
        have HWW2 : Hid (Fr (fun _ => False) wr W2 ∧ Box7 W2 B7 { r with S := (0, 0) }) := by rw [HW2.out]; exact ⟨HWW.out.1.drew, HWW.out.2⟩
        rw [show W.drew = W2 from HW2.out.symm]
        clear HW2 HWW
        obtain ⟨q0, q1, q2, q3, q4, q5, q6⟩ := HWW2.out.2.c
        obtain ⟨t0, t1, t2, t3, t4, t5⟩ := six_of (range_fr HRG.out HWW2.out.1)
        simp only [RS.fresh] at t0 t1 t2 t3 t4 t5
        refine wp_region_still_lit (by kernel_rfl) (by kernel_rfl) (Bx.out ?_)
        repeat (refine bx_step (fun K hK => ?_); go_simp; refine hK _ ?_; clear hK K)
        refine bx_nil ?_
        go_wp2_with fail
        clear q0 q1 q2 q3 q4 q5 q6 t0 t1 t2 t3 t4 t5
        obtain ⟨W3, HW3⟩ : ∃ W3, Hid (W3 = W2.drew) := ⟨_, rfl⟩
        have HWW3 : Hid (Fr (fun _ => False) wr W3 ∧ Box7 W3 B7 { r with S := (0, 0) }) := by rw [HW3.out]; exact ⟨HWW2.out.1.drew, HWW2.out.2⟩
        rw [show W2.drew = W3 from HW3.out.symm]
        clear HW3 HWW2
        obtain ⟨t0, t1, t2, t3, t4, t5⟩ := six_of (range_fr HRG.out HWW3.out.1)
        simp only [RS.fresh] at t0 t1 t2 t3 t4 t5
        obtain ⟨hst, hbx4⟩ := box_store r.S (w := W3.drew) (r := { r with S := (0, 0) }) HWW3.out.2
        obtain ⟨W4, HW4⟩ : ∃ W4, Hid (W4 = W3.drew.setRow B7 ({ r with S := r.S } : RS).cs.toArray) := ⟨_, rfl⟩
        have HWW4 : Hid (Fr (fun _ => False) wr W4 ∧ Box7 W4 B7 r) := by rw [HW4.out]; exact ⟨HWW3.out.1.drew.setRow _ (fun h => by have := HB7'.out; omega) _, hbx4⟩
        rw [← HW4.out] at hst
        clear hbx4 HW4 HWW3
        refine wp_region_still_tail 12 (by kernel_rfl) (by kernel_rfl) (Bx.out ?_)
        simp only [List.take_succ_cons, List.take_zero, List.drop_succ_cons, List.drop_zero]
        repeat (refine bx_step (fun K hK => ?_); go_simp; refine hK _ ?_; clear hK K)
        refine bx_nil ?_
        refine wpList_store 220 (w' := W4) _ _ rfl rfl ?_ ?_
        exact hst
        clear t0 t1 t2 t3 t4 t5 hst
        obtain ⟨q0, q1, q2, q3, q4, q5, q6⟩ := HWW4.out.2.c
        go_wp2_with fail
        refine (Has_ok (HMY.out.frz (hFr.trans HWW4.out.1 (fun _ _ h => h))) hSl r.S).mono ?_
        rintro e w5 ⟨rfl, hf5⟩
        have hdec : decide (r.S ∈ r.may) = true := by simp [HSS.out.2.1]
        rw [hdec]
        have HWW5 : Hid (Fr (fun _ => False) wr w5 ∧ Box7 w5 B7 r) := ⟨HWW4.out.1.trans hf5 (fun _ _ h => h), hf5.keep HWW4.out.2 (fun h => h)⟩
        clear q0 q1 q2 q3 q4 q5 q6 hf5 hdec HWW4
        obtain ⟨q0, q1, q2, q3, q4, q5, q6⟩ := HWW5.out.2.c
        obtain ⟨W6, HW6⟩ : ∃ W6, Hid (W6 = w5.setCell ⟨B7, 4, none⟩ (.int .i64 0)) := ⟨_, rfl⟩
        have h6 : (Instr.storeAt 3 (.pointer (some ⟨B7, 4, none⟩)) (.int .i64 0)).run Tryz.prog w5 = .ok () W6 := by rw [HW6.out]; exact run_storeAt_one q4 (HWW5.out.2.fz 4) (by kernel_rfl) rfl
        have hb6 : Box7 W6 B7 { r with tries := 0 } := by rw [HW6.out]; exact heap_setCell_at w5 B7 4 _ _ _ HWW5.out.2
        have hf6 : Fr (fun _ => False) wr W6 := by rw [HW6.out]; exact HWW5.out.1.setCell _ (fun h => by have := HB7'.out; simp at h; omega) _
        obtain ⟨W7, HW7⟩ : ∃ W7, Hid (W7 = W6.setCell ⟨B7, 5, none⟩ (.int .i64 0)) := ⟨_, rfl⟩
        have h7 : (Instr.storeAt 3 (.pointer (some ⟨B7, 5, none⟩)) (.int .i64 0)).run Tryz.prog W6 = .ok () W7 := by rw [HW7.out]; exact run_storeAt_one hb6.c.2.2.2.2.2.1 (hb6.fz 5) (by kernel_rfl) rfl
        have hb7 : Box7 W7 B7 { r with tries := 0, due := 0 } := by rw [HW7.out]; exact heap_setCell_at W6 B7 5 _ _ _ hb6
        have hf7 : Fr (fun _ => False) wr W7 := by rw [HW7.out]; exact hf6.setCell _ (fun h => by have := HB7'.out; simp at h; omega) _
        obtain ⟨M, HM⟩ : ∃ M, Hid (M = W7.heap.size) := ⟨_, rfl⟩
        obtain ⟨W8, HW8⟩ : ∃ W8, Hid (W8 = W7.alloc (.cells #[.int .i64 r.S.1, .int .i64 r.S.2] 220)) := ⟨_, rfl⟩
        have hMB : B7 ≠ M := by have := lt_of_heap hb7; rw [HM.out]; omega
        have hb8 : Box7 W8 B7 { r with tries := 0, due := 0 } := by unfold Box7; rw [HW8.out, heap_alloc_lt _ _ _ (lt_of_heap hb7)]; exact hb7
        have hf8 : Fr (fun _ => False) wr W8 := by rw [HW8.out]; exact hf7.alloc _
        have hm8 : W8.heap[M]? = some (.cells #[.int .i64 r.S.1, .int .i64 r.S.2] 220 (0, 0)) := by rw [HW8.out, HM.out]; exact heap_alloc_at _ _
        obtain ⟨W9, HW9⟩ : ∃ W9, Hid (W9 = W8.setCell ⟨B7, 6, none⟩ (.slice (some ⟨M, 0, none⟩) 1 1)) := ⟨_, rfl⟩
        have h9 : (Instr.storeAt 221 (.pointer (some ⟨B7, 6, none⟩)) (.slice (some ⟨M, 0, none⟩) 1 1)).run Tryz.prog W8 = .ok () W9 := by rw [HW9.out]; exact run_storeAt_one hb8.c.2.2.2.2.2.2 (hb8.fz 6) (by kernel_rfl) rfl
        rw [HW8.out, HM.out] at h9
        obtain ⟨r', HR'⟩ : ∃ r' : RS, Hid (r' = { r with tries := 0, due := 0, ma := some ⟨M, 0, none⟩, mc := 1, may := [r.S] }) := ⟨_, rfl⟩
        have hb9 : Box7 W9 B7 r' := by rw [HW9.out, HR'.out]; exact heap_setCell_at W8 B7 6 _ _ _ hb8
        have hf9 : Fr (fun _ => False) wr W9 := by rw [HW9.out]; exact hf8.setCell _ (fun h => by have := HB7'.out; simp at h; omega) _
        have hm9 : W9.heap[M]? = some (.cells #[.int .i64 r.S.1, .int .i64 r.S.2] 220 (0, 0)) := by rw [HW9.out, heap_setCell_ne _ _ _ _ hMB.symm]; exact hm8
        have HFO : Hid (Found r r' ∧ MayAt W9 r' ∧ Fr (fun _ => False) wr W9 ∧ Box7 W9 B7 r') := ⟨by rw [HR'.out]; exact ⟨rfl, rfl, rfl, rfl, rfl, rfl, rfl, rfl, rfl⟩, by rw [HR'.out]; exact ⟨M, rfl, hm9⟩, hf9, hb9⟩
        have q2' := hb7.c.2.2.1
        have q3' := hb7.c.2.2.2.1
        obtain ⟨p0, p1, p2, p3, p4, p5, p6⟩ := hb9.c
        clear hb6 hf6 hb7 hf7 hb8 hf8 hb9 hf9 hm8 hm9 HW6 HW7 HW8 HW9 HM
        obtain ⟨L', hFL, hown, hmay, hfL⟩ := HR.out
        obtain ⟨inf, hi0, hz0, hz1, hz2⟩ := info_parts saga_info
        have hS' : ¬ r'.S.1 = 0 := by rw [HFO.out.1.2.2.2.2.1]; exact HSS.out.1
        have HAP : Hid ((W9.alloc (.cells #[.int .i64 r'.id, .slice r'.sa r'.st.length r'.sc, .int .i64 r'.S.1, .int .i64 r'.S.2, .int .i64 r'.tries, .int .i64 r'.due, .slice r'.ma r'.may.length r'.mc] 223)).ownsRow w1'.heap.size 223 7 (.slice ax i cx) i (rcells L') ∧ w1'.heap.size ≤ (W9.alloc (.cells #[.int .i64 r'.id, .slice r'.sa r'.st.length r'.sc, .int .i64 r'.S.1, .int .i64 r'.S.2, .int .i64 r'.tries, .int .i64 r'.due, .slice r'.ma r'.may.length r'.mc] 223)).heap.size ∧ (∀ j u, r'.cs[j]? = some u → (W9.alloc (.cells #[.int .i64 r'.id, .slice r'.sa r'.st.length r'.sc, .int .i64 r'.S.1, .int .i64 r'.S.2, .int .i64 r'.tries, .int .i64 r'.due, .slice r'.ma r'.may.length r'.mc] 223)).cell? ((⟨W9.heap.size, 0, none⟩ : Addr).add j) = some u) ∧
          (∀ w2 v2, w2.ownsRow w1'.heap.size 223 7 v2 (i + 1) (rcells L' ++ r'.cs) → (W9.alloc (.cells #[.int .i64 r'.id, .slice r'.sa r'.st.length r'.sc, .int .i64 r'.S.1, .int .i64 r'.S.2, .int .i64 r'.tries, .int .i64 r'.due, .slice r'.ma r'.may.length r'.mc] 223)).grownBy w2 (Value.slice ax i cx).ownBlock → FoI w1' L (i + 1) v2 w2 ∧ ∃ a2 c2, v2 = .slice a2 (i + 1) c2)) := by
          have hf9a : Fr (fun _ => False) wr (W9.alloc (.cells #[.int .i64 r'.id, .slice r'.sa r'.st.length r'.sc, .int .i64 r'.S.1, .int .i64 r'.S.2, .int .i64 r'.tries, .int .i64 r'.due, .slice r'.ma r'.may.length r'.mc] 223)) := HFO.out.2.2.1.alloc _
          have ho := own_fr2 hown hf9a (fun _ _ h => h)
          have hfa := hfL.trans hf9a (fun _ _ h => h)
          exact ⟨ho, hfa.size, World.news_of_block (cs := r'.cs.toArray) (heap_alloc_at W9 _), fun w2 v2 h2 hg => fo_step hFL ho (fun q hq => (hmay q hq).fr hf9a (fun _ _ _ h => h)) hfa HSS.out.2.2 HFO.out.1 (HFO.out.2.1.fr ((Fr.refl (fun _ => False) _).alloc _) (fun _ _ _ h => h)) w2 v2 h2 hg⟩
        clear hFL hown hmay hfL
        go_wp2_with (first
          | (refine wpList_store 3 (w' := W6) _ _ rfl rfl ?_ ?_; exact h6)
          | (refine wpList_store 3 (w' := W7) _ _ rfl rfl ?_ ?_; exact h7)
          | (refine wpList_store 221 (w' := W9) _ _ rfl rfl ?_ ?_; exact h9)
          | (at_builtin; refine wpList_append_own (W9.alloc (.cells #[.int .i64 r'.id, .slice r'.sa r'.st.length r'.sc, .int .i64 r'.S.1, .int .i64 r'.S.2, .int .i64 r'.tries, .int .i64 r'.due, .slice r'.ma r'.may.length r'.mc] 223)) rfl _ _ 107 rfl w1'.heap.size 223 inf _ 7 88 Tryz.underlying107 hi0 hz0 hz1 hz2 rfl (by decide) (.slice ax i cx) i (rcells L') rfl HAP.out.1 ⟨W9.heap.size, 0, none⟩ 1 1 r'.cs rfl ?_ HAP.out.2.2.1 r'.one ?_ ?_ HAP.out.2.1 ?_; (rw [r'.len]); (unfold maxLen; omega); omega; intro v2 w2 hown2 hgrow2 _; obtain ⟨hPI, a2, cx2, rfl⟩ := HAP.out.2.2.2 w2 v2 hown2 hgrow2; have HP2 : Hid (FoI w1' L (i + 1) (.slice a2 (i + 1) cx2) w2) := hPI; clear hown2 hgrow2 hPI p0 p1 p2 p3 p4 p5 p6))
        go_roundw
        case rel => exact ⟨i + 1, a2, cx2, by omega, rfl, by go_num, by go_num, HP2⟩
        case measure => simp [intOf]; omega
      · have hlt' : ¬ (i : Int) < L.length := by omega
        obtain rfl : i = L.length := by omega
        have hd := HD.out.fr hFr (fun h => h)
        clear c9
        have c3 := hd.c3
        have c4 := hd.c4
        have c5 := hd.c5
        have c6 := hd.c6
        have c7 := hd.c7
        have c8 := hd.c8
        have c9 := hd.c9
        have fz : ∀ j, wr.frozen? ⟨D, j, none⟩ = false := hd.fz
        have HX : Hid (LawAt wr D A Pp n nn x0 pause0 clock (.slice ao L.length cap) ∧ Fr (fun _ => False) w wr) := ⟨hd, hFr⟩
        clear hd hFr
        go_wp2
        go_ret
        obtain ⟨L', h1, h2, h3, h4⟩ := HR.out
        have e5 := HX.out.1.set5 (.pointer xp)
        have e6 := e5.set6 pause
        have e7 := e6.set7 0
        have e8 := e7.set8
        have e9 := e8.set9 (.slice ax L.length cx)
        have e3 := e9.set3 false
        have e4 := e3.set4
        rw [List.take_length] at h1
        have hfD : Fr (· = D) wr (((((((wr.setCell ⟨D, 5, none⟩ (.pointer xp)).setCell ⟨D, 6, none⟩ (.int .i64 pause)).setCell ⟨D, 7, none⟩ (.int .i64 0)).setCell ⟨D, 8, none⟩ (.bool false)).setCell ⟨D, 9, none⟩ (.slice ax L.length cx)).setCell ⟨D, 3, none⟩ (.bool false)).setCell ⟨D, 4, none⟩ (.bool false)) :=
          FrD.set (FrD.set (FrD.set (FrD.set (FrD.set (FrD.set (FrD.set (Fr.refl _ _)))))))
        have hDT : ∀ b c, wr.heap[b]? = some (.cells c 220 (0, 0)) → ¬ b = D := by
          intro b c hb e
          subst e
          have := HX.out.1.symm.trans hb
          simp at this
        refine ⟨rfl, _, L', e4, h1, own_base2 (own_fr2 h2 hfD ?_) HF1.out.size, fun q hq => (h3 q hq).fr hfD hDT, (HX.out.2.mono (fun _ _ h => h.elim)).trans hfD (fun _ _ h => h)⟩
        intro b hb e
        have := lt_of_heap HD.out
        have := HF1.out.size
        omega
end Go.Proofs.YteebjgfalllbjaaGreatDoor
