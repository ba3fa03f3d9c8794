import Derived.Test.YteebjgfalllbjaaGreatDoorCLtLkLl
import Derived.Test.YteebjgfalllbjaaGreatDoorCAsAsWTl
namespace Go.Proofs.YteebjgfalllbjaaGreatDoor
open Go.RowKit

def zST : ST := ⟨0, 0, 0, 0, 0, 0⟩
/-- What Status answers, of a list of sagas. -/
def StatQ (L : List RS) (id : Int) (w : World) (e : Ending) (w' : World) : Prop := ∃ s v, e = .returned (.tuple #[.agg s.cs.toArray, v]) ∧ Fr (fun _ => False) w w' ∧ ((∃ r ∈ L, r.id = id ∧ s = r.st' ∧ ErrAt w' v 0) ∨ ((∀ r ∈ L, r.id ≠ id) ∧ s = zST ∧ ErrAt w' v 9))
theorem eq_zero_status (w : World) : (binOp .eql 42 (.agg #[.int .i64 0, .int .i64 0, .int .i64 0, .int .i64 0, .int .i64 0, .int .i64 0]) (.agg #[.int .i64 0, .int .i64 0, .int .i64 0, .int .i64 0, .int .i64 0, .int .i64 0])).run Tryz.prog w = .ok (.bool true) w := by kernel_rfl
theorem sorted_find {L : List RS} (hs : L.Pairwise (fun a b => a.id < b.id)) {id : Int} {k : Nat} {t : Bool} (h : FindP L id k t) : (t = true → ∃ r, L[k]? = some r ∧ r.id = id) ∧ (t = false → ∀ r ∈ L, r.id ≠ id) := by
  refine ⟨h.2.2.2.1, fun ht r hr e => ?_⟩
  obtain ⟨j, hj, rfl⟩ := List.mem_iff_getElem.1 hr
  by_cases hjk : j < k
  · have := h.2.1 j _ hjk (List.getElem?_eq_getElem hj); omega
  · have hk : k < L.length := by omega
    have h3 := h.2.2.1 _ (List.getElem?_eq_getElem hk)
    have : L[k].id = id := by
      by_cases e2 : k = j
      · subst e2; exact e
      · have := (List.pairwise_iff_getElem.1 hs) k j hk hj (by omega); omega
    have := h.2.2.2.2 ⟨L[k], List.getElem?_eq_getElem hk, this⟩
    rw [ht] at this; cases this
theorem sorted_one {L : List RS} (hs : L.Pairwise (fun a b => a.id < b.id)) {i j : Nat} {a b : RS} (ha : L[i]? = some a) (hb : L[j]? = some b) (e : a.id = b.id) : a = b := by
  obtain ⟨hi, rfl⟩ := List.getElem?_eq_some_iff.1 ha
  obtain ⟨hj, rfl⟩ := List.getElem?_eq_some_iff.1 hb
  have hp := List.pairwise_iff_getElem.1 hs
  rcases Nat.lt_trichotomy i j with h | h | h
  · have := hp i j hi hj h; omega
  · subst h; rfl
  · have := hp j i hj hi h; omega

set_option maxRecDepth 100000 in
set_option maxHeartbeats 4000000 in
theorem ltold_ok {w : World} {D A Pp n : Nat} {nn : Bool} {x : Value} {pause clock : Int} {ao : Option Addr} {cap : Nat} {L : List RS} (h : LawAt w D A Pp n nn x pause clock (.slice ao L.length cap)) (hl : RowsOf w ao 7 (L.map RS.cs)) (hn : L.length ≤ 1000000) (hs : L.Pairwise (fun a b => a.id < b.id)) (hG : GOk w) (id : Int)
    (hE : Calls Tryz.prog 24 #[x, .int .i64 id] w fun e w' => StatQ L id w e w') :
    Calls Tryz.prog 86 #[.pointer (some ⟨D, 0, none⟩), .int .i64 id] w fun e w' => e = .returned (.bool true) ∧ Fr (fun _ => False) w w' := by
  have c5 := h.c5
  have HL : Hid (RowsOf w ao 7 (L.map RS.cs)) := hl
  have HD : Hid (LawAt w D A Pp n nn x pause clock (.slice ao L.length cap)) := h
  have HS : Hid (L.Pairwise (fun a b => a.id < b.id)) := hs
  clear h hl hs
  go_enter Tryz.func86, Tryz.ntmps86
  go_wp2_with fail
  refine hE.mono ?_
  rintro e w1 ⟨s, v, rfl, hf1, hcase⟩
  have hd1 := HD.out.fr hf1 (fun h => h)
  have hG1 := hG.fr hf1 (fun h => h)
  rcases hcase with ⟨r, hr, hid, rfl, hv⟩ | ⟨hno, rfl, hv⟩
  · obtain rfl : v = .nilIface := by
      rcases hv with ⟨h, _⟩ | ⟨_, _, _, _, h⟩
      · exact h
      · exact absurd rfl h
    clear hE c5
    obtain ⟨k, t, hp0⟩ := findP_ex L id
    clear k t hp0
    have HR : Hid (r ∈ L ∧ r.id = id) := ⟨hr, hid⟩
    obtain ⟨W, HW⟩ : ∃ W, Hid (W = w1.alloc (.cells #[.int .i64 r.id, .int .i64 r.S.1, .int .i64 r.S.2, .int .i64 r.st.length, .int .i64 r.tries, .int .i64 r.due] 42)) := ⟨_, rfl⟩
    obtain ⟨B, HB⟩ : ∃ B, Hid (B = w1.heap.size) := ⟨_, rfl⟩
    have hFW : Fr (fun _ => False) w W := by rw [HW.out]; exact hf1.alloc _
    have hBW : W.rangeAt B 0 r.st'.cs := by rw [HW.out, HB.out]; intro j v hv; rw [cell_of_row _ w1.heap.size _ _ _ _ (heap_alloc_at w1 _), Nat.zero_add]; simpa [ST.cs, RS.st'] using hv
    unfold ST.cs RS.st'
    clear hid hr hv hd1 hG1 hf1
    go_wp2_with fail
    rw [← HW.out, ← HB.out]
    refine (Told_nil W).mono ?_
    rintro e w' ⟨rfl, rfl⟩
    go_wp2_with fail
    refine (num_ok 0 _).mono ?_
    rintro e w2 ⟨rfl, rfl⟩
    have hdW := HD.out.fr hFW (fun h => h)
    have d6 := hdW.c6
    have d7 := hdW.c7
    have d8 := hdW.c8
    have d9 := hdW.c9
    go_wp2_with fail
    refine (rFind_ok (HL.out.frz hFW) hn pause clock false id).mono ?_
    rintro e w3 ⟨k, t, rfl, hp, hf3⟩
    have hF3 := hFW.trans hf3 (fun _ _ h => h)
    have hpt := sorted_find HS.out hp
    have ht : t = true := by
      cases t
      · exact absurd HR.out.2 (hpt.2 rfl r HR.out.1)
      · rfl
    subst ht
    obtain ⟨r', hr', hid'⟩ := hpt.1 rfl
    obtain ⟨j, hj⟩ := List.mem_iff_getElem?.1 HR.out.1
    obtain rfl : r' = r := sorted_one HS.out hr' hj (by rw [hid', HR.out.2])
    have hkl : k < L.length := (List.getElem?_eq_some_iff.1 hr').1
    have hkl' : (k : Int) < L.length := by omega
    obtain ⟨g, off, rfl, hrg⟩ := HL.out k r'.cs (by simp [hr'])
    obtain ⟨s0, s1, s2, s3, s4, s5, s6⟩ := seven_of (range_fr hrg hF3)
    have hB3 := range_fr hBW hf3
    have u0 : w3.cell? ⟨B, 0, none⟩ = some (.int .i64 r'.id) := hB3 0 _ rfl
    have u1 : w3.cell? ⟨B, 1, none⟩ = some (.int .i64 r'.S.1) := hB3 1 _ rfl
    have u2 : w3.cell? ⟨B, 2, none⟩ = some (.int .i64 r'.S.2) := hB3 2 _ rfl
    have u3 : w3.cell? ⟨B, 3, none⟩ = some (.int .i64 r'.st.length) := hB3 3 _ rfl
    have u4 : w3.cell? ⟨B, 4, none⟩ = some (.int .i64 r'.tries) := hB3 4 _ rfl
    have u5 : w3.cell? ⟨B, 5, none⟩ = some (.int .i64 r'.due) := hB3 5 _ rfl
    have hd3 := HD.out.fr hF3 (fun h => h)
    have HD3 : Hid (LawAt w3.drew D A Pp n nn x pause clock (.slice (some ⟨g, off, none⟩) L.length cap) ∧ Fr (fun _ => False) w w3.drew ∧ Fr (fun _ => False) w w3) := ⟨hd3, hF3.drew, hF3⟩
    have e9 := hd3.c9
    have HX : Hid (LawAt w3 D A Pp n nn x pause clock (.slice (some ⟨g, off, none⟩) L.length cap)) := hd3
    clear hB3 hrg hd3 hF3 hf3 hdW hFW d6 d7 d8 d9 hBW hpt hp hj hr' hid' HW HB
    go_wp2_with fail
    refine wp_region_still_tail 10 (by kernel_rfl) (by kernel_rfl) (Bx.out ?_)
    simp only [List.take_succ_cons, List.take_zero, List.drop_succ_cons, List.drop_zero]
    repeat (refine bx_step (fun K hK => ?_); go_simp; refine hK _ ?_; clear hK K)
    refine bx_nil ?_
    go_wp2_with fail
    refine (lstatus_ok HD3.out.1 r').mono ?_
    rintro e w4 ⟨rfl, hf4⟩
    have HF4 : Hid (Fr (fun _ => False) w w4) := HD3.out.2.1.trans hf4 (fun _ _ h => h)
    clear hf4 s0 s1 s2 s3 s4 s5 s6 u0 u1 u2 u3 u4 u5 e9
    go_wp2
    go_ret
    exact ⟨rfl, HF4.out⟩
  · clear hE c5
    have HNO : Hid (∀ r ∈ L, r.id ≠ id) := hno
    obtain ⟨W, HW⟩ : ∃ W, Hid (W = w1.alloc (.cells #[.int .i64 0, .int .i64 0, .int .i64 0, .int .i64 0, .int .i64 0, .int .i64 0] 42)) := ⟨_, rfl⟩
    obtain ⟨B, HB⟩ : ∃ B, Hid (B = w1.heap.size) := ⟨_, rfl⟩
    have hF1W : Fr (fun _ => False) w1 W := by rw [HW.out]; exact (Fr.refl _ _).alloc _
    have hFW : Fr (fun _ => False) w W := hf1.trans hF1W (fun _ _ h => h)
    have hBW : W.rangeAt B 0 zST.cs := by rw [HW.out, HB.out]; intro j v hv; rw [cell_of_row _ w1.heap.size _ _ _ _ (heap_alloc_at w1 _), Nat.zero_add]; simpa [ST.cs, zST] using hv
    have hv1 := hv.one
    have hvW := hv.fr hF1W (fun _ _ _ h => h)
    have hGW := hG1.fr hF1W (fun h => h)
    unfold ST.cs zST
    clear hno hv hd1 hG1 hf1 hF1W
    go_wp2_with fail
    rw [← HW.out, ← HB.out]
    refine (Told_any hvW hGW).mono ?_
    rintro e w2 ⟨rfl, hf2⟩
    go_wp2_with fail
    refine (num_ok 9 _).mono ?_
    rintro e w2' ⟨rfl, rfl⟩
    have hF2 := hFW.trans hf2 (fun _ _ h => h)
    have hdW := HD.out.fr hF2 (fun h => h)
    have d6 := hdW.c6
    have d7 := hdW.c7
    have d8 := hdW.c8
    have d9 := hdW.c9
    go_wp2_with fail
    refine (rFind_ok (HL.out.frz hF2) hn pause clock false id).mono ?_
    rintro e w3 ⟨k, t, rfl, hp, hf3⟩
    have hF3 := hF2.trans hf3 (fun _ _ h => h)
    have hpt := sorted_find HS.out hp
    have ht : t = false := by
      cases t
      · rfl
      · obtain ⟨r, hr, hid⟩ := hpt.1 rfl
        exact absurd hid (HNO.out r (List.mem_of_getElem? hr))
    subst ht
    have hB3 := range_fr (range_fr hBW hf2) hf3
    have u0 : w3.cell? ⟨B, 0, none⟩ = some (.int .i64 0) := hB3 0 _ rfl
    have u1 : w3.cell? ⟨B, 1, none⟩ = some (.int .i64 0) := hB3 1 _ rfl
    have u2 : w3.cell? ⟨B, 2, none⟩ = some (.int .i64 0) := hB3 2 _ rfl
    have u3 : w3.cell? ⟨B, 3, none⟩ = some (.int .i64 0) := hB3 3 _ rfl
    have u4 : w3.cell? ⟨B, 4, none⟩ = some (.int .i64 0) := hB3 4 _ rfl
    have u5 : w3.cell? ⟨B, 5, none⟩ = some (.int .i64 0) := hB3 5 _ rfl
    have HF3 : Hid (Fr (fun _ => False) w w3) := hF3
    clear hB3 hF3 hf3 hf2 hF2 hdW hFW d6 d7 d8 d9 hBW hpt hp HW HB hvW hGW
    have heq := eq_zero_status
    go_wp2
    go_ret
    exact ⟨rfl, HF3.out⟩
end Go.Proofs.YteebjgfalllbjaaGreatDoor
namespace Go.Proofs.YteebjgfalllbjaaGreatDoor
open Go.RowKit

/-- As an engine that was just opened tells of a saga. -/
def RS.fresh (r : RS) : ST := ⟨r.id, r.S.1, r.S.2, r.st.length, 0, 0⟩
/-- A saga as it was found: that is sure. -/
def Found (r r' : RS) : Prop := r'.id = r.id ∧ r'.sa = r.sa ∧ r'.sc = r.sc ∧ r'.st = r.st ∧ r'.S = r.S ∧ r'.tries = 0 ∧ r'.due = 0 ∧ r'.may = [r.S] ∧ r'.mc = 1
def FoundL (L L' : List RS) : Prop := L'.length = L.length ∧ ∀ (i : Nat) (r r' : RS), L[i]? = some r → L'[i]? = some r' → Found r r'
theorem FoundL.snoc {L L' : List RS} {r r' : RS} (h : FoundL L L') (hr : Found r r') : FoundL (L ++ [r]) (L' ++ [r']) := by
  refine ⟨by simp [h.1], fun i a b ha hb => ?_⟩
  by_cases hi : i < L.length
  · rw [List.getElem?_append_left hi] at ha
    rw [List.getElem?_append_left (by rw [h.1]; exact hi)] at hb
    exact h.2 i a b ha hb
  · rw [List.getElem?_append_right (by omega)] at ha
    rw [List.getElem?_append_right (by rw [h.1]; omega), h.1] at hb
    by_cases h0 : i - L.length = 0
    · rw [h0] at ha hb; simp at ha hb; subst ha hb; exact hr
    · rw [List.getElem?_eq_none (by simp; omega)] at ha; cases ha
def MayAt (w : World) (r : RS) : Prop := ∃ g, r.ma = some ⟨g, 0, none⟩ ∧ w.heap[g]? = some (.cells #[.int .i64 r.S.1, .int .i64 r.S.2] 220 (0, 0))
/-- How far the list of what was found is. -/
def FoI (w1 : World) (L : List RS) (i : Nat) (lv : Value) (wr : World) : Prop := ∃ L', FoundL (L.take i) L' ∧ wr.ownsRow w1.heap.size 223 7 lv i (rcells L') ∧ (∀ r ∈ L', MayAt wr r) ∧ Fr (fun _ => False) w1 wr
theorem state_info : (Tryz.prog.info? 220).map (fun i => (i.zero, i.size, i.bytes)) = some (some (.agg #[.int .i64 0, .int .i64 0]), 2, 16) := by kernel_rfl
theorem six_of {w : World} {g o : Nat} {s : ST} (h : w.rangeAt g o s.cs) : w.cell? ⟨g, o, none⟩ = some (.int .i64 s.id) ∧ w.cell? ⟨g, o + 1, none⟩ = some (.int .i64 s.state) ∧ w.cell? ⟨g, o + 2, none⟩ = some (.int .i64 s.step) ∧ w.cell? ⟨g, o + 3, none⟩ = some (.int .i64 s.steps) ∧ w.cell? ⟨g, o + 4, none⟩ = some (.int .i64 s.tries) ∧ w.cell? ⟨g, o + 5, none⟩ = some (.int .i64 s.due) :=
  ⟨h 0 _ rfl, h 1 _ rfl, h 2 _ rfl, h 3 _ rfl, h 4 _ rfl, h 5 _ rfl⟩

/-- A saga's cells in a block of their own. -/
def Box7 (w : World) (B : Nat) (r : RS) : Prop := w.heap[B]? = some (.cells r.cs.toArray 223 (0, 0))
theorem Box7.c {w : World} {B : Nat} {r : RS} (h : Box7 w B r) : seven w B 0 r.id r.sa r.st.length r.sc r.S.1 r.S.2 r.tries r.due r.ma r.may.length r.mc :=
  seven_of (fun j v hv => by rw [cell_of_row w B _ _ _ _ h, Nat.zero_add]; simpa using hv)
theorem Box7.fz {w : World} {B : Nat} {r : RS} (h : Box7 w B r) (j : Nat) : w.frozen? ⟨B, j, none⟩ = false := frozen_of_row w B j _ _ h
theorem box_store {w : World} {B : Nat} {r : RS} (S : SP) (h : Box7 w B r) : (Instr.storeAt 220 (.pointer (some ⟨B, 2, none⟩)) (.agg #[.int .i64 S.1, .int .i64 S.2])).run Tryz.prog w = .ok () (w.setRow B ({ r with S := S } : RS).cs.toArray) ∧ Box7 (w.setRow B ({ r with S := S } : RS).cs.toArray) B { r with S := S } := by
  have := run_storeAt_row (P := Tryz.prog) (o := 2) (ty := 220) (vs := [.int .i64 S.1, .int .i64 S.2]) h (by simp [RS.cs]) (by simp [Value.oneCell']) (by kernel_rfl)
  exact ⟨this, setRow_heap _ _ _ _ _ _ h⟩
theorem MayAt.fr {S : Nat → Prop} {w w' : World} {r : RS} (h : MayAt w r) (hf : Fr S w w') (hS : ∀ b c, w.heap[b]? = some (.cells c 220 (0, 0)) → ¬ S b) : MayAt w' r := by
  obtain ⟨g, e, hg⟩ := h
  exact ⟨g, e, hf.keep hg (hS g _ hg)⟩
theorem fo_step {w1 W : World} {L L' : List RS} {i : Nat} {r r' : RS} {v : Value} (hL : FoundL (L.take i) L') (hown : W.ownsRow w1.heap.size 223 7 v i (rcells L')) (hm : ∀ q ∈ L', MayAt W q) (hf : Fr (fun _ => False) w1 W) (hr : L[i]? = some r) (hF : Found r r') (hM : MayAt W r')
    (w2 : World) (v2 : Value) (h2 : w2.ownsRow w1.heap.size 223 7 v2 (i + 1) (rcells L' ++ r'.cs)) (hg : W.grownBy w2 v.ownBlock) : FoI w1 L (i + 1) v2 w2 ∧ ∃ a2 c2, v2 = .slice a2 (i + 1) c2 := by
  obtain ⟨a2, c2, e2, _⟩ := own_shape h2
  have hfr : Fr (fun b => v.ownBlock = some b) W w2 := (Fr.refl _ _).grown hg (fun _ _ h => h)
  have hno : ∀ b c, W.heap[b]? = some (.cells c 220 (0, 0)) → ¬ v.ownBlock = some b := by
    intro b c hb e
    rcases hown.2 with ⟨rfl, _⟩ | ⟨g, cap, cur, rfl, _, hgg, _⟩
    · cases e
    · simp only [Value.ownBlock, Option.some.injEq] at e
      subst e
      rw [hgg] at hb; simp at hb
  refine ⟨⟨L' ++ [r'], ?_, ?_, ?_, ?_⟩, a2, c2, e2⟩
  · rw [List.take_add_one, hr]; exact hL.snoc hF
  · rw [rcells_append]; simpa [rcells] using h2
  · intro q hq
    rw [List.mem_append] at hq
    rcases hq with hq | hq
    · exact (hm q hq).fr hfr hno
    · simp at hq; subst hq; exact hM.fr hfr hno
  · exact hf.grown hg (fun k hk e => by have := (hown.lt k e).1; omega)
theorem FrD.set {w a : World} {D i : Nat} {v : Value} (h : Fr (· = D) w a) : Fr (· = D) w (a.setCell ⟨D, i, none⟩ v) := h.setCell _ (fun _ => rfl) _
def FoundQ (L : List RS) (D A Pp n : Nat) (xp : Option Addr) (pause : Int) (w : World) (e : Ending) (w' : World) : Prop := e = .returned (.bool true) ∧ ∃ Lv L', LawAt w' D A Pp n false (.pointer xp) pause 0 Lv ∧ FoundL L L' ∧ w'.ownsRow w.heap.size 223 7 Lv L.length (rcells L') ∧ (∀ r ∈ L', MayAt w' r) ∧ Fr (· = D) w w'
set_option maxRecDepth 100000 in
set_option maxHeartbeats 8000000 in
theorem found_ok {w : World} {D A B n Pp : Nat} {nn : Bool} {x0 : Value} {xp : Option Addr} {pause0 clock : Int} {calls writes : Int} {ao : Option Addr} {cap : Nat} {L : List RS} (h : LawAt w D A Pp n nn x0 pause0 clock (.slice ao L.length cap)) (hdk : DiskAt w A B n (.slice none 0 0) calls writes) (hl : SagasAt w ao L) (hn : L.length ≤ 1000000) (hS : ∀ r ∈ L, r.S.1 ≠ 0 ∧ r.S ∈ r.may ∧ r.may.length ≤ 1000000) (hDA : D ≠ A) (pause : Int)
    (hA : Calls Tryz.prog 35 #[.pointer xp, .int .i64 1048576] w fun e w' => AllQ (L.map RS.fresh) w e w') :
    Calls Tryz.prog 82 #[.pointer (some ⟨D, 0, none⟩), .pointer xp, .int .i64 pause] w fun e w' => FoundQ L D A Pp n xp pause w e w' := by
  have HL : Hid (SagasAt w ao L) := hl
  have HD : Hid (LawAt w D A Pp n nn x0 pause0 clock (.slice ao L.length cap)) := h
  have HSN : Hid (∀ r ∈ L, r.S.1 ≠ 0 ∧ r.S ∈ r.may ∧ r.may.length ≤ 1000000) := hS
  have HDK : Hid (DiskAt w A B n (.slice none 0 0) calls writes) := hdk
  clear h hl hS hdk
  go_enter Tryz.func82, Tryz.ntmps82
  go_wp2_with fail
  refine hA.mono ?_
  rintro e w1 ⟨bo, cb, rfl, hb, hf1⟩
  simp only [List.length_map]
  have HB : Hid (RowsOf w1 bo 6 ((L.map RS.fresh).map ST.cs)) := hb
  have HF1 : Hid (Fr (fun _ => False) w w1) := hf1
  have hd1 := HD.out.fr hf1 (fun h => h)
  have hk1 := HDK.out.fr hf1 (fun h => h)
  have c0 := hd1.c0
  have c4 := hd1.c4
  clear hA hb hf1 hd1
  by_cases hL0 : L.length = 0
  · have hnil : L = [] := List.eq_nil_of_length_eq_zero hL0
    subst hnil
    simp only [List.length_nil] at *
    go_wp2_with fail
    refine (Pending_ok hk1).mono ?_
    rintro e w1' ⟨rfl, rfl⟩
    clear hk1 c0 c4
    go_wp2
    go_loopw [9, 10, 11] (fun lv q c wr => lv = .slice none 0 0 ∧ q = .int .i64 0 ∧ c = .int .i64 0 ∧ Hid (wr = w1')) (fun _ _ _ _ => 0)
    case atStart => exact ⟨rfl, rfl, rfl, (rfl : w1' = w1')⟩
    case round =>
      obtain ⟨rfl, rfl, rfl, HR⟩ := hrel
      have hFr : Fr (fun _ => False) w wr := by rw [HR.out]; exact HF1.out
      have HI0 : Hid (FoI w1' [] 0 (.slice none 0 0) wr) := by rw [HR.out]; exact ⟨[], ⟨by simp, fun i r r' h => by simp at h⟩, World.ownsRow_nil _ _ _ _, (fun r hr => absurd hr (by simp)), Fr.refl _ _⟩
      have hd := HD.out.fr hFr (fun h => h)
      have c3 := hd.c3
      have c4 := hd.c4
      have c5 := hd.c5
      have c6 := hd.c6
      have c7 := hd.c7
      have c8 := hd.c8
      have c9 := hd.c9
      have fz : ∀ j, wr.frozen? ⟨D, j, none⟩ = false := hd.fz
      have HX : Hid (LawAt wr D A Pp n nn x0 pause0 clock (.slice ao 0 cap) ∧ Fr (fun _ => False) w wr) := ⟨hd, hFr⟩
      clear hd hFr
      go_wp2
      go_ret
      obtain ⟨L', h1, h2, h3, h4⟩ := HI0.out
      have e5 := HX.out.1.set5 (.pointer xp)
      have e6 := e5.set6 pause
      have e7 := e6.set7 0
      have e8 := e7.set8
      have e9 := e8.set9 (.slice none 0 0)
      have e3 := e9.set3 false
      have e4 := e3.set4
      have hfD : Fr (· = D) wr (((((((wr.setCell ⟨D, 5, none⟩ (.pointer xp)).setCell ⟨D, 6, none⟩ (.int .i64 pause)).setCell ⟨D, 7, none⟩ (.int .i64 0)).setCell ⟨D, 8, none⟩ (.bool false)).setCell ⟨D, 9, none⟩ (.slice none 0 0)).setCell ⟨D, 3, none⟩ (.bool false)).setCell ⟨D, 4, none⟩ (.bool false)) :=
        FrD.set (FrD.set (FrD.set (FrD.set (FrD.set (FrD.set (FrD.set (Fr.refl _ _)))))))
      have hDT : ∀ b c, wr.heap[b]? = some (.cells c 220 (0, 0)) → ¬ b = D := by
        intro b c hb e
        subst e
        have := HX.out.1.symm.trans hb
        simp at this
      refine ⟨rfl, _, L', e4, h1, own_base2 (own_fr2 h2 hfD ?_) HF1.out.size, fun q hq => (h3 q hq).fr hfD hDT, (HX.out.2.mono (fun _ _ h => h.elim)).trans hfD (fun _ _ h => h)⟩
      intro b hb e
      have := lt_of_heap HD.out
      have := HF1.out.size
      omega
  · have hL0' : ¬ (L.length : Int) = 0 := by omega
    go_wp2_with fail
    refine (Pending_ok hk1).mono ?_
    rintro e w1' ⟨rfl, rfl⟩
    have HI : Hid (FoI w1' L 0 (.slice none 0 0) w1') := ⟨[], ⟨by simp, fun i r r' h => by simp at h⟩, World.ownsRow_nil _ _ _ _, (fun r hr => absurd hr (by simp)), Fr.refl _ _⟩
    clear hk1 c0 c4
    go_wp2
    go_loopw [9, 10, 11] (fun lv q c wr => ∃ (i : Nat) (ax : Option Addr) (cx : Nat), i ≤ L.length ∧ lv = .slice ax i cx ∧ q = .int .i64 i ∧ c = .int .i64 i ∧ Hid (FoI w1' L i lv wr)) (fun _ _ c _ => L.length - (intOf c).toNat)
    case atStart => exact ⟨0, none, 0, Nat.zero_le _, rfl, rfl, rfl, HI⟩
    case round =>
      obtain ⟨i, ax, cx, hi, rfl, rfl, rfl, HR⟩ := hrel
      have hFr : Fr (fun _ => False) w wr := by obtain ⟨L', _, _, _, hf⟩ := HR.out; exact HF1.out.trans hf (fun _ _ h => h)
      have hd := HD.out.fr hFr (fun h => h)
      have c9 := hd.c9
      by_cases hlt : i < L.length
      · have hlt' : (i : Int) < L.length := by omega
        obtain ⟨r, hr⟩ : ∃ r, L[i]? = some r := ⟨_, List.getElem?_eq_getElem hlt⟩
        obtain ⟨g, off, rfl, hrg⟩ := HL.out.get hr
        obtain ⟨s0, s1, s2, s3, s4, s5, s6⟩ := seven_of (range_fr hrg hFr)
        clear hrg hd
        obtain ⟨hS0, hSm, hSl⟩ := HSN.out r (List.mem_of_getElem? hr)
        obtain ⟨g2, o2, rfl, hrg2⟩ := HB.out i r.fresh.cs (by rw [List.getElem?_map, List.getElem?_map, hr]; rfl)
        have HRG : Hid (wr.rangeAt g2 (o2 + i * 6) r.fresh.cs) := by obtain ⟨L', _, _, _, hf⟩ := HR.out; exact range_fr hrg2 hf
        have HMY : Hid (RowsOf w r.ma 2 (r.may.map spv)) := HL.out.m r (List.mem_of_getElem? hr)
        have HSS : Hid (r.S.1 ≠ 0 ∧ r.S ∈ r.may ∧ L[i]? = some r) := ⟨hS0, hSm, hr⟩
        clear hrg2 hSm
        go_wp2_with fail
        obtain ⟨W, HW⟩ : ∃ W, Hid (W = wr.alloc (.cells #[.int .i64 r.id, .slice r.sa r.st.length r.sc, .int .i64 0, .int .i64 0, .int .i64 r.tries, .int .i64 r.due, .slice r.ma r.may.length r.mc] 223)) := ⟨_, rfl⟩
        obtain ⟨B7, HB7⟩ : ∃ B7, Hid (B7 = wr.heap.size) := ⟨_, rfl⟩
        have hFW : Fr (fun _ => False) wr W := by rw [HW.out]; exact (Fr.refl _ _).alloc _
        have hBx : Box7 W B7 { r with S := (0, 0) } := by rw [HW.out, HB7.out]; exact heap_alloc_at wr _
        rw [← HW.out, ← HB7.out]
        have HB7' : Hid (wr.heap.size ≤ B7) := by show wr.heap.size ≤ B7; rw [HB7.out]; exact Nat.le_refl _
        clear HW HB7 s0 s1 s2 s3 s4 s5 s6 c9
        obtain ⟨q0, q1, q2, q3, q4, q5, q6⟩ := hBx.c
        obtain ⟨t0, t1, t2, t3, t4, t5⟩ := six_of (range_fr HRG.out hFW)
        simp only [RS.fresh] at t0 t1 t2 t3 t4 t5
        have HWW : Hid (Fr (fun _ => False) wr W ∧ Box7 W B7 { r with S := (0, 0) }) := ⟨hFW, hBx⟩
        clear hFW hBx
        refine wp_region_still_lit (by kernel_rfl) (by kernel_rfl) (Bx.out ?_)
        repeat (refine bx_step (fun K hK => ?_); go_simp; refine hK _ ?_; clear hK K)
        refine bx_nil ?_
        go_wp2_with fail
        clear q0 q1 q2 q3 q4 q5 q6 t0 t1 t2 t3 t4 t5
        obtain ⟨W2, HW2⟩ : ∃ W2, Hid (W2 = W.drew) := ⟨_, rfl⟩
        have HWW2 : Hid (Fr (fun _ => False) wr W2 ∧ Box7 W2 B7 { r with S := (0, 0) }) := by rw [HW2.out]; exact ⟨HWW.out.1.drew, HWW.out.2⟩
        rw [show W.drew = W2 from HW2.out.symm]
        clear HW2 HWW
        obtain ⟨q0, q1, q2, q3, q4, q5, q6⟩ := HWW2.out.2.c
        obtain ⟨t0, t1, t2, t3, t4, t5⟩ := six_of (range_fr HRG.out HWW2.out.1)
        simp only [RS.fresh] at t0 t1 t2 t3 t4 t5
        refine wp_region_still_lit (by kernel_rfl) (by kernel_rfl) (Bx.out ?_)
        repeat (refine bx_step (fun K hK => ?_); go_simp; refine hK _ ?_; clear hK K)
        refine bx_nil ?_
        go_wp2_with fail
        clear q0 q1 q2 q3 q4 q5 q6 t0 t1 t2 t3 t4 t5
        obtain ⟨W3, HW3⟩ : ∃ W3, Hid (W3 = W2.drew) := ⟨_, rfl⟩
        have HWW3 : Hid (Fr (fun _ => False) wr W3 ∧ Box7 W3 B7 { r with S := (0, 0) }) := by rw [HW3.out]; exact ⟨HWW2.out.1.drew, HWW2.out.2⟩
        rw [show W2.drew = W3 from HW3.out.symm]
        clear HW3 HWW2
        obtain ⟨t0, t1, t2, t3, t4, t5⟩ := six_of (range_fr HRG.out HWW3.out.1)
        simp only [RS.fresh] at t0 t1 t2 t3 t4 t5
        obtain ⟨hst, hbx4⟩ := box_store r.S (w := W3.drew) (r := { r with S := (0, 0) }) HWW3.out.2
        obtain ⟨W4, HW4⟩ : ∃ W4, Hid (W4 = W3.drew.setRow B7 ({ r with S := r.S } : RS).cs.toArray) := ⟨_, rfl⟩
        have HWW4 : Hid (Fr (fun _ => False) wr W4 ∧ Box7 W4 B7 r) := by rw [HW4.out]; exact ⟨HWW3.out.1.drew.setRow _ (fun h => by have := HB7'.out; omega) _, hbx4⟩
        rw [← HW4.out] at hst
        clear hbx4 HW4 HWW3
        refine wp_region_still_tail 12 (by kernel_rfl) (by kernel_rfl) (Bx.out ?_)
        simp only [List.take_succ_cons, List.take_zero, List.drop_succ_cons, List.drop_zero]
        repeat (refine bx_step (fun K hK => ?_); go_simp; refine hK _ ?_; clear hK K)
        refine bx_nil ?_
        refine wpList_store 220 (w' := W4) _ _ rfl rfl ?_ ?_
        exact hst
        clear t0 t1 t2 t3 t4 t5 hst
        obtain ⟨q0, q1, q2, q3, q4, q5, q6⟩ := HWW4.out.2.c
        go_wp2_with fail
        refine (Has_ok (HMY.out.frz (hFr.trans HWW4.out.1 (fun _ _ h => h))) hSl r.S).mono ?_
        rintro e w5 ⟨rfl, hf5⟩
        have hdec : decide (r.S ∈ r.may) = true := by simp [HSS.out.2.1]
        rw [hdec]
        have HWW5 : Hid (Fr (fun _ => False) wr w5 ∧ Box7 w5 B7 r) := ⟨HWW4.out.1.trans hf5 (fun _ _ h => h), hf5.keep HWW4.out.2 (fun h => h)⟩
        clear q0 q1 q2 q3 q4 q5 q6 hf5 hdec HWW4
        obtain ⟨q0, q1, q2, q3, q4, q5, q6⟩ := HWW5.out.2.c
        obtain ⟨W6, HW6⟩ : ∃ W6, Hid (W6 = w5.setCell ⟨B7, 4, none⟩ (.int .i64 0)) := ⟨_, rfl⟩
        have h6 : (Instr.storeAt 3 (.pointer (some ⟨B7, 4, none⟩)) (.int .i64 0)).run Tryz.prog w5 = .ok () W6 := by rw [HW6.out]; exact run_storeAt_one q4 (HWW5.out.2.fz 4) (by kernel_rfl) rfl
        have hb6 : Box7 W6 B7 { r with tries := 0 } := by rw [HW6.out]; exact heap_setCell_at w5 B7 4 _ _ _ HWW5.out.2
        have hf6 : Fr (fun _ => False) wr W6 := by rw [HW6.out]; exact HWW5.out.1.setCell _ (fun h => by have := HB7'.out; simp at h; omega) _
        obtain ⟨W7, HW7⟩ : ∃ W7, Hid (W7 = W6.setCell ⟨B7, 5, none⟩ (.int .i64 0)) := ⟨_, rfl⟩
        have h7 : (Instr.storeAt 3 (.pointer (some ⟨B7, 5, none⟩)) (.int .i64 0)).run Tryz.prog W6 = .ok () W7 := by rw [HW7.out]; exact run_storeAt_one hb6.c.2.2.2.2.2.1 (hb6.fz 5) (by kernel_rfl) rfl
        have hb7 : Box7 W7 B7 { r with tries := 0, due := 0 } := by rw [HW7.out]; exact heap_setCell_at W6 B7 5 _ _ _ hb6
        have hf7 : Fr (fun _ => False) wr W7 := by rw [HW7.out]; exact hf6.setCell _ (fun h => by have := HB7'.out; simp at h; omega) _
        obtain ⟨M, HM⟩ : ∃ M, Hid (M = W7.heap.size) := ⟨_, rfl⟩
        obtain ⟨W8, HW8⟩ : ∃ W8, Hid (W8 = W7.alloc (.cells #[.int .i64 r.S.1, .int .i64 r.S.2] 220)) := ⟨_, rfl⟩
        have hMB : B7 ≠ M := by have := lt_of_heap hb7; rw [HM.out]; omega
        have hb8 : Box7 W8 B7 { r with tries := 0, due := 0 } := by unfold Box7; rw [HW8.out, heap_alloc_lt _ _ _ (lt_of_heap hb7)]; exact hb7
        have hf8 : Fr (fun _ => False) wr W8 := by rw [HW8.out]; exact hf7.alloc _
        have hm8 : W8.heap[M]? = some (.cells #[.int .i64 r.S.1, .int .i64 r.S.2] 220 (0, 0)) := by rw [HW8.out, HM.out]; exact heap_alloc_at _ _
        obtain ⟨W9, HW9⟩ : ∃ W9, Hid (W9 = W8.setCell ⟨B7, 6, none⟩ (.slice (some ⟨M, 0, none⟩) 1 1)) := ⟨_, rfl⟩
        have h9 : (Instr.storeAt 221 (.pointer (some ⟨B7, 6, none⟩)) (.slice (some ⟨M, 0, none⟩) 1 1)).run Tryz.prog W8 = .ok () W9 := by rw [HW9.out]; exact run_storeAt_one hb8.c.2.2.2.2.2.2 (hb8.fz 6) (by kernel_rfl) rfl
        rw [HW8.out, HM.out] at h9
        obtain ⟨r', HR'⟩ : ∃ r' : RS, Hid (r' = { r with tries := 0, due := 0, ma := some ⟨M, 0, none⟩, mc := 1, may := [r.S] }) := ⟨_, rfl⟩
        have hb9 : Box7 W9 B7 r' := by rw [HW9.out, HR'.out]; exact heap_setCell_at W8 B7 6 _ _ _ hb8
        have hf9 : Fr (fun _ => False) wr W9 := by rw [HW9.out]; exact hf8.setCell _ (fun h => by have := HB7'.out; simp at h; omega) _
        have hm9 : W9.heap[M]? = some (.cells #[.int .i64 r.S.1, .int .i64 r.S.2] 220 (0, 0)) := by rw [HW9.out, heap_setCell_ne _ _ _ _ hMB.symm]; exact hm8
        have HFO : Hid (Found r r' ∧ MayAt W9 r' ∧ Fr (fun _ => False) wr W9 ∧ Box7 W9 B7 r') := ⟨by rw [HR'.out]; exact ⟨rfl, rfl, rfl, rfl, rfl, rfl, rfl, rfl, rfl⟩, by rw [HR'.out]; exact ⟨M, rfl, hm9⟩, hf9, hb9⟩
        have q2' := hb7.c.2.2.1
        have q3' := hb7.c.2.2.2.1
        obtain ⟨p0, p1, p2, p3, p4, p5, p6⟩ := hb9.c
        clear hb6 hf6 hb7 hf7 hb8 hf8 hb9 hf9 hm8 hm9 HW6 HW7 HW8 HW9 HM
        obtain ⟨L', hFL, hown, hmay, hfL⟩ := HR.out
        obtain ⟨inf, hi0, hz0, hz1, hz2⟩ := info_parts saga_info
        have hS' : ¬ r'.S.1 = 0 := by rw [HFO.out.1.2.2.2.2.1]; exact HSS.out.1
        have HAP : Hid ((W9.alloc (.cells #[.int .i64 r'.id, .slice r'.sa r'.st.length r'.sc, .int .i64 r'.S.1, .int .i64 r'.S.2, .int .i64 r'.tries, .int .i64 r'.due, .slice r'.ma r'.may.length r'.mc] 223)).ownsRow w1'.heap.size 223 7 (.slice ax i cx) i (rcells L') ∧ w1'.heap.size ≤ (W9.alloc (.cells #[.int .i64 r'.id, .slice r'.sa r'.st.length r'.sc, .int .i64 r'.S.1, .int .i64 r'.S.2, .int .i64 r'.tries, .int .i64 r'.due, .slice r'.ma r'.may.length r'.mc] 223)).heap.size ∧ (∀ j u, r'.cs[j]? = some u → (W9.alloc (.cells #[.int .i64 r'.id, .slice r'.sa r'.st.length r'.sc, .int .i64 r'.S.1, .int .i64 r'.S.2, .int .i64 r'.tries, .int .i64 r'.due, .slice r'.ma r'.may.length r'.mc] 223)).cell? ((⟨W9.heap.size, 0, none⟩ : Addr).add j) = some u) ∧
          (∀ w2 v2, w2.ownsRow w1'.heap.size 223 7 v2 (i + 1) (rcells L' ++ r'.cs) → (W9.alloc (.cells #[.int .i64 r'.id, .slice r'.sa r'.st.length r'.sc, .int .i64 r'.S.1, .int .i64 r'.S.2, .int .i64 r'.tries, .int .i64 r'.due, .slice r'.ma r'.may.length r'.mc] 223)).grownBy w2 (Value.slice ax i cx).ownBlock → FoI w1' L (i + 1) v2 w2 ∧ ∃ a2 c2, v2 = .slice a2 (i + 1) c2)) := by
          have hf9a : Fr (fun _ => False) wr (W9.alloc (.cells #[.int .i64 r'.id, .slice r'.sa r'.st.length r'.sc, .int .i64 r'.S.1, .int .i64 r'.S.2, .int .i64 r'.tries, .int .i64 r'.due, .slice r'.ma r'.may.length r'.mc] 223)) := HFO.out.2.2.1.alloc _
          have ho := own_fr2 hown hf9a (fun _ _ h => h)
          have hfa := hfL.trans hf9a (fun _ _ h => h)
          exact ⟨ho, hfa.size, World.news_of_block (cs := r'.cs.toArray) (heap_alloc_at W9 _), fun w2 v2 h2 hg => fo_step hFL ho (fun q hq => (hmay q hq).fr hf9a (fun _ _ _ h => h)) hfa HSS.out.2.2 HFO.out.1 (HFO.out.2.1.fr ((Fr.refl (fun _ => False) _).alloc _) (fun _ _ _ h => h)) w2 v2 h2 hg⟩
        clear hFL hown hmay hfL
        go_wp2_with (first
          | (refine wpList_store 3 (w' := W6) _ _ rfl rfl ?_ ?_; exact h6)
          | (refine wpList_store 3 (w' := W7) _ _ rfl rfl ?_ ?_; exact h7)
          | (refine wpList_store 221 (w' := W9) _ _ rfl rfl ?_ ?_; exact h9)
          | (at_builtin; refine wpList_append_own (W9.alloc (.cells #[.int .i64 r'.id, .slice r'.sa r'.st.length r'.sc, .int .i64 r'.S.1, .int .i64 r'.S.2, .int .i64 r'.tries, .int .i64 r'.due, .slice r'.ma r'.may.length r'.mc] 223)) rfl _ _ 107 rfl w1'.heap.size 223 inf _ 7 88 Tryz.underlying107 hi0 hz0 hz1 hz2 rfl (by decide) (.slice ax i cx) i (rcells L') rfl HAP.out.1 ⟨W9.heap.size, 0, none⟩ 1 1 r'.cs rfl ?_ HAP.out.2.2.1 r'.one ?_ ?_ HAP.out.2.1 ?_; (rw [r'.len]); (unfold maxLen; omega); omega; intro v2 w2 hown2 hgrow2 _; obtain ⟨hPI, a2, cx2, rfl⟩ := HAP.out.2.2.2 w2 v2 hown2 hgrow2; have HP2 : Hid (FoI w1' L (i + 1) (.slice a2 (i + 1) cx2) w2) := hPI; clear hown2 hgrow2 hPI p0 p1 p2 p3 p4 p5 p6))
        go_roundw
        case rel => exact ⟨i + 1, a2, cx2, by omega, rfl, by go_num, by go_num, HP2⟩
        case measure => simp [intOf]; omega
      · have hlt' : ¬ (i : Int) < L.length := by omega
        obtain rfl : i = L.length := by omega
        have hd := HD.out.fr hFr (fun h => h)
        clear c9
        have c3 := hd.c3
        have c4 := hd.c4
        have c5 := hd.c5
        have c6 := hd.c6
        have c7 := hd.c7
        have c8 := hd.c8
        have c9 := hd.c9
        have fz : ∀ j, wr.frozen? ⟨D, j, none⟩ = false := hd.fz
        have HX : Hid (LawAt wr D A Pp n nn x0 pause0 clock (.slice ao L.length cap) ∧ Fr (fun _ => False) w wr) := ⟨hd, hFr⟩
        clear hd hFr
        go_wp2
        go_ret
        obtain ⟨L', h1, h2, h3, h4⟩ := HR.out
        have e5 := HX.out.1.set5 (.pointer xp)
        have e6 := e5.set6 pause
        have e7 := e6.set7 0
        have e8 := e7.set8
        have e9 := e8.set9 (.slice ax L.length cx)
        have e3 := e9.set3 false
        have e4 := e3.set4
        rw [List.take_length] at h1
        have hfD : Fr (· = D) wr (((((((wr.setCell ⟨D, 5, none⟩ (.pointer xp)).setCell ⟨D, 6, none⟩ (.int .i64 pause)).setCell ⟨D, 7, none⟩ (.int .i64 0)).setCell ⟨D, 8, none⟩ (.bool false)).setCell ⟨D, 9, none⟩ (.slice ax L.length cx)).setCell ⟨D, 3, none⟩ (.bool false)).setCell ⟨D, 4, none⟩ (.bool false)) :=
          FrD.set (FrD.set (FrD.set (FrD.set (FrD.set (FrD.set (FrD.set (Fr.refl _ _)))))))
        have hDT : ∀ b c, wr.heap[b]? = some (.cells c 220 (0, 0)) → ¬ b = D := by
          intro b c hb e
          subst e
          have := HX.out.1.symm.trans hb
          simp at this
        refine ⟨rfl, _, L', e4, h1, own_base2 (own_fr2 h2 hfD ?_) HF1.out.size, fun q hq => (h3 q hq).fr hfD hDT, (HX.out.2.mono (fun _ _ h => h.elim)).trans hfD (fun _ _ h => h)⟩
        intro b hb e
        have := lt_of_heap HD.out
        have := HF1.out.size
        omega
end Go.Proofs.YteebjgfalllbjaaGreatDoor
namespace Go.Proofs.YteebjgfalllbjaaGreatDoor
open Go.RowKit

/-- Which number Submit answers with: of sagas L, on n blocks. -/
def SubK (L : List RS) (id : Int) (st : List SS) (n : Nat) (k : Int) : Prop :=
  (sagaOk id st = false ∧ k = 1) ∨ (sagaOk id st = true ∧ ∃ r ∈ L, r.id = id ∧ k = if r.st = st then 0 else 2) ∨ (sagaOk id st = true ∧ (∀ r ∈ L, r.id ≠ id) ∧ (k = 0 ∨ k = 3 ∧ n < roomNeed L st.length))
/-- The blocks that the script's own lists and disks lie in. -/
def Mine (t : TypeId) : Prop := t = 111 ∨ t = 48 ∨ t = 223 ∨ t = 220 ∨ t = 165 ∨ t = 58 ∨ t = 119
/-- A call of Submit leaves all that is the script's. -/
def EngQ (Post : Int → World → Prop) (S : Nat → Prop) (L : List RS) (id : Int) (st : List SS) (n : Nat) (w : World) (e : Ending) (w' : World) : Prop :=
  ∃ v k, e = .returned v ∧ ErrAt w' v k ∧ SubK L id st n k ∧ Post k w' ∧ Fr S w w'
/-- .. and what the script knows of its disk then. -/
def SubmQ (Post : Int → World → Prop) (L : List RS) (D A Pp n : Nat) (nn : Bool) (x : Value) (pause clock : Int) (Lv : Value) (bo : Option Addr) (cb : Nat) (id : Int) (st : List SS) (w : World) (e : Ending) (w' : World) : Prop :=
  e = .returned (.bool true) ∧ ∃ wS k g, Post k wS ∧ SubK L id st n k ∧ w.heap.size ≤ g ∧ (∃ cs, wS.heap[g]? = some (.cells cs 58 (0, 0))) ∧ Fr (fun b => b = D ∨ b = g) wS w' ∧
    ((LawAt w' D A Pp n nn x pause clock Lv ∧ ¬ (k = 0 ∧ ∀ r ∈ L, r.id ≠ id)) ∨
     (k = 0 ∧ (∀ r ∈ L, r.id ≠ id) ∧ ∃ j t v s, FindP L id j t ∧ LawAt w' D A Pp n nn x pause clock v ∧ w'.ownsRow w.heap.size 223 7 v (L.length + 1) (rcells (L.take j ++ s :: L.drop j)) ∧ s.id = id ∧ s.sa = bo ∧ s.sc = cb ∧ s.st = st ∧ s.S = (1, 1) ∧ s.tries = 0 ∧ s.due = 0 ∧ s.may = [(1, 1)] ∧ s.mc = 1 ∧ MayAt w' s))

theorem own_frT {S : Nat → Prop} {w w' : World} {base e size n : Nat} {v : Value} {xs : List Value} (h : w.ownsRow base e size v n xs) (hf : Fr S w w') (hS : ∀ b c, w.heap[b]? = some (.cells c e (0, 0)) → ¬ S b) : w'.ownsRow base e size v n xs := by
  refine ⟨h.1, ?_⟩
  rcases h.2 with hn | ⟨g, cap, cur, rfl, hb, hg, rest⟩
  · exact .inl hn
  · exact .inr ⟨g, cap, cur, rfl, hb, hf.keep hg (hS g cur hg), rest⟩
theorem exec_build2 {P : Program} {ρ : Operand → Value} {o : Oper} {w w' : World} {v : Value} (t : TypeId) (ps : Array (Nat × Operand)) (ho : o.op = .build t ps) (vs : Array (Nat × Value)) (hvs : (ps.map fun (i, x) => (i, ρ x)) = vs) (hr : (Instr.build t vs).run P w = .ok v w') : (execOp ρ o).run P w = .ok (.value v) w' := by
  simp only [execOp, ho, hvs, Sem.run_bind, hr, Result.andThen_ok, Sem.run_pure]
theorem law_range {w : World} {D A Pp n : Nat} {nn : Bool} {x Lv : Value} {pause clock : Int} (h : LawAt w D A Pp n nn x pause clock Lv) : w.rangeAt D 6 [.int .i64 pause, .int .i64 clock, .bool false, Lv] := by
  intro j v hv
  match j, hv with
  | 0, hv => simp at hv; subst hv; exact h.c6
  | 1, hv => simp at hv; subst hv; exact h.c7
  | 2, hv => simp at hv; subst hv; exact h.c8
  | 3, hv => simp at hv; subst hv; exact h.c9
/-- What the document says of a disk's sagas is stored. -/
theorem law_store {w : World} {D A Pp n : Nat} {nn : Bool} {x Lv : Value} {pause clock : Int} (v : Value) (h : LawAt w D A Pp n nn x pause clock Lv) (hv : v.oneCell' = true := by rfl) : (Instr.storeAt 109 (.pointer (some ⟨D, 6, none⟩)) (.agg #[.int .i64 pause, .int .i64 clock, .bool false, v])).run Tryz.prog w = .ok () (w.setRow D (lc A Pp n nn x pause clock v)) ∧ LawAt (w.setRow D (lc A Pp n nn x pause clock v)) D A Pp n nn x pause clock v := by
  have := run_storeAt_row (P := Tryz.prog) (o := 6) (ty := 109) (cur := (lc A Pp n nn x pause clock Lv).toList) (vs := [.int .i64 pause, .int .i64 clock, .bool false, v]) h (by simp [lc]) (by simpa [Value.oneCell'] using hv) (by kernel_rfl)
  exact ⟨this, setRow_heap _ _ _ _ _ _ h⟩
/-- Steps that nobody writes any more. -/
def StepsAt (w : World) (b : Nat) (sa : Option Addr) (sc : Nat) (st : List SS) : Prop := w.ownsRow b 165 2 (.slice sa st.length sc) st.length (scells st)
theorem StepsAt.rows {w : World} {b : Nat} {sa : Option Addr} {sc : Nat} {st : List SS} (h : StepsAt w b sa sc st) : RowsOf w sa 2 (st.map stv) :=
  rows_of_own h (fun x hx => by simp only [List.mem_map] at hx; obtain ⟨r, _, rfl⟩ := hx; rfl) (by simp)
theorem StepsAt.fr {S : Nat → Prop} {w w' : World} {b : Nat} {sa : Option Addr} {sc : Nat} {st : List SS} (h : StepsAt w b sa sc st) (hf : Fr S w w') (hS : ∀ b c, w.heap[b]? = some (.cells c 165 (0, 0)) → ¬ S b) : StepsAt w' b sa sc st := own_frT h hf hS
/-- The sagas of a disk of the script, by the document. -/
structure LAt (w : World) (b : Nat) (Lv : Value) (L : List RS) : Prop where
  o : w.ownsRow b 223 7 Lv L.length (rcells L)
  s : ∀ r ∈ L, StepsAt w b r.sa r.sc r.st
  m : ∀ r ∈ L, MayAt w r ∧ r.may = [r.S] ∧ r.mc = 1
  n : ∀ r ∈ L, r.st.length ≤ 100000
theorem LAt.fr {S : Nat → Prop} {w w' : World} {b : Nat} {Lv : Value} {L : List RS} (h : LAt w b Lv L) (hf : Fr S w w') (hS : ∀ b c t, w.heap[b]? = some (.cells c t (0, 0)) → t = 223 ∨ t = 165 ∨ t = 220 → ¬ S b) : LAt w' b Lv L :=
  ⟨own_frT h.o hf (fun b c hb => hS b c _ hb (.inl rfl)), fun r hr => (h.s r hr).fr hf (fun b c hb => hS b c _ hb (.inr (.inl rfl))), fun r hr => ⟨(h.m r hr).1.fr hf (fun b c hb => hS b c _ hb (.inr (.inr rfl))), (h.m r hr).2⟩, h.n⟩
theorem LAt.frz {w w' : World} {b : Nat} {Lv : Value} {L : List RS} (h : LAt w b Lv L) (hf : Fr (fun _ => False) w w') : LAt w' b Lv L := h.fr hf (fun _ _ _ _ _ h => h)
theorem LAt.sagas {w : World} {b : Nat} {ao : Option Addr} {cap : Nat} {L : List RS} (h : LAt w b (.slice ao L.length cap) L) : SagasAt w ao L :=
  ⟨rows_saga h.o, fun r hr => (h.s r hr).rows, fun r hr => by
    obtain ⟨⟨g, e, hg⟩, hm, _⟩ := h.m r hr
    rw [hm, e]
    intro i cs hi
    match i with
    | 0 =>
      simp at hi; subst hi
      exact ⟨g, 0, rfl, fun j v hv => by rw [cell_of_row w g _ _ _ _ hg]; simpa [spv] using hv⟩
    | i + 1 => simp at hi, fun r hr => by have := h.n r hr; omega⟩

set_option maxRecDepth 100000 in
set_option maxHeartbeats 8000000 in
theorem submitted_ok {Post : Int → World → Prop} {S : Nat → Prop} {w : World} {D A B n Pp b : Nat} {nn : Bool} {x : Value} {pause clock calls writes : Int} {ao bo : Option Addr} {cap cb : Nat} {L : List RS} {lo : Option Addr} {lm lcap : Nat} {pe pl pa : Value}
    (h : LawAt w D A Pp n nn x pause clock (.slice ao L.length cap)) (hdk : DiskAt w A B n (.slice none 0 0) calls writes) (hP : w.heap[Pp]? = some (.cells #[.slice lo lm lcap, pe, pl, pa] 48 (0, 0)))
    (hl : LAt w b (.slice ao L.length cap) L) (hn : L.length ≤ 100000) (hS : ∀ r ∈ L, r.S.1 ≠ 0) (hs : L.Pairwise (fun a b => a.id < b.id)) (hG : GOk w) (hgS : ¬ S 0)
    (id : Int) (st : List SS) (hst : StepsAt w b bo cb st) (hsl : st.length ≤ 100000)
    (hMine : ∀ b c t, w.heap[b]? = some (.cells c t (0, 0)) → Mine t → ¬ S b) (hSlt : ∀ b, S b → b < w.heap.size)
    (hE : ∀ (w1 : World) (g : Nat), Fr (fun _ => False) w w1 → w.heap.size ≤ g → w1.heap[g]? = some (.cells (scells (st ++ [bey, bey])).toArray 58 (0, 0)) → Calls Tryz.prog 21 #[x, .int .i64 id, .slice (some ⟨g, 0, none⟩) st.length (st.length + 2)] w1 fun e w' => EngQ Post S L id st n w1 e w') :
    Calls Tryz.prog 84 #[.pointer (some ⟨D, 0, none⟩), .int .i64 id, .slice bo st.length cb] w fun e w' => SubmQ Post L D A Pp n nn x pause clock (.slice ao L.length cap) bo cb id st w e w' := by
  have c6 := h.c6
  have c7 := h.c7
  have c8 := h.c8
  have c9 := h.c9
  have HD : Hid (LawAt w D A Pp n nn x pause clock (.slice ao L.length cap)) := h
  have HL : Hid (LAt w b (.slice ao L.length cap) L) := hl
  have HS0 : Hid (∀ r ∈ L, r.S.1 ≠ 0) := hS
  have HSO : Hid (L.Pairwise (fun a b => a.id < b.id)) := hs
  have HP : Hid (w.heap[Pp]? = some (.cells #[.slice lo lm lcap, pe, pl, pa] 48 (0, 0))) := hP
  have HM : Hid (∀ b c t, w.heap[b]? = some (.cells c t (0, 0)) → Mine t → ¬ S b) := hMine
  have HT : Hid (StepsAt w b bo cb st) := hst
  have HDK : Hid (DiskAt w A B n (.slice none 0 0) calls writes) := hdk
  have HEE := hE
  clear h hl hS hs hP hMine hst hdk hE
  go_enter Tryz.func84, Tryz.ntmps84
  go_wp2_with fail
  refine (rFind_ok (HL.out.sagas.r) (by omega) pause clock false id).mono ?_
  rintro e w1 ⟨k, t, rfl, hp, hf1⟩
  clear c6 c7 c8 c9
  have hd1 := HD.out.fr hf1 (fun h => h)
  have c9 := hd1.c9
  have c0 := hd1.c0
  have HD1 : Hid (LawAt w1 D A Pp n nn x pause clock (.slice ao L.length cap)) := hd1
  have HF1 : Hid (Fr (fun _ => False) w w1) := hf1
  have HFP : Hid (FindP L id k t) := hp
  have hdk1 := HDK.out.fr hf1 (fun h => h)
  have HA : Hid (∀ r, L[k]? = some r → ∃ g off, ao = some ⟨g, off, none⟩ ∧ w1.cell? ⟨g, off + k * 7 + 2, none⟩ = some (.int .i64 r.S.1)) := fun r hr => by
    obtain ⟨g, off, e, hrg⟩ := HL.out.sagas.get hr
    exact ⟨g, off, e, (range_fr hrg HF1.out) 2 _ rfl⟩
  have hft : t = true → ∃ r, L[k]? = some r ∧ r.id = id := (sorted_find HSO.out hp).1
  have hff : t = false → ∀ r ∈ L, r.id ≠ id := (sorted_find HSO.out hp).2
  have HFF : Hid (t = false → ∀ r ∈ L, r.id ≠ id) := hff
  clear hd1 hf1 hp hff
  have c1 := HD1.out.c1
  have p0 : w1.cell? ⟨Pp, 0, none⟩ = some (.slice lo lm lcap) := (cell_of_row w1 Pp 0 _ _ _ (HF1.out.keep HP.out (fun h => h))).trans rfl
  have HK1 : Hid (DiskAt w1 A B n (.slice none 0 0) calls writes) := hdk1
  clear hdk1
  cases t
  · have HNO : Hid (∀ r ∈ L, r.id ≠ id) := HFF.out rfl
    clear hft HFF
    go_wp2_with fail
    refine (dTold_ok HK1.out).mono ?_
    rintro e w1a ⟨rfl, hw⟩
    rw [hw]
    clear hw
    go_wp2_with fail
    refine (lsteps_ok (HT.out.rows.frz HF1.out) (by omega)).mono ?_
    rintro e w2 ⟨g, rfl, hg, hrow, hf2⟩
    have hF2 := HF1.out.trans hf2 (fun _ _ h => h)
    have hgw : w.heap.size ≤ g := Nat.le_trans HF1.out.size hg
    have c5 := (HD.out.fr hF2 (fun h => h)).c5
    have HROW : Hid (w2.heap[g]? = some (.cells (scells (st ++ [bey, bey])).toArray 58 (0, 0))) := hrow
    have HF2 : Hid (Fr (fun _ => False) w w2) := hF2
    clear c0 c1 c9 p0 hg hf2 hF2 hrow
    go_wp2_with fail
    refine (HEE w2 g HF2.out hgw HROW.out).mono ?_
    rintro e w3 ⟨v, kk, rfl, hv, hk, hpost, hfS⟩
    have hSD : ¬ S D := HM.out _ _ _ HD.out (.inl rfl)
    have hSP : ¬ S Pp := HM.out _ _ _ HP.out (.inr (.inl rfl))
    have hSg : ¬ S g := fun h => by have := hSlt g h; omega
    have hM2 : ∀ b c t, w2.heap[b]? = some (.cells c t (0, 0)) → Mine t → ¬ S b := fun b c t hb ht h => by
      have := hSlt b h
      rw [HF2.out.block b this (fun h => h)] at hb
      exact HM.out b c t hb ht h
    have HD3 : Hid (LawAt w3 D A Pp n nn x pause clock (.slice ao L.length cap)) := (HD.out.fr HF2.out (fun h => h)).fr hfS hSD
    have HT3 : Hid (StepsAt w3 b bo cb st) := (HT.out.fr HF2.out (fun _ _ _ h => h)).fr hfS (fun b c hb => hM2 b c _ hb (.inr (.inr (.inr (.inr (.inl rfl))))))
    have HL3 : Hid (LAt w3 b (.slice ao L.length cap) L) := (HL.out.frz HF2.out).fr hfS (fun b c t hb ht => hM2 b c t hb (by rcases ht with h | h | h <;> subst h <;> simp [Mine]))
    have HR3 : Hid (w3.heap[g]? = some (.cells (scells (st ++ [bey, bey])).toArray 58 (0, 0))) := hfS.keep HROW.out hSg
    have HG3 : Hid (GOk w3) := (hG.fr HF2.out (fun h => h)).fr hfS hgS
    have HP3 : Hid (w3.heap[Pp]? = some (.cells #[.slice lo lm lcap, pe, pl, pa] 48 (0, 0))) := hfS.keep (HF2.out.keep HP.out (fun h => h)) hSP
    have HPO : Hid (Post kk w3 ∧ SubK L id st n kk) := ⟨hpost, hk⟩
    have hv1 := hv.one
    have HX3 : Hid (Fr S w2 w3) := hfS
    clear c5 hSD hSP hSg hM2 hfS hpost hk HEE
    go_wp2_with fail
    refine (still_ok HT3.out.rows (by omega) HR3.out).mono ?_
    rintro e w4 ⟨rfl, hf4⟩
    have hv4 : ErrAt w4 v kk := hv.fr hf4 (fun b c hb e => by subst e; rw [HR3.out] at hb; simp at hb)
    have hgG : ¬ 0 = g := by
      intro e
      have h1 := World.block_lt_of_cell? w _ hG
      simp only at h1
      omega
    have hG4 : GOk w4 := HG3.out.fr hf4 hgG
    have HF4 : Hid (Fr (· = g) w3 w4) := hf4
    clear hv hf4 hgG
    go_wp2_with fail
    refine (Told_any hv4 hG4).mono ?_
    rintro e w5 ⟨rfl, hf5⟩
    go_wp2_with fail
    refine (num_ok kk _).mono ?_
    rintro e w5a ⟨rfl, hw⟩
    rw [hw]
    clear hw
    have HF5 : Hid (Fr (· = g) w3 w5) := HF4.out.trans (hf5.mono (fun _ _ h => h.elim)) (fun _ _ h => h)
    have hDg : ¬ D = g := fun e => by have := lt_of_heap HD.out; omega
    have hPg : ¬ Pp = g := fun e => by have := lt_of_heap HP.out; omega
    have hTg : ∀ b c t, w3.heap[b]? = some (.cells c t (0, 0)) → t = 223 ∨ t = 165 ∨ t = 220 → ¬ b = g := fun b c t hb ht e => by
      subst e; rw [HR3.out] at hb; rcases ht with h | h | h <;> subst h <;> simp at hb
    have HD5 : Hid (LawAt w5 D A Pp n nn x pause clock (.slice ao L.length cap)) := HD3.out.fr HF5.out hDg
    have HT5 : Hid (StepsAt w5 b bo cb st) := HT3.out.fr HF5.out (fun b c hb => hTg b c _ hb (.inr (.inl rfl)))
    have HL5 : Hid (LAt w5 b (.slice ao L.length cap) L) := HL3.out.fr HF5.out hTg
    have HP5 : Hid (w5.heap[Pp]? = some (.cells #[.slice lo lm lcap, pe, pl, pa] 48 (0, 0))) := HF5.out.keep HP3.out hPg
    have d6 := HD5.out.c6
    have d7 := HD5.out.c7
    have d8 := HD5.out.c8
    have d9 := HD5.out.c9
    clear hv4 hG4 hf5 hDg hPg hTg
    go_wp2_with fail
    refine (rSubmits_ok HL5.out.sagas (by omega) HT5.out.rows pause clock false id).mono ?_
    rintro e w6 ⟨k2, t2, hp2, he, hf6⟩
    have HF6 : Hid (Fr (· = g) w3 w6) := HF5.out.trans (hf6.mono (fun _ _ h => h.elim)) (fun _ _ h => h)
    have HD6 : Hid (LawAt w6 D A Pp n nn x pause clock (.slice ao L.length cap)) := HD5.out.fr hf6 (fun h => h)
    have HL6 : Hid (LAt w6 b (.slice ao L.length cap) L) := HL5.out.frz hf6
    have HT6 : Hid (StepsAt w6 b bo cb st) := HT5.out.fr hf6 (fun _ _ _ h => h)
    have e1 := HD6.out.c1
    have z0 : w6.cell? ⟨Pp, 0, none⟩ = some (.slice lo lm lcap) := (cell_of_row w6 Pp 0 _ _ _ (hf6.keep HP5.out (fun h => h))).trans rfl
    have he' := he (match L[k2]? with | some r => decide (r.st = st) | none => false) (by intro r hr; rw [hr])
    have hft2 := sorted_find HSO.out hp2
    have HEND : Hid (∀ (w' : World), Fr (fun b => b = D ∨ b = g) w3 w' → Post kk w3 ∧ SubK L id st n kk ∧ w.heap.size ≤ g ∧ (∃ cs, w3.heap[g]? = some (.cells cs 58 (0, 0))) ∧ Fr (fun b => b = D ∨ b = g) w3 w') := fun w' hf => ⟨HPO.out.1, HPO.out.2, hgw, ⟨_, HR3.out⟩, hf⟩
    clear d6 d7 d8 d9 he hf6
    have ht2 : t2 = false := by
      cases t2
      · rfl
      · obtain ⟨r, hr, hid⟩ := hft2.1 rfl
        exact absurd hid (HNO.out r (List.mem_of_getElem? hr))
    subst ht2
    clear hft2
    rcases HPO.out.2 with ⟨hok, hkk⟩ | ⟨hok, r, hr, hid, _⟩ | ⟨hok, _, hkk | ⟨hkk, hroom⟩⟩
    · subst hkk
      rw [hok] at he'
      subst he'
      have HNEW : Hid (¬ ((1 : Int) = 0 ∧ ∀ r ∈ L, r.id ≠ id)) := fun h => by cases h.1
      simp only [subsOf]
      clear hok
      go_wp2
      go_ret
      obtain ⟨x1, x2, x3, x4, x5⟩ := HEND.out _ (HF6.out.mono (fun _ _ h => .inr h))
      exact ⟨rfl, w3, _, g, x1, x2, x3, x4, x5, .inl ⟨HD6.out, HNEW.out⟩⟩
    · exact absurd hid (HNO.out r hr)
    · subst hkk
      rw [hok] at he'
      subst he'
      simp only [subsOf]
      clear hok
      have d6 := HD6.out.c6
      have d7 := HD6.out.c7
      have d8 := HD6.out.c8
      have d9 := HD6.out.c9
      go_wp2_with fail
      obtain ⟨W7, HW7⟩ : ∃ W7, Hid (W7 = w6.alloc (.cells #[.int .i64 1, .int .i64 1] 220)) := ⟨_, rfl⟩
      obtain ⟨B2, HB2⟩ : ∃ B2, Hid (B2 = w6.heap.size) := ⟨_, rfl⟩
      have hf7 : Fr (fun _ => False) w6 W7 := by rw [HW7.out]; exact (Fr.refl _ _).alloc _
      have hb7 : W7.heap[B2]? = some (.cells #[.int .i64 1, .int .i64 1] 220 (0, 0)) := by rw [HW7.out, HB2.out]; exact heap_alloc_at _ _
      rw [← HW7.out, ← HB2.out]
      clear d6 d7 d8 d9 HW7 HB2 e1 z0
      have hd7 := HD6.out.fr hf7 (fun h => h)
      have d6 := hd7.c6
      have d7 := hd7.c7
      have d8 := hd7.c8
      have d9 := hd7.c9
      have i0 : W7.cell? ⟨B2, 0, none⟩ = some (.int .i64 1) := (cell_of_row W7 B2 0 _ _ _ hb7).trans rfl
      have i1 : W7.cell? ⟨B2, 1, none⟩ = some (.int .i64 1) := (cell_of_row W7 B2 1 _ _ _ hb7).trans rfl
      obtain ⟨W8, HW8⟩ : ∃ W8, Hid (W8 = W7.drew) := ⟨_, rfl⟩
      obtain ⟨M2, HM2⟩ : ∃ M2, Hid (M2 = W8.heap.size) := ⟨_, rfl⟩
      obtain ⟨W9, HW9⟩ : ∃ W9, Hid (W9 = W8.alloc (.cells #[.int .i64 1, .int .i64 1] 220)) := ⟨_, rfl⟩
      have hf8 : Fr (fun _ => False) w6 W8 := by rw [HW8.out]; exact hf7.drew
      have hf9 : Fr (fun _ => False) w6 W9 := by rw [HW9.out]; exact hf8.alloc _
      have hm9 : W9.heap[M2]? = some (.cells #[.int .i64 1, .int .i64 1] 220 (0, 0)) := by rw [HW9.out, HM2.out]; exact heap_alloc_at W8 _
      have h9 : (Instr.buildSlice 221 1 #[(0, .agg #[.int .i64 1, .int .i64 1])]).run Tryz.prog W8 = .ok (.slice (some ⟨M2, 0, none⟩) 1 1) W9 := by
        obtain ⟨inf, hi0, hz0, hz1, _⟩ := info_parts state_info
        rw [HW9.out, HM2.out]
        exact run_buildSlice_one W8 221 220 inf _ _ Tryz.underlying221 hi0 hz0 (by rw [hz1]; rfl) (by omega) (by omega)
      have hb8 : W8.heap[B2]? = some (.cells #[.int .i64 1, .int .i64 1] 220 (0, 0)) := by rw [HW8.out]; exact hb7
      have hb9 : W9.heap[B2]? = some (.cells #[.int .i64 1, .int .i64 1] 220 (0, 0)) := by rw [HW9.out, heap_alloc_lt _ _ _ (lt_of_heap hb8)]; exact hb8
      let S2 : World → Prop := fun w' => w'.rangeAt B2 0 [.int .i64 1, .int .i64 1]
      have hS : S2 W8 := fun j v hv => by rw [cell_of_row W8 B2 _ _ _ _ hb8]; simpa using hv
      have hS9 : S2 W9 := fun j v hv => by rw [cell_of_row W9 B2 _ _ _ _ hb9]; simpa using hv
      have hd8 := HD6.out.fr hf8 (fun h => h)
      have hd9 := HD6.out.fr hf9 (fun h => h)
      have hr8 : W8.rangeAt D 6 [.int .i64 pause, .int .i64 clock, .bool false, .slice ao L.length cap] := law_range hd8
      have hr9 : W9.rangeAt D 6 [.int .i64 pause, .int .i64 clock, .bool false, .slice ao L.length cap] := law_range hd9
      have ho9 := own_fr2 HL6.out.o hf9 (fun _ _ h => h)
      have hw := rWith_ok ho9 (by omega) pause clock false ⟨id, bo, cb, st, (1, 1), 0, 0, some ⟨M2, 0, none⟩, 1, [(1, 1)]⟩
      have hB2D : B2 ≠ D := fun e => by subst e; have := hb9.symm.trans hd9; simp at this
      have hMD : ¬ M2 = D := fun e => by subst e; have := hm9.symm.trans hd9; simp at this
      have HL9 : Hid (Fr (fun _ => False) w6 W9 ∧ W9.heap[M2]? = some (.cells #[.int .i64 1, .int .i64 1] 220 (0, 0)) ∧ LawAt W9 D A Pp n nn x pause clock (.slice ao L.length cap) ∧ w.heap.size ≤ W9.heap.size) := ⟨hf9, hm9, hd9, Nat.le_trans (Nat.le_trans HF2.out.size (Nat.le_trans HX3.out.size HF6.out.size)) hf9.size⟩
      clear hf7 hb7 hd7 hf8 hf9 hm9 hb8 hb9 hd8 hd9 ho9 d6 d7 d8 d9 i0 i1 HM2 HW9
      have hlift : Tryz.prog.follows .mixedOrders = true := by kernel_rfl
      refine wp_region_held (S := S2) hlift ?_
      change wpAnyH _ _ _ _ S2 _ _ _ (World.drew _)
      rw [show W7.drew = W8 from HW8.out.symm]
      refine wpAnyH_take (S := S2) (i := 0) (oi := ⟨some 208, .move (.tmp 0), _, _, _, none⟩) (v := .pointer (some ⟨D, 0, none⟩)) rfl (by kernel_rfl) (by kernel_rfl) (by kernel_rfl) (fun _ _ _ h => h) (Or.inl ⟨rfl, fun _ _ => rfl⟩) hS ?_
      simp only [Act.put, List.setIfInBounds_toArray, List.set_cons_zero, List.set_cons_succ]
      refine wpAnyH_take (S := S2) (i := 1) (oi := ⟨some 209, .move (.tmp 0), _, _, _, none⟩) (v := .pointer (some ⟨D, 0, none⟩)) rfl (by kernel_rfl) (by kernel_rfl) (by kernel_rfl) (fun _ _ _ h => h) (Or.inl ⟨rfl, fun _ _ => rfl⟩) hS ?_
      simp only [Act.put, List.setIfInBounds_toArray, List.set_cons_zero, List.set_cons_succ]
      refine wpAnyH_take (S := S2) (i := 2) (oi := ⟨some 210, .nilCheck (.tmp 209), _, _, _, none⟩) (v := .pointer (some ⟨D, 0, none⟩)) rfl (by kernel_rfl) (by kernel_rfl) (by kernel_rfl) (fun _ _ _ h => h) (Or.inl ⟨rfl, fun _ _ => rfl⟩) hS ?_
      simp only [Act.put, List.setIfInBounds_toArray, List.set_cons_zero, List.set_cons_succ]
      refine wpAnyH_take (S := S2) (i := 3) (oi := ⟨some 211, .fieldAddr 111 (.tmp 210) 6, _, _, _, none⟩) (v := .pointer (some ⟨D, 6, none⟩)) rfl (by kernel_rfl) (by kernel_rfl) (by kernel_rfl) (fun _ _ _ h => h) (Or.inl ⟨rfl, fun _ _ => by kernel_rfl⟩) hS ?_
      simp only [Act.put, List.setIfInBounds_toArray, List.set_cons_zero, List.set_cons_succ]
      refine wpAnyH_take (S := S2) (i := 5) (oi := ⟨some 213, .move (.tmp 1), _, _, _, none⟩) (v := .int .i64 id) rfl (by kernel_rfl) (by kernel_rfl) (by kernel_rfl) (fun _ _ _ h => h) (Or.inl ⟨rfl, fun _ _ => rfl⟩) hS ?_
      simp only [Act.put, List.setIfInBounds_toArray, List.set_cons_zero, List.set_cons_succ]
      refine wpAnyH_take (S := S2) (i := 6) (oi := ⟨some 214, .move (.tmp 2), _, _, _, none⟩) (v := .slice bo st.length cb) rfl (by kernel_rfl) (by kernel_rfl) (by kernel_rfl) (fun _ _ _ h => h) (Or.inl ⟨rfl, fun _ _ => rfl⟩) hS ?_
      simp only [Act.put, List.setIfInBounds_toArray, List.set_cons_zero, List.set_cons_succ]
      refine wpAnyH_take (S := S2) (i := 7) (oi := ⟨some 215, .load 220 (.tmp 21), _, _, _, none⟩) (v := .agg #[.int .i64 1, .int .i64 1]) rfl (by kernel_rfl) (by kernel_rfl) (by kernel_rfl) (fun _ _ _ h => h) (Or.inl ⟨rfl, fun w' hs => exec_load 220 (.tmp 21) rfl ⟨B2, 0, none⟩ rfl (run_loadAt_mid w' B2 0 220 [.int .i64 1, .int .i64 1] _ hs Tryz.underlying220 rfl (by kernel_rfl))⟩) hS ?_
      simp only [Act.put, List.setIfInBounds_toArray, List.set_cons_zero, List.set_cons_succ]
      refine wpAnyH_take (S := S2) (i := 8) (oi := ⟨some 216, .load 220 (.tmp 21), _, _, _, none⟩) (v := .agg #[.int .i64 1, .int .i64 1]) rfl (by kernel_rfl) (by kernel_rfl) (by kernel_rfl) (fun _ _ _ h => h) (Or.inl ⟨rfl, fun w' hs => exec_load 220 (.tmp 21) rfl ⟨B2, 0, none⟩ rfl (run_loadAt_mid w' B2 0 220 [.int .i64 1, .int .i64 1] _ hs Tryz.underlying220 rfl (by kernel_rfl))⟩) hS ?_
      simp only [Act.put, List.setIfInBounds_toArray, List.set_cons_zero, List.set_cons_succ]
      refine wpAnyH_all (rs := [4, 9]) (by kernel_rfl) (by simp) ?_
      intro i49 hi49
      obtain rfl | rfl : i49 = 4 ∨ i49 = 9 := by simpa using hi49
      case' inl =>
        refine wpOp_value (o := ⟨some 212, .load 109 (.tmp 211), _, _, _, none⟩) (v := .agg #[.int .i64 pause, .int .i64 clock, .bool false, .slice ao L.length cap]) (w' := W8) rfl rfl (exec_load 109 (.tmp 211) rfl ⟨D, 6, none⟩ rfl (run_loadAt_mid W8 D 6 109 [.int .i64 pause, .int .i64 clock, .bool false, .slice ao L.length cap] _ hr8 Tryz.underlying109 rfl (by kernel_rfl))) ⟨hS, ?_⟩
        simp only [Act.put, List.setIfInBounds_toArray, List.set_cons_zero, List.set_cons_succ]
        refine wpAnyH_all (rs := [9]) (by kernel_rfl) (by simp) ?_
        intro i9 hi9
        obtain rfl : i9 = 9 := by simpa using hi9
        refine wpOp_value (o := ⟨some 217, .buildSlice 221 1 #[(0, .tmp 216)], _, _, _, none⟩) (v := .slice (some ⟨M2, 0, none⟩) 1 1) (w' := W9) rfl rfl (exec_buildSlice 221 1 _ rfl #[(0, .agg #[.int .i64 1, .int .i64 1])] (by kernel_rfl) h9) ⟨hS9, ?_⟩
        simp only [Act.put, List.setIfInBounds_toArray, List.set_cons_zero, List.set_cons_succ]
        refine wpAnyH_take (S := S2) (i := 10) (oi := ⟨some 218, .build 223 #[(0, .tmp 213), (1, .tmp 214), (2, .tmp 215), (5, .tmp 217)], _, _, _, none⟩) (v := .agg #[.int .i64 id, .slice bo st.length cb, .int .i64 1, .int .i64 1, .int .i64 0, .int .i64 0, .slice (some ⟨M2, 0, none⟩) 1 1]) rfl (by kernel_rfl) (by kernel_rfl) (by kernel_rfl) (fun _ _ _ h => h) (Or.inl ⟨rfl, fun _ _ => exec_build2 223 _ rfl #[(0, .int .i64 id), (1, .slice bo st.length cb), (2, .agg #[.int .i64 1, .int .i64 1]), (5, .slice (some ⟨M2, 0, none⟩) 1 1)] (by kernel_rfl) (by kernel_rfl)⟩) hS9 ?_
        simp only [Act.put, List.setIfInBounds_toArray, List.set_cons_zero, List.set_cons_succ]
      case' inr =>
        refine wpOp_value (o := ⟨some 217, .buildSlice 221 1 #[(0, .tmp 216)], _, _, _, none⟩) (v := .slice (some ⟨M2, 0, none⟩) 1 1) (w' := W9) rfl rfl (exec_buildSlice 221 1 _ rfl #[(0, .agg #[.int .i64 1, .int .i64 1])] (by kernel_rfl) h9) ⟨hS9, ?_⟩
        simp only [Act.put, List.setIfInBounds_toArray, List.set_cons_zero, List.set_cons_succ]
        refine wpAnyH_take (S := S2) (i := 10) (oi := ⟨some 218, .build 223 #[(0, .tmp 213), (1, .tmp 214), (2, .tmp 215), (5, .tmp 217)], _, _, _, none⟩) (v := .agg #[.int .i64 id, .slice bo st.length cb, .int .i64 1, .int .i64 1, .int .i64 0, .int .i64 0, .slice (some ⟨M2, 0, none⟩) 1 1]) rfl (by kernel_rfl) (by kernel_rfl) (by kernel_rfl) (fun _ _ _ h => h) (Or.inl ⟨rfl, fun _ _ => exec_build2 223 _ rfl #[(0, .int .i64 id), (1, .slice bo st.length cb), (2, .agg #[.int .i64 1, .int .i64 1]), (5, .slice (some ⟨M2, 0, none⟩) 1 1)] (by kernel_rfl) (by kernel_rfl)⟩) hS9 ?_
        simp only [Act.put, List.setIfInBounds_toArray, List.set_cons_zero, List.set_cons_succ]
        refine wpAnyH_all (rs := [4]) (by kernel_rfl) (by simp) ?_
        intro i4 hi4
        obtain rfl : i4 = 4 := by simpa using hi4
        refine wpOp_value (o := ⟨some 212, .load 109 (.tmp 211), _, _, _, none⟩) (v := .agg #[.int .i64 pause, .int .i64 clock, .bool false, .slice ao L.length cap]) (w' := W9) rfl rfl (exec_load 109 (.tmp 211) rfl ⟨D, 6, none⟩ rfl (run_loadAt_mid W9 D 6 109 [.int .i64 pause, .int .i64 clock, .bool false, .slice ao L.length cap] _ hr9 Tryz.underlying109 rfl (by kernel_rfl))) ⟨hS9, ?_⟩
        simp only [Act.put, List.setIfInBounds_toArray, List.set_cons_zero, List.set_cons_succ]
      all_goals
        refine wpAnyH_all (rs := [11]) (by kernel_rfl) (by simp) ?_
        intro i11 hi11
        obtain rfl : i11 = 11 := by simpa using hi11
        refine wpOp_call (o := ⟨some 219, .call { callee := .value (.func 127), args := #[.tmp 212, .tmp 218], argTypes := _ }, _, _, _, none⟩) (f := 127) (args := #[.agg #[.int .i64 pause, .int .i64 clock, .bool false, .slice ao L.length cap], .agg #[.int .i64 id, .slice bo st.length cb, .int .i64 1, .int .i64 1, .int .i64 0, .int .i64 0, .slice (some ⟨M2, 0, none⟩) 1 1]]) rfl rfl (by kernel_rfl) ?_
        refine hw.mono ?_
        rintro e wA ⟨j, t3, v3, rfl, hp3, ho3, hfA⟩
        have hSA : S2 wA := range_fr hS9 hfA
        have hlA := HL9.out.2.2.1.fr hfA (fun h => h)
        obtain ⟨a3, c3, rfl, -, -⟩ := own_shape ho3
        obtain ⟨hstD, hlB⟩ := law_store (.slice a3 (L.length + 1) c3) hlA
        obtain ⟨wB, HWB⟩ : ∃ wB, Hid (wB = wA.setRow D (lc A Pp n nn x pause clock (.slice a3 (L.length + 1) c3))) := ⟨_, rfl⟩
        rw [← HWB.out] at hstD hlB
        have hfB : Fr (· = D) wA wB := by rw [HWB.out]; exact (Fr.refl (fun x => x = D) _).setRow _ (fun _ => rfl) _
        have hSB : S2 wB := fun j v hv => hfB.cell (hSA j v hv) (fun e => hB2D e)
        refine ⟨_, rfl, hSA, ?_⟩
        simp only [Act.put, List.setIfInBounds_toArray, List.set_cons_zero, List.set_cons_succ]
        refine wpAnyH_take (S := S2) (i := 12) (oi := ⟨some 220, .nilCheck (.tmp 208), _, _, _, none⟩) (v := .pointer (some ⟨D, 0, none⟩)) rfl (by kernel_rfl) (by kernel_rfl) (by kernel_rfl) (fun _ _ _ h => h) (Or.inl ⟨rfl, fun _ _ => rfl⟩) hSA ?_
        simp only [Act.put, List.setIfInBounds_toArray, List.set_cons_zero, List.set_cons_succ]
        refine wpAnyH_take (S := S2) (i := 13) (oi := ⟨some 221, .fieldAddr 111 (.tmp 220) 6, _, _, _, none⟩) (v := .pointer (some ⟨D, 6, none⟩)) rfl (by kernel_rfl) (by kernel_rfl) (by kernel_rfl) (fun _ _ _ h => h) (Or.inl ⟨rfl, fun _ _ => by kernel_rfl⟩) hSA ?_
        simp only [Act.put, List.setIfInBounds_toArray, List.set_cons_zero, List.set_cons_succ]
        refine wpAnyH_all (rs := [14]) (by kernel_rfl) (by simp) ?_
        intro i14 hi14
        obtain rfl : i14 = 14 := by simpa using hi14
        refine wpOp_skip (o := ⟨none, .store 109 (.tmp 221) (.tmp 219), _, _, _, none⟩) (w' := wB) rfl rfl (exec_store 109 _ _ rfl ⟨D, 6, none⟩ _ rfl rfl hstD) ⟨hSB, ?_⟩
        simp only [Act.put]
        refine wpAnyH_done (by kernel_rfl) ?_ _
        have HFIN : Hid (FindP L id j t3 ∧ LawAt wB D A Pp n nn x pause clock (.slice a3 (L.length + 1) c3) ∧ wB.ownsRow w.heap.size 223 7 (.slice a3 (L.length + 1) c3) (L.length + 1) (rcells (L.take j ++ ⟨id, bo, cb, st, (1, 1), 0, 0, some ⟨M2, 0, none⟩, 1, [(1, 1)]⟩ :: L.drop j)) ∧ MayAt wB ⟨id, bo, cb, st, (1, 1), 0, 0, some ⟨M2, 0, none⟩, 1, [(1, 1)]⟩ ∧ Fr (fun b => b = D ∨ b = g) w3 wB) := by
          refine ⟨hp3, hlB, own_base2 (own_fr2 ho3 hfB (fun b hb e => by have := lt_of_heap HD.out; have := HL9.out.2.2.2; omega)) HL9.out.2.2.2, ⟨M2, rfl, hfB.keep (hfA.keep HL9.out.2.1 (fun h => h)) hMD⟩, ?_⟩
          exact ((HF6.out.mono (fun _ _ h => .inr h)).trans (HL9.out.1.mono (fun _ _ h => h.elim)) (fun _ _ h => h)).trans ((hfA.mono (fun _ _ h => h.elim)).trans (hfB.mono (fun _ _ h => .inl h)) (fun _ _ h => h)) (fun _ _ h => h)
        clear hw h9 hr8 hr9 hS hS9 hSA hSB hlA hlB hfA hfB hp3 ho3 hstD HWB
        go_wp2
        go_ret
        obtain ⟨x1, x2, x3, x4, x5⟩ := HEND.out _ HFIN.out.2.2.2.2
        exact ⟨rfl, w3, 0, g, x1, x2, x3, x4, x5, .inr ⟨rfl, HNO.out, j, t3, _, _, HFIN.out.1, HFIN.out.2.1, HFIN.out.2.2.1, rfl, rfl, rfl, rfl, rfl, rfl, rfl, rfl, rfl, HFIN.out.2.2.2.1⟩⟩
    · subst hkk
      rw [hok] at he'
      subst he'
      have HNEW : Hid (¬ ((3 : Int) = 0 ∧ ∀ r ∈ L, r.id ≠ id)) := fun h => by cases h.1
      simp only [subsOf]
      have d2 := HD6.out.c2
      have d6 := HD6.out.c6
      have d7 := HD6.out.c7
      have d8 := HD6.out.c8
      have d9 := HD6.out.c9
      have HRM : Hid (decide (roomNeed L st.length ≤ n) = false) := by simp [Hid]; omega
      clear hok hroom
      go_wp2_with fail
      refine wp_region_still_tail 10 (by kernel_rfl) (by kernel_rfl) (Bx.out ?_)
      simp only [List.take_succ_cons, List.take_zero, List.drop_succ_cons, List.drop_zero]
      repeat (refine bx_step (fun K hK => ?_); go_simp; refine hK _ ?_; clear hK K)
      refine bx_nil ?_
      go_wp2_with fail
      refine (rRoom_ok (w := w6.drew) HL6.out.sagas.r (by omega) (fun r hr => by have := HL6.out.n r hr; omega) pause clock false n st.length (by omega)).mono ?_
      rintro e w7 ⟨rfl, hf7⟩
      rw [HRM.out]
      have HF7 : Hid (Fr (· = g) w3 w7) := HF6.out.drew.trans (hf7.mono (fun _ _ h => h.elim)) (fun _ _ h => h)
      have HD7 : Hid (LawAt w7 D A Pp n nn x pause clock (.slice ao L.length cap)) := LawAt.fr (w := w6.drew) HD6.out hf7 (fun h => h)
      clear d2 d6 d7 d8 d9 e1 z0 hf7
      go_wp2
      go_ret
      obtain ⟨x1, x2, x3, x4, x5⟩ := HEND.out _ (HF7.out.mono (fun _ _ h => .inr h))
      exact ⟨rfl, w3, _, g, x1, x2, x3, x4, x5, .inl ⟨HD7.out, HNEW.out⟩⟩
  · obtain ⟨r, hr, hrid⟩ := hft rfl
    have hr0 := HS0.out r (List.mem_of_getElem? hr)
    have hkl : (k : Int) < L.length := by have := (List.getElem?_eq_some_iff.1 hr).1; omega
    obtain ⟨g0, off, hao, c2⟩ := HA.out r hr
    have HRR : Hid (L[k]? = some r ∧ r.id = id) := ⟨hr, hrid⟩
    have HAO : Hid (ao = some ⟨g0, off, none⟩) := hao
    rw [hao] at c9
    clear hft hrid hr hao HFF
    go_wp2_with fail
    refine (dTold_ok HK1.out).mono ?_
    rintro e w1a ⟨rfl, hw⟩
    rw [hw]
    clear hw
    go_wp2_with fail
    refine (lsteps_ok (HT.out.rows.frz HF1.out) (by omega)).mono ?_
    rintro e w2 ⟨g, rfl, hg, hrow, hf2⟩
    have hF2 := HF1.out.trans hf2 (fun _ _ h => h)
    have hgw : w.heap.size ≤ g := Nat.le_trans HF1.out.size hg
    have c5 := (HD.out.fr hF2 (fun h => h)).c5
    have HROW : Hid (w2.heap[g]? = some (.cells (scells (st ++ [bey, bey])).toArray 58 (0, 0))) := hrow
    have HF2 : Hid (Fr (fun _ => False) w w2) := hF2
    clear c0 c1 c9 p0 hg hf2 hF2 hrow c2
    go_wp2_with fail
    refine (HEE w2 g HF2.out hgw HROW.out).mono ?_
    rintro e w3 ⟨v, kk, rfl, hv, hk, hpost, hfS⟩
    have hSD : ¬ S D := HM.out _ _ _ HD.out (.inl rfl)
    have hSP : ¬ S Pp := HM.out _ _ _ HP.out (.inr (.inl rfl))
    have hSg : ¬ S g := fun h => by have := hSlt g h; omega
    have hM2 : ∀ b c t, w2.heap[b]? = some (.cells c t (0, 0)) → Mine t → ¬ S b := fun b c t hb ht h => by
      have := hSlt b h
      rw [HF2.out.block b this (fun h => h)] at hb
      exact HM.out b c t hb ht h
    have HD3 : Hid (LawAt w3 D A Pp n nn x pause clock (.slice ao L.length cap)) := (HD.out.fr HF2.out (fun h => h)).fr hfS hSD
    have HT3 : Hid (StepsAt w3 b bo cb st) := (HT.out.fr HF2.out (fun _ _ _ h => h)).fr hfS (fun b c hb => hM2 b c _ hb (.inr (.inr (.inr (.inr (.inl rfl))))))
    have HL3 : Hid (LAt w3 b (.slice ao L.length cap) L) := (HL.out.frz HF2.out).fr hfS (fun b c t hb ht => hM2 b c t hb (by rcases ht with h | h | h <;> subst h <;> simp [Mine]))
    have HR3 : Hid (w3.heap[g]? = some (.cells (scells (st ++ [bey, bey])).toArray 58 (0, 0))) := hfS.keep HROW.out hSg
    have HG3 : Hid (GOk w3) := (hG.fr HF2.out (fun h => h)).fr hfS hgS
    have HP3 : Hid (w3.heap[Pp]? = some (.cells #[.slice lo lm lcap, pe, pl, pa] 48 (0, 0))) := hfS.keep (HF2.out.keep HP.out (fun h => h)) hSP
    have HPO : Hid (Post kk w3 ∧ SubK L id st n kk) := ⟨hpost, hk⟩
    have hv1 := hv.one
    have HX3 : Hid (Fr S w2 w3) := hfS
    clear c5 hSD hSP hSg hM2 hfS hpost hk HEE
    go_wp2_with fail
    refine (still_ok HT3.out.rows (by omega) HR3.out).mono ?_
    rintro e w4 ⟨rfl, hf4⟩
    have hv4 : ErrAt w4 v kk := hv.fr hf4 (fun b c hb e => by subst e; rw [HR3.out] at hb; simp at hb)
    have hgG : ¬ 0 = g := by
      intro e
      have h1 := World.block_lt_of_cell? w _ hG
      simp only at h1
      omega
    have hG4 : GOk w4 := HG3.out.fr hf4 hgG
    have HF4 : Hid (Fr (· = g) w3 w4) := hf4
    clear hv hf4 hgG
    go_wp2_with fail
    refine (Told_any hv4 hG4).mono ?_
    rintro e w5 ⟨rfl, hf5⟩
    go_wp2_with fail
    refine (num_ok kk _).mono ?_
    rintro e w5a ⟨rfl, hw⟩
    rw [hw]
    clear hw
    have HF5 : Hid (Fr (· = g) w3 w5) := HF4.out.trans (hf5.mono (fun _ _ h => h.elim)) (fun _ _ h => h)
    have hDg : ¬ D = g := fun e => by have := lt_of_heap HD.out; omega
    have hPg : ¬ Pp = g := fun e => by have := lt_of_heap HP.out; omega
    have hTg : ∀ b c t, w3.heap[b]? = some (.cells c t (0, 0)) → t = 223 ∨ t = 165 ∨ t = 220 → ¬ b = g := fun b c t hb ht e => by
      subst e; rw [HR3.out] at hb; rcases ht with h | h | h <;> subst h <;> simp at hb
    have HD5 : Hid (LawAt w5 D A Pp n nn x pause clock (.slice ao L.length cap)) := HD3.out.fr HF5.out hDg
    have HT5 : Hid (StepsAt w5 b bo cb st) := HT3.out.fr HF5.out (fun b c hb => hTg b c _ hb (.inr (.inl rfl)))
    have HL5 : Hid (LAt w5 b (.slice ao L.length cap) L) := HL3.out.fr HF5.out hTg
    have HP5 : Hid (w5.heap[Pp]? = some (.cells #[.slice lo lm lcap, pe, pl, pa] 48 (0, 0))) := HF5.out.keep HP3.out hPg
    have d6 := HD5.out.c6
    have d7 := HD5.out.c7
    have d8 := HD5.out.c8
    have d9 := HD5.out.c9
    clear hv4 hG4 hf5 hDg hPg hTg
    go_wp2_with fail
    refine (rSubmits_ok HL5.out.sagas (by omega) HT5.out.rows pause clock false id).mono ?_
    rintro e w6 ⟨k2, t2, hp2, he, hf6⟩
    have HF6 : Hid (Fr (· = g) w3 w6) := HF5.out.trans (hf6.mono (fun _ _ h => h.elim)) (fun _ _ h => h)
    have HD6 : Hid (LawAt w6 D A Pp n nn x pause clock (.slice ao L.length cap)) := HD5.out.fr hf6 (fun h => h)
    have HL6 : Hid (LAt w6 b (.slice ao L.length cap) L) := HL5.out.frz hf6
    have HT6 : Hid (StepsAt w6 b bo cb st) := HT5.out.fr hf6 (fun _ _ _ h => h)
    have e1 := HD6.out.c1
    have z0 : w6.cell? ⟨Pp, 0, none⟩ = some (.slice lo lm lcap) := (cell_of_row w6 Pp 0 _ _ _ (hf6.keep HP5.out (fun h => h))).trans rfl
    have he' := he (match L[k2]? with | some r => decide (r.st = st) | none => false) (by intro r hr; rw [hr])
    have hft2 := sorted_find HSO.out hp2
    have HEND : Hid (∀ (w' : World), Fr (fun b => b = D ∨ b = g) w3 w' → Post kk w3 ∧ SubK L id st n kk ∧ w.heap.size ≤ g ∧ (∃ cs, w3.heap[g]? = some (.cells cs 58 (0, 0))) ∧ Fr (fun b => b = D ∨ b = g) w3 w') := fun w' hf => ⟨HPO.out.1, HPO.out.2, hgw, ⟨_, HR3.out⟩, hf⟩
    clear d6 d7 d8 d9 he hf6
    have HRM : Hid (r ∈ L) := List.mem_of_getElem? HRR.out.1
    have ht2 : t2 = true := by
      cases t2
      · exact absurd HRR.out.2 (hft2.2 rfl r HRM.out)
      · rfl
    subst ht2
    obtain ⟨r2, hr2, hid2⟩ := hft2.1 rfl
    obtain rfl : r2 = r := sorted_one HSO.out hr2 HRR.out.1 (by rw [hid2, HRR.out.2])
    rw [hr2] at he'
    clear hft2 hr2 hid2
    rcases HPO.out.2 with ⟨hok, hkk⟩ | ⟨hok, r', hr', hid', hkk⟩ | ⟨_, hno, _⟩
    · subst hkk
      rw [hok] at he'
      subst he'
      have HNEW : Hid (¬ ((1 : Int) = 0 ∧ ∀ r ∈ L, r.id ≠ id)) := fun h => by cases h.1
      simp only [subsOf]
      clear hok
      go_wp2
      go_ret
      obtain ⟨x1, x2, x3, x4, x5⟩ := HEND.out _ (HF6.out.mono (fun _ _ h => .inr h))
      exact ⟨rfl, w3, _, g, x1, x2, x3, x4, x5, .inl ⟨HD6.out, HNEW.out⟩⟩
    · obtain ⟨j', hj'⟩ := List.mem_iff_getElem?.1 hr'
      obtain rfl : r' = r2 := sorted_one HSO.out hj' HRR.out.1 (by rw [hid', HRR.out.2])
      by_cases hse : r'.st = st
      · rw [if_pos hse] at hkk
        subst hkk
        rw [hok] at he'
        simp only [show decide (r'.st = st) = true by simp [hse]] at he'
        subst he'
        simp only [subsOf]
        clear hok hse hj' hid' hr'
        go_wp2
        go_ret
        obtain ⟨x1, x2, x3, x4, x5⟩ := HEND.out _ (HF6.out.mono (fun _ _ h => .inr h))
        exact ⟨rfl, w3, _, g, x1, x2, x3, x4, x5, .inl ⟨HD6.out, fun h => h.2 r' HRM.out HRR.out.2⟩⟩
      · rw [if_neg hse] at hkk
        subst hkk
        rw [hok] at he'
        simp only [show decide (r'.st = st) = false by simp [hse]] at he'
        subst he'
        have HNEW : Hid (¬ ((2 : Int) = 0 ∧ ∀ r ∈ L, r.id ≠ id)) := fun h => by cases h.1
        simp only [subsOf]
        clear hok hse hj' hid' hr'
        go_wp2
        go_ret
        obtain ⟨x1, x2, x3, x4, x5⟩ := HEND.out _ (HF6.out.mono (fun _ _ h => .inr h))
        exact ⟨rfl, w3, _, g, x1, x2, x3, x4, x5, .inl ⟨HD6.out, HNEW.out⟩⟩
    · exact absurd HRR.out.2 (hno r2 HRM.out)
end Go.Proofs.YteebjgfalllbjaaGreatDoor
