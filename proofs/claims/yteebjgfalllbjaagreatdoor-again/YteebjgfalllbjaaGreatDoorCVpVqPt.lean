import Derived.Test.YteebjgfalllbjaaGreatDoorCVmVnVo
import Derived.Test.YteebjgfalllbjaaGreatDoorCWhJrFm
import Derived.Test.YteebjgfalllbjaaGreatDoorCStoreHeadSecure
namespace Go.Proofs.YteebjgfalllbjaaGreatDoor
open Go.RowKit
def zC : CL := ⟨0, 0, false, ⟨#[]⟩⟩
theorem run_storeC {w : World} {g : Nat} {cs : List Value} {t : TypeId} (c : CL) (hg : w.heap[g]? = some (.cells cs.toArray t (0, 0))) (hc : cs.length = 4) : (Instr.storeAt 50 (.pointer (some ⟨g, 0, none⟩)) (.agg c.cs.toArray)).run Tryz.prog w = .ok () (w.setRow g c.cs.toArray) := by
  have := run_storeAt_row (P := Tryz.prog) (o := 0) (ty := 50) (vs := c.cs) hg (by rw [hc]; exact Nat.le_refl 4) (by intro v hv; simp [CL.cs] at hv; rcases hv with rfl | rfl | rfl | rfl <;> rfl) (by rw [call_size]; rfl)
  rwa [show splice cs 0 c.cs = c.cs from by simp [splice, hc, CL.cs]] at this
section
variable {w : World} {R base : Nat} {room : Int} {ev : Value} {es : List (Nat × AS)}
/-- What Next says. -/
def NextQ (es : List (Nat × AS)) (id clock : Int) (w : World) (e : Ending) (w' : World) : Prop :=
  ((∃ p ∈ es, p.2.id = id ∧ p.2.open ∧ e = .returned (.tuple #[.agg p.2.asks.cs.toArray, .bool (decide (p.2.due ≤ clock))])) ∨ ((∀ p ∈ es, p.2.id = id → ¬ p.2.open) ∧ e = .returned (.tuple #[.agg zC.cs.toArray, .bool false]))) ∧ Fr (fun _ => False) w w'
theorem sorted_uniq (hs : Sorted es) {p q : Nat × AS} (hp : p ∈ es) (hq : q ∈ es) (h : p.2.id = q.2.id) : p = q := by
  obtain ⟨i, hi1, rfl⟩ := List.mem_iff_getElem.1 hp
  obtain ⟨j, hj1, rfl⟩ := List.mem_iff_getElem.1 hq
  rcases Nat.lt_trichotomy i j with hlt | rfl | hlt
  · have := List.pairwise_iff_getElem.1 hs i j hi1 hj1 hlt; omega
  · rfl
  · have := List.pairwise_iff_getElem.1 hs j i hj1 hi1 hlt; omega
set_option maxRecDepth 100000 in
set_option maxHeartbeats 4000000 in
theorem rNext_ok (h : RollAt w R base room ev es) (hs : Sorted es) (hn : es.length ≤ 100000) {ck : Int} (hok : ∀ p ∈ es, p.2.Ok ck) (id clock : Int) : Calls Tryz.prog 65 #[.pointer (some ⟨R, 0, none⟩), .int .i64 id, .int .i64 clock] w fun e w' => NextQ es id clock w e w' := by
  have hlift : Tryz.prog.follows .mixedOrders = true := by kernel_rfl
  have hfa : Fr (fun _ => False) w (w.alloc (.cells #[.int .i64 0, .int .i64 0, .bool false, .string ⟨#[]⟩] 50)) := (Fr.refl _ _).alloc _
  have HC := rfind_ok (h.frz hfa) hs hn id
  go_enter Tryz.func65, Tryz.ntmps65
  go_wp2_with fail
  refine HC.mono ?_
  rintro e w2 ⟨v, rfl, hv, hf⟩
  have h2 := (h.frz hfa).frz hf
  have hF := hfa.trans hf (fun _ _ h => h)
  have hR : w2.heap[w.heap.size]? = some (.cells zC.cs.toArray 50 (0, 0)) := hf.keep (heap_alloc_at _ _) (fun h => h)
  clear hfa hf HC h
  have HNO : ∀ (W : World), W.heap[w.heap.size]? = some (.cells zC.cs.toArray 50 (0, 0)) → Fr (fun _ => False) w W → ∃ WE, (Instr.storeAt 50 (.pointer (some ⟨w.heap.size, 0, none⟩)) (.agg zC.cs.toArray)).run Tryz.prog W = .ok () WE ∧ WE.heap[w.heap.size]? = some (.cells zC.cs.toArray 50 (0, 0)) ∧ Fr (fun _ => False) w WE := fun W h1 h2 => ⟨_, run_storeC zC h1 rfl, setRow_heap _ _ _ _ _ _ h1, h2.setRow _ (fun h => by omega) _⟩
  rcases hv with ⟨p, hp, hid, rfl⟩ | ⟨hno, rfl⟩
  · have hpo := hok p hp
    have hr := h2.stand hp hpo.l6
    have k0 : w2.cell? ⟨p.1, 14, none⟩ = some (.int .i64 p.2.told.id) := hr 0 _ rfl
    have k1 : w2.cell? ⟨p.1, 15, none⟩ = some (.int .i64 p.2.told.state) := hr 1 _ rfl
    have k2 : w2.cell? ⟨p.1, 16, none⟩ = some (.int .i64 p.2.told.step) := hr 2 _ rfl
    have k3 : w2.cell? ⟨p.1, 17, none⟩ = some (.int .i64 p.2.told.steps) := hr 3 _ rfl
    have k4 : w2.cell? ⟨p.1, 18, none⟩ = some (.int .i64 p.2.told.tries) := hr 4 _ rfl
    have k5 : w2.cell? ⟨p.1, 19, none⟩ = some (.int .i64 p.2.told.due) := hr 5 _ rfl
    have HO := fun W => stOpen_ok W p.2.told
    have hE := (h2.e p hp).2
    unfold ST.cs at HO
    unfold epv
    clear hr
    go_wp2_with fail
    refine (HO _).mono ?_
    rintro e w3 ⟨rfl, hf3⟩
    by_cases ho : p.2.told.state = 1 ∨ p.2.told.state = 2
    · rw [decide_eq_true ho]
      go_wp2_with fail
      obtain ⟨W, HW⟩ : ∃ W, Hid (W = w3.drew) := ⟨_, rfl⟩
      have hfW : Fr (fun _ => False) w3 W := by rw [HW.out]; exact (Fr.refl _ _).drew
      let S : World → Prop := fun w' => w'.cell? ⟨p.1, 19, none⟩ = some (.int .i64 p.2.told.due)
      have hS : S W := hfW.cell (hf3.cell k5 (fun h => h)) (fun h => h)
      refine wp_region_held (S := S) hlift ?_
      change wpAnyH _ _ _ _ S _ _ _ (World.drew _)
      rw [← HW.out]
      clear HW
      refine tkE (S := S) (i := 0) (oi := ⟨some 23, .move (.tmp 8), _, _, _, none⟩) (v := .pointer (some ⟨p.1, 0, none⟩)) rfl hS ?_
      simp only [Act.put, lsE, lsZ, lsS]
      refine tkE (S := S) (i := 2) (oi := ⟨some 25, .move (.tmp 8), _, _, _, none⟩) (v := .pointer (some ⟨p.1, 0, none⟩)) rfl hS ?_
      simp only [Act.put, lsE, lsZ, lsS]
      refine tkE (S := S) (i := 3) (oi := ⟨some 26, .nilCheck (.tmp 25), _, _, _, none⟩) (v := .pointer (some ⟨p.1, 0, none⟩)) rfl hS ?_
      simp only [Act.put, lsE, lsZ, lsS]
      refine tkE (S := S) (i := 4) (oi := ⟨some 27, .fieldAddr 140 (.tmp 26) 1, _, _, _, none⟩) (v := .pointer (some ⟨p.1, 14, none⟩)) rfl hS ?_
      simp only [Act.put, lsE, lsZ, lsS]
      refine tkE (S := S) (i := 5) (oi := ⟨some 28, .fieldAddr 138 (.tmp 27) 5, _, _, _, none⟩) (v := .pointer (some ⟨p.1, 19, none⟩)) rfl hS ?_
      simp only [Act.put, lsE, lsZ, lsS]
      refine tkY (S := S) (i := 6) (oi := ⟨some 29, .load 3 (.tmp 28), _, _, _, none⟩) (v := .int .i64 p.2.told.due) rfl (Or.inl ⟨rfl, fun w' hs => exec_load 3 (.tmp 28) rfl ⟨p.1, 19, none⟩ rfl (run_loadAt_one hs Tryz.underlying3 rfl)⟩) hS ?_
      simp only [Act.put, lsE, lsZ, lsS]
      refine tkE (S := S) (i := 7) (oi := ⟨some 30, .move (.tmp 2), _, _, _, none⟩) (v := .int .i64 clock) rfl hS ?_
      simp only [Act.put, lsE, lsZ, lsS]
      refine tkY (S := S) (i := 8) (oi := ⟨some 31, .binOp .leq 3 (.tmp 29) (.tmp 30) 3, _, _, _, none⟩) (v := .bool (decide (p.2.told.due ≤ clock))) rfl (Or.inl ⟨rfl, fun w' _ => exec_leq rfl rfl rfl w'⟩) hS ?_
      simp only [Act.put, lsE, lsZ, lsS]
      refine wpAnyH_all (rs := [1]) (by kernel_rfl) (by simp) ?_
      intro i1 hi1
      obtain rfl : i1 = 1 := by simpa using hi1
      refine wpOp_call (o := ⟨some 24, .call { callee := .value (.func 103), args := #[(.tmp 23)], argTypes := _ }, _, _, _, none⟩) (f := 103) (args := #[.pointer (some ⟨p.1, 0, none⟩)]) rfl rfl (by kernel_rfl) ?_
      refine (eCall_ok (hfW.keep (hf3.keep hE (fun h => h)) (fun h => h)) hpo ho).mono ?_
      rintro e w4 ⟨rfl, hf4⟩
      have hS4 : S w4 := hf4.cell hS (fun h => h)
      refine ⟨_, rfl, hS4, ?_⟩
      simp only [Act.put, lsE, lsZ, lsS]
      refine wpAnyH_all (rs := [9]) (by kernel_rfl) (by simp) ?_
      intro i9 hi9
      obtain rfl : i9 = 9 := by simpa using hi9
      have hR4 := hf4.keep (hfW.keep (hf3.keep hR (fun h => h)) (fun h => h)) (fun h => h)
      have hF4 : Fr (fun _ => False) w w4 := ((hF.trans hf3 (fun _ _ h => h)).trans hfW (fun _ _ h => h)).trans hf4 (fun _ _ h => h)
      have hst := run_storeC p.2.asks hR4 rfl
      have hRE := setRow_heap w4 w.heap.size _ p.2.asks.cs.toArray 50 (0, 0) hR4
      have hFE : Fr (fun _ => False) w (w4.setRow w.heap.size p.2.asks.cs.toArray) := hF4.setRow _ (fun h => by omega) _
      have hpl : p.1 < w2.heap.size := lt_of_heap hE
      have hSE : S (w4.setRow w.heap.size p.2.asks.cs.toArray) := (Fr.setRow (S := fun b => b = w.heap.size) (Fr.refl _ w4) w.heap.size (fun _ => rfl) _).cell hS4 (fun e => by have h9 := hE; have e' : p.1 = w.heap.size := e; rw [e', hR] at h9; simp at h9)
      refine wpOp_skip (o := ⟨none, .store 50 (.tmp 6) (.tmp 24), _, _, _, none⟩) (w' := w4.setRow w.heap.size p.2.asks.cs.toArray) rfl rfl (exec_store 50 _ _ rfl ⟨w.heap.size, 0, none⟩ _ rfl rfl hst) ⟨hSE, ?_⟩
      simp only [Act.put]
      refine tkE (S := S) (i := 10) (oi := ⟨some 7, .assign (.tmp 31), _, _, _, none⟩) (v := .bool (decide (p.2.told.due ≤ clock))) rfl hSE ?_
      simp only [Act.put, lsE, lsZ, lsS]
      refine wpAnyH_done (by kernel_rfl) ?_ _
      go_wp2
      exact bodyPost_ret (results_row_tmp Tryz.results65 _ _ w.heap.size 50 _ (0, 0) _ rfl hRE Tryz.underlying50 rfl call_size) rfl ⟨.inl ⟨p, hp, hid, ho, rfl⟩, hFE⟩
    · rw [decide_eq_false ho]
      obtain ⟨WE, hst, hRE, hFE⟩ := HNO w3 (hf3.keep hR (fun h => h)) (hF.trans hf3 (fun _ _ h => h))
      have HN : Hid (∀ q ∈ es, q.2.id = id → ¬ q.2.open) := fun q hq e he => ho (by rw [sorted_uniq hs hp hq (hid.trans e.symm)]; exact he)
      clear HNO HO hok
      unfold CL.cs zC at hst
      go_wp2_with (first | (refine wpList_store 50 (w' := WE) _ _ rfl rfl ?_ ?_; exact hst))
      exact bodyPost_ret (results_row_tmp Tryz.results65 _ _ w.heap.size 50 _ (0, 0) _ rfl hRE Tryz.underlying50 rfl call_size) rfl ⟨.inr ⟨HN.out, rfl⟩, hFE⟩
  · obtain ⟨WE, hst, hRE, hFE⟩ := HNO w2 hR hF
    have HN : Hid (∀ q ∈ es, q.2.id = id → ¬ q.2.open) := fun q hq e => absurd e (hno q hq)
    clear HNO hok hno
    unfold CL.cs zC at hst
    go_wp2_with (first | (refine wpList_store 50 (w' := WE) _ _ rfl rfl ?_ ?_; exact hst))
    exact bodyPost_ret (results_row_tmp Tryz.results65 _ _ w.heap.size 50 _ (0, 0) _ rfl hRE Tryz.underlying50 rfl call_size) rfl ⟨.inr ⟨HN.out, rfl⟩, hFE⟩
end
end Go.Proofs.YteebjgfalllbjaaGreatDoor
namespace Go.Proofs.YteebjgfalllbjaaGreatDoor
open Go.RowKit
theorem load6m {w : World} {g o : Nat} {s : ST} (h : w.rangeAt g o s.cs) : (Instr.loadAt 138 (.pointer (some ⟨g, o, none⟩))).run Tryz.prog w = .ok (.agg s.cs.toArray) w :=
  run_loadAt_mid w g o 138 s.cs _ h Tryz.underlying138 rfl stand_size
theorem exec_alloc_stand (ρ : Operand → Value) (o : Oper) (ho : o.op = .alloc 138) (w : World) : (execOp ρ o).run Tryz.prog w = .ok (.value (.pointer (some ⟨w.heap.size, 0, none⟩))) (w.alloc (.cells ([.int .i64 0, .int .i64 0, .int .i64 0, .int .i64 0, .int .i64 0, .int .i64 0] : List Value).toArray 138)) := by
  simp only [execOp, ho]
  kernel_rfl
theorem told_moved2 {a : AS} {ck : Int} (h : a.Ok ck) (reply : Int) : (a.told.moved reply).2 = (decide a.open && a.moves reply) := by
  rw [told_moved a h]
  by_cases ho : a.open <;> cases hm : a.moves reply <;> simp [ho]
section
variable {w : World} {R base : Nat} {room : Int} {ev : Value} {es : List (Nat × AS)}
/-- Is there a saga of that id that the reply moves? -/
def mvE (es : List (Nat × AS)) (id reply : Int) : Bool := es.any fun p => decide (p.2.id = id ∧ p.2.open) && p.2.moves reply
theorem mvE_of (hs : Sorted es) {p : Nat × AS} (hp : p ∈ es) {id : Int} (hid : p.2.id = id) (reply : Int) : mvE es id reply = (decide p.2.open && p.2.moves reply) := by
  by_cases h : (decide p.2.open && p.2.moves reply) = true
  · rw [h]
    refine List.any_eq_true.2 ⟨p, hp, ?_⟩
    simp only [Bool.and_eq_true, decide_eq_true_eq] at h ⊢
    exact ⟨⟨hid, h.1⟩, h.2⟩
  · rw [Bool.not_eq_true] at h
    rw [h]
    refine List.any_eq_false.2 fun q hq hc => ?_
    simp only [Bool.and_eq_true, decide_eq_true_eq] at hc
    have e := sorted_uniq hs hp hq (hid.trans hc.1.1.symm)
    subst e
    simp [hc.1.2, hc.2] at h
theorem mvE_no {id : Int} (hno : ∀ p ∈ es, p.2.id ≠ id) (reply : Int) : mvE es id reply = false := List.any_eq_false.2 fun q hq hc => by
  simp only [Bool.and_eq_true, decide_eq_true_eq] at hc
  exact hno q hq hc.1.1
set_option maxRecDepth 100000 in
set_option maxHeartbeats 4000000 in
theorem rMoves_ok (h : RollAt w R base room ev es) (hs : Sorted es) (hn : es.length ≤ 100000) {ck : Int} (hok : ∀ p ∈ es, p.2.Ok ck) (id reply : Int) : Calls Tryz.prog 117 #[.pointer (some ⟨R, 0, none⟩), .agg #[.int .i64 id, .int .i64 reply]] w fun e w' => e = .returned (.bool (mvE es id reply)) ∧ Fr (fun _ => False) w w' := by
  have hfa : Fr (fun _ => False) w (w.alloc (.cells #[.int .i64 id, .int .i64 reply] 196)) := (Fr.refl _ _).alloc _
  have HC := rfind_ok (h.frz hfa) hs hn id
  have hlift : Tryz.prog.follows .mixedOrders = true := by kernel_rfl
  go_enter Tryz.func117, Tryz.ntmps117
  go_wp2_with fail
  refine HC.mono ?_
  rintro e w2 ⟨v, rfl, hv, hf⟩
  have hM : w2.heap[w.heap.size]? = some (.cells #[.int .i64 id, .int .i64 reply] 196 (0, 0)) := hf.keep (heap_alloc_at _ _) (fun h => h)
  have m1 : w2.cell? ⟨w.heap.size, 1, none⟩ = some (.int .i64 reply) := (cell_of_row _ _ 1 _ _ _ hM).trans rfl
  have h2 := (h.frz hfa).frz hf
  have hF := hfa.trans hf (fun _ _ h => h)
  clear hfa hf HC h
  rcases hv with ⟨p, hp, hid, rfl⟩ | ⟨hno, rfl⟩
  · unfold epv
    have HB : Hid (mvE es id reply = (decide p.2.open && p.2.moves reply)) := mvE_of hs hp hid reply
    have hpo := hok p hp
    have hr := h2.stand hp hpo.l6
    go_wp2_with (first | (refine wpList_load_mid rfl 138 _ rfl p.1 14 ?_ _ _ hr Tryz.underlying138 rfl ?_ ?_; rfl; exact stand_size))
    have HS : ∀ w', Fr (fun _ => False) w2 w' → w'.rangeAt p.1 14 p.2.told.cs ∧ w'.cell? ⟨w.heap.size, 1, none⟩ = some (.int .i64 reply) := fun w' hf => ⟨fun j v hv => hf.cell (hr j v hv) (fun h => h), hf.cell m1 (fun h => h)⟩
    have HMV := fun W => stMoved_ok W p.2.told reply hpo.s (fun h => ⟨(hpo.p h).1, by have := (hpo.p h).2; have := hpo.l6; show p.2.S.2 ≤ 6; omega⟩)
    obtain ⟨W, HW⟩ : ∃ W, Hid (W = w2.drew) := ⟨_, rfl⟩
    have hfW : Fr (fun _ => False) w2 W := by rw [HW.out]; exact (Fr.refl _ _).drew
    let S : World → Prop := fun w' => w'.rangeAt p.1 14 p.2.told.cs ∧ w'.cell? ⟨w.heap.size, 1, none⟩ = some (.int .i64 reply)
    have hS : S W := HS W hfW
    refine wp_region_held (S := S) hlift ?_
    change wpAnyH _ _ _ _ S _ _ _ (World.drew _)
    rw [← HW.out]
    clear HW
    refine tkE (S := S) (i := 0) (oi := ⟨some 15, .move (.tmp 5), _, _, _, none⟩) (v := .pointer (some ⟨p.1, 0, none⟩)) rfl hS ?_
    simp only [Act.put, lsE, lsZ, lsS]
    refine tkE (S := S) (i := 1) (oi := ⟨some 16, .nilCheck (.tmp 15), _, _, _, none⟩) (v := .pointer (some ⟨p.1, 0, none⟩)) rfl hS ?_
    simp only [Act.put, lsE, lsZ, lsS]
    refine tkE (S := S) (i := 2) (oi := ⟨some 17, .fieldAddr 140 (.tmp 16) 1, _, _, _, none⟩) (v := .pointer (some ⟨p.1, 14, none⟩)) rfl hS ?_
    simp only [Act.put, lsE, lsZ, lsS]
    refine tkY (S := S) (i := 3) (oi := ⟨some 18, .load 138 (.tmp 17), _, _, _, none⟩) (v := .agg p.2.told.cs.toArray) rfl (Or.inl ⟨rfl, fun w' hs => exec_load 138 (.tmp 17) rfl ⟨p.1, 14, none⟩ rfl (load6m hs.1)⟩) hS ?_
    simp only [Act.put, lsE, lsZ, lsS]
    refine tkE (S := S) (i := 4) (oi := ⟨some 19, .fieldAddr 196 (.tmp 3) 1, _, _, _, none⟩) (v := .pointer (some ⟨w.heap.size, 1, none⟩)) rfl hS ?_
    simp only [Act.put, lsE, lsZ, lsS]
    refine tkY (S := S) (i := 5) (oi := ⟨some 20, .load 3 (.tmp 19), _, _, _, none⟩) (v := .int .i64 reply) rfl (Or.inl ⟨rfl, fun w' hs => exec_load 3 (.tmp 19) rfl ⟨w.heap.size, 1, none⟩ rfl (run_loadAt_one hs.2 Tryz.underlying3 rfl)⟩) hS ?_
    simp only [Act.put, lsE, lsZ, lsS]
    refine wpAnyH_all (rs := [6, 10]) (by kernel_rfl) (by simp) ?_
    intro i6 hi6
    have h66 : i6 = 6 ∨ i6 = 10 := by simpa using hi6
    rcases h66 with rfl | rfl
    · refine wpOp_call (o := ⟨some 21, .call { callee := .value (.func 118), args := #[(.tmp 18), (.tmp 20)], argTypes := _ }, _, _, _, none⟩) (f := 118) (args := #[.agg p.2.told.cs.toArray, .int .i64 reply]) rfl rfl (by kernel_rfl) ?_
      refine (HMV W).mono ?_
      rintro e w3 ⟨rfl, hfw3⟩
      have hw3 : Fr (fun _ => False) w2 w3 := hfW.trans hfw3 (fun _ _ h => h)
      have hSw3 : S w3 := HS _ hw3
      refine ⟨_, rfl, hSw3, ?_⟩
      simp only [Act.put, lsE, lsZ, lsS]
      refine tkE (S := S) (i := 7) (oi := ⟨some 14, .move (.tmp 21), _, _, _, none⟩) (v := .tuple #[.agg (p.2.told.moved reply).1.cs.toArray, .bool (p.2.told.moved reply).2]) rfl hSw3 ?_
      simp only [Act.put, lsE, lsZ, lsS]
      refine tkE (S := S) (i := 8) (oi := ⟨some 22, .extract (.tmp 14) 0, _, _, _, none⟩) (v := .agg (p.2.told.moved reply).1.cs.toArray) rfl hSw3 ?_
      simp only [Act.put, lsE, lsZ, lsS]
      refine tkE (S := S) (i := 9) (oi := ⟨some 23, .extract (.tmp 14) 1, _, _, _, none⟩) (v := .bool (p.2.told.moved reply).2) rfl hSw3 ?_
      simp only [Act.put, lsE, lsZ, lsS]
      refine wpAnyH_all (rs := [10]) (by kernel_rfl) (by simp) ?_
      intro i10 hi10
      obtain rfl : i10 = 10 := by simpa using hi10
      obtain ⟨w4, HWw4⟩ : ∃ w4, Hid (w4 = w3.alloc (.cells ([.int .i64 0, .int .i64 0, .int .i64 0, .int .i64 0, .int .i64 0, .int .i64 0] : List Value).toArray 138)) := ⟨_, rfl⟩
      have hrw4 : w4.heap[w3.heap.size]? = some (.cells ([.int .i64 0, .int .i64 0, .int .i64 0, .int .i64 0, .int .i64 0, .int .i64 0] : List Value).toArray 138 (0, 0)) := by rw [HWw4.out]; exact heap_alloc_at _ _
      have hfw4 : Fr (fun _ => False) w3 w4 := by rw [HWw4.out]; exact (Fr.refl _ _).alloc _
      have hw4 : Fr (fun _ => False) w2 w4 := hw3.trans hfw4 (fun _ _ h => h)
      have hSw4 : S w4 := HS _ hw4
      refine wpOp_value (o := ⟨some 6, .alloc 138, _, _, _, none⟩) (v := .pointer (some ⟨w3.heap.size, 0, none⟩)) (w' := w4) rfl rfl (by rw [HWw4.out]; exact exec_alloc_stand _ _ rfl _) ⟨hSw4, ?_⟩
      simp only [Act.put, lsE, lsZ, lsS]
      refine wpAnyH_all (rs := [11]) (by kernel_rfl) (by simp) ?_
      intro i11 hi11
      obtain rfl : i11 = 11 := by simpa using hi11
      have hst := run_store6 (ty := 138) (hrw4) rfl (ST.len (p.2.told.moved reply).1) (ST.one _) stand_size
      have hFE : Fr (fun _ => False) w2 (w4.setRow w3.heap.size (p.2.told.moved reply).1.cs.toArray) := hw4.setRow _ (fun h => by have := hw3.size; omega) _
      have hSE : S (w4.setRow w3.heap.size (p.2.told.moved reply).1.cs.toArray) := HS _ hFE
      refine wpOp_skip (o := ⟨none, .store 138 (.tmp 6) (.tmp 22), _, _, _, none⟩) (w' := w4.setRow w3.heap.size (p.2.told.moved reply).1.cs.toArray) rfl rfl (exec_store 138 _ _ rfl ⟨w3.heap.size, 0, none⟩ _ rfl rfl hst) ⟨hSE, ?_⟩
      simp only [Act.put]
      refine tkE (S := S) (i := 12) (oi := ⟨some 7, .assign (.tmp 23), _, _, _, none⟩) (v := .bool (p.2.told.moved reply).2) rfl hSE ?_
      simp only [Act.put, lsE, lsZ, lsS]
      refine wpAnyH_done (by kernel_rfl) ?_ _
      have HFE : Hid (Fr (fun _ => False) w (w4.setRow w3.heap.size (p.2.told.moved reply).1.cs.toArray)) := hF.trans hFE (fun _ _ h => h)
      clear hst hFE hSE
      go_wp2
      go_ret
      refine ⟨?_, HFE.out⟩
      rw [HB.out, ← told_moved2 hpo]
      rfl
    · obtain ⟨w3, HWw3⟩ : ∃ w3, Hid (w3 = W.alloc (.cells ([.int .i64 0, .int .i64 0, .int .i64 0, .int .i64 0, .int .i64 0, .int .i64 0] : List Value).toArray 138)) := ⟨_, rfl⟩
      have hrw3 : w3.heap[W.heap.size]? = some (.cells ([.int .i64 0, .int .i64 0, .int .i64 0, .int .i64 0, .int .i64 0, .int .i64 0] : List Value).toArray 138 (0, 0)) := by rw [HWw3.out]; exact heap_alloc_at _ _
      have hfw3 : Fr (fun _ => False) W w3 := by rw [HWw3.out]; exact (Fr.refl _ _).alloc _
      have hw3 : Fr (fun _ => False) w2 w3 := hfW.trans hfw3 (fun _ _ h => h)
      have hSw3 : S w3 := HS _ hw3
      refine wpOp_value (o := ⟨some 6, .alloc 138, _, _, _, none⟩) (v := .pointer (some ⟨W.heap.size, 0, none⟩)) (w' := w3) rfl rfl (by rw [HWw3.out]; exact exec_alloc_stand _ _ rfl _) ⟨hSw3, ?_⟩
      simp only [Act.put, lsE, lsZ, lsS]
      refine wpAnyH_all (rs := [6]) (by kernel_rfl) (by simp) ?_
      intro i7 hi7
      obtain rfl : i7 = 6 := by simpa using hi7
      refine wpOp_call (o := ⟨some 21, .call { callee := .value (.func 118), args := #[(.tmp 18), (.tmp 20)], argTypes := _ }, _, _, _, none⟩) (f := 118) (args := #[.agg p.2.told.cs.toArray, .int .i64 reply]) rfl rfl (by kernel_rfl) ?_
      refine (HMV w3).mono ?_
      rintro e w4 ⟨rfl, hfw4⟩
      have hw4 : Fr (fun _ => False) w2 w4 := hw3.trans hfw4 (fun _ _ h => h)
      have hSw4 : S w4 := HS _ hw4
      refine ⟨_, rfl, hSw4, ?_⟩
      simp only [Act.put, lsE, lsZ, lsS]
      refine tkE (S := S) (i := 7) (oi := ⟨some 14, .move (.tmp 21), _, _, _, none⟩) (v := .tuple #[.agg (p.2.told.moved reply).1.cs.toArray, .bool (p.2.told.moved reply).2]) rfl hSw4 ?_
      simp only [Act.put, lsE, lsZ, lsS]
      refine tkE (S := S) (i := 8) (oi := ⟨some 22, .extract (.tmp 14) 0, _, _, _, none⟩) (v := .agg (p.2.told.moved reply).1.cs.toArray) rfl hSw4 ?_
      simp only [Act.put, lsE, lsZ, lsS]
      refine tkE (S := S) (i := 9) (oi := ⟨some 23, .extract (.tmp 14) 1, _, _, _, none⟩) (v := .bool (p.2.told.moved reply).2) rfl hSw4 ?_
      simp only [Act.put, lsE, lsZ, lsS]
      refine wpAnyH_all (rs := [11]) (by kernel_rfl) (by simp) ?_
      intro i11 hi11
      obtain rfl : i11 = 11 := by simpa using hi11
      have hst := run_store6 (ty := 138) (hfw4.keep hrw3 (fun h => h)) rfl (ST.len (p.2.told.moved reply).1) (ST.one _) stand_size
      have hFE : Fr (fun _ => False) w2 (w4.setRow W.heap.size (p.2.told.moved reply).1.cs.toArray) := hw4.setRow _ (fun h => by have := hfW.size; omega) _
      have hSE : S (w4.setRow W.heap.size (p.2.told.moved reply).1.cs.toArray) := HS _ hFE
      refine wpOp_skip (o := ⟨none, .store 138 (.tmp 6) (.tmp 22), _, _, _, none⟩) (w' := w4.setRow W.heap.size (p.2.told.moved reply).1.cs.toArray) rfl rfl (exec_store 138 _ _ rfl ⟨W.heap.size, 0, none⟩ _ rfl rfl hst) ⟨hSE, ?_⟩
      simp only [Act.put]
      refine tkE (S := S) (i := 12) (oi := ⟨some 7, .assign (.tmp 23), _, _, _, none⟩) (v := .bool (p.2.told.moved reply).2) rfl hSE ?_
      simp only [Act.put, lsE, lsZ, lsS]
      refine wpAnyH_done (by kernel_rfl) ?_ _
      have HFE : Hid (Fr (fun _ => False) w (w4.setRow W.heap.size (p.2.told.moved reply).1.cs.toArray)) := hF.trans hFE (fun _ _ h => h)
      clear hst hFE hSE
      go_wp2
      go_ret
      refine ⟨?_, HFE.out⟩
      rw [HB.out, ← told_moved2 hpo]
      rfl
  · have HB : Hid (mvE es id reply = false) := mvE_no hno reply
    clear hno
    go_wp2
    go_ret
    exact ⟨by rw [HB.out]; rfl, hF⟩
end
end Go.Proofs.YteebjgfalllbjaaGreatDoor
namespace Go.Proofs.YteebjgfalllbjaaGreatDoor
open Go.RowKit

theorem bpart_cut (C i n : Nat) (h : i + n ≤ 124) (hn : 0 < n) (w : World) : (Instr.sliceAt 182 (.pointer (some ⟨C, 0, none⟩)) (some (.int .i64 i)) (some (.int .i64 (i + n))) (some (.int .i64 (i + n)))).run Tryz.prog w = .ok (.slice (some ⟨C, i, none⟩) n n) w := by
  have ha : Tryz.prog.arrayLen 182 = 124 := by kernel_rfl
  have hz : (sizeOf (Tryz.prog.elem 182)).run Tryz.prog w = .ok 1 w := by kernel_rfl
  rw [run_sliceAt_array_lhm w 182 ⟨C, 0, none⟩ (by kernel_rfl) .i64 .i64 .i64 i (i + n) (i + n) (by omega) (by omega) (by omega) (by rw [ha]; omega), hz]
  have e1 : ((i : Int) + n).toNat = i + n := by omega
  have e2 : (i : Int).toNat = i := by omega
  have e3 : ¬ i + n = i := by omega
  simp only [Result.andThen_ok, slicedAt, e1, e2, if_neg e3, Nat.add_sub_cancel_left, Nat.mul_one]
  rcases Nat.eq_zero_or_pos i with rfl | hi
  · rfl
  · have hne : ¬ i = 0 := by omega
    simp [Addr.add, hne]
set_option maxRecDepth 100000 in
set_option maxHeartbeats 1000000 in
theorem bpart_ok (w : World) (g i n : Nat) (h : i + n ≤ 124) (hn : 0 < n) :
    Calls Tryz.prog 97 #[.pointer (some ⟨g, 0, none⟩), .int .i64 i, .int .i64 n] w fun e w' => e = .returned (.slice (some ⟨g, i, none⟩) n n) ∧ w' = w := by
  have hc := bpart_cut g i n h hn w
  go_enter Tryz.func97, Tryz.ntmps97
  go_wp2_with (refine wpList_sliceAt 182 (.tmp 8) (some (.tmp 9)) (some (.tmp 12)) (some (.tmp 15)) (v := .slice (some ⟨g, i, none⟩) n n) (w' := w) rfl rfl ?_ ?_; exact hc)
  go_ret
  exact ⟨rfl, rfl⟩
theorem Part_cut (C i n : Nat) (h : i + n ≤ 128) (hn : 0 < n) (w : World) : (Instr.sliceAt 130 (.pointer (some ⟨C, 0, none⟩)) (some (.int .i64 i)) (some (.int .i64 (i + n))) (some (.int .i64 (i + n)))).run Tryz.prog w = .ok (.slice (some ⟨C, i, none⟩) n n) w := by
  have ha : Tryz.prog.arrayLen 130 = 128 := by kernel_rfl
  have hz : (sizeOf (Tryz.prog.elem 130)).run Tryz.prog w = .ok 1 w := by kernel_rfl
  rw [run_sliceAt_array_lhm w 130 ⟨C, 0, none⟩ (by kernel_rfl) .i64 .i64 .i64 i (i + n) (i + n) (by omega) (by omega) (by omega) (by rw [ha]; omega), hz]
  have e1 : ((i : Int) + n).toNat = i + n := by omega
  have e2 : (i : Int).toNat = i := by omega
  have e3 : ¬ i + n = i := by omega
  simp only [Result.andThen_ok, slicedAt, e1, e2, if_neg e3, Nat.add_sub_cancel_left, Nat.mul_one]
  rcases Nat.eq_zero_or_pos i with rfl | hi
  · rfl
  · have hne : ¬ i = 0 := by omega
    simp [Addr.add, hne]
set_option maxRecDepth 100000 in
set_option maxHeartbeats 1000000 in
theorem Part_ok (w : World) (g i n : Nat) (h : i + n ≤ 128) (hn : 0 < n) :
    Calls Tryz.prog 141 #[.pointer (some ⟨g, 0, none⟩), .int .i64 i, .int .i64 n] w fun e w' => e = .returned (.slice (some ⟨g, i, none⟩) n n) ∧ w' = w := by
  have hc := Part_cut g i n h hn w
  go_enter Tryz.func141, Tryz.ntmps141
  go_wp2_with (refine wpList_sliceAt 130 (.tmp 8) (some (.tmp 9)) (some (.tmp 12)) (some (.tmp 15)) (v := .slice (some ⟨g, i, none⟩) n n) (w' := w) rfl rfl ?_ ?_; exact hc)
  go_ret
  exact ⟨rfl, rfl⟩
end Go.Proofs.YteebjgfalllbjaaGreatDoor
