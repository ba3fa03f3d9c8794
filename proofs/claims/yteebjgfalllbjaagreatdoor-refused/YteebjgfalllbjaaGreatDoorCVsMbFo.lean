import Derived.Test.YteebjgfalllbjaaGreatDoorCSvDvVr
import Derived.Test.YteebjgfalllbjaaGreatDoorCSbTxRg2
import Derived.Test.YteebjgfalllbjaaGreatDoorCSeSuSa
namespace Go.Proofs.YteebjgfalllbjaaGreatDoor
open Go.RowKit
theorem bitLen_blen : ∀ p < 65, 1 ≤ p → Lib.bitLen p = blen p := by decide
section
variable {w : World} {R base : Nat} {room : Int} {ev : Value} {es : List (Nat × AS)}
theorem putOff_as (W : World) (a : AS) (clock pause : Int) {ck : Int} (ha : a.Ok ck) (hck : ck ≤ 1000000) (h1 : 1 ≤ pause) (h2 : pause ≤ 64) (hc0 : 0 ≤ clock) (hc1 : clock ≤ 1000000) : Calls Tryz.prog 163 #[.agg a.told.cs.toArray, .int .i64 clock, .int .i64 pause] W fun e w' => e = .returned (.agg (a.vain clock pause).told.cs.toArray) ∧ Fr (fun _ => False) W w' := by
  obtain ⟨id, st, ⟨s1, s2⟩, tries, due⟩ := a
  have ht0 : 0 ≤ tries := ha.t0
  have ht1 : tries ≤ ck := ha.t1
  obtain ⟨n, rfl⟩ : ∃ n : Nat, tries = n := ⟨tries.toNat, by omega⟩
  obtain ⟨q, rfl⟩ : ∃ q : Nat, pause = q := ⟨pause.toNat, by omega⟩
  have hb := bitLen_blen q (by omega) (by omega)
  have hw := wait_bl q (by omega) (by omega) n
  have HP := putOff_ok W id s1 s2 st.length due n (min n (blen q)) clock q h1 h2 (by rw [Int.toNat_natCast, hb]; omega) (by omega) hc0 hc1
  have e : ST.off ⟨id, s1, s2, st.length, (n : Nat), due⟩ clock q (min n (blen q)) = AS.told (AS.vain ⟨id, st, (s1, s2), (n : Int), due⟩ clock q) := by
    unfold ST.off AS.told AS.vain
    simp only [Int.toNat_natCast, ← hw]
    congr 2
    omega
  rw [e] at HP
  exact HP
set_option maxRecDepth 100000 in
set_option maxHeartbeats 4000000 in
theorem rPutOff_ok (h : RollAt w R base room ev es) (hs : Sorted es) (hn : es.length ≤ 100000) {ck : Int} (hok : ∀ p ∈ es, p.2.Ok ck) (hck : ck ≤ 1000000) {p : Nat × AS} (hp : p ∈ es) (clock pause : Int) (h1 : 1 ≤ pause) (h2 : pause ≤ 64) (hc0 : 0 ≤ clock) (hc1 : clock ≤ 1000000) : Calls Tryz.prog 150 #[.pointer (some ⟨R, 0, none⟩), .int .i64 p.2.id, .int .i64 clock, .int .i64 pause] w fun e w' => e = .returned (.tuple #[]) ∧ RollAt w' R base room ev (mapE es p.2.id (·.vain clock pause)) ∧ Fr (fun b => b = p.1) w w' := by
  have hlift : Tryz.prog.follows .mixedOrders = true := by kernel_rfl
  obtain ⟨id, hid⟩ : ∃ id, id = p.2.id := ⟨_, rfl⟩
  rw [← hid]
  have HID : Hid (id = p.2.id) := hid
  clear hid
  have HC := rfind_ok h hs hn id
  go_enter Tryz.func150, Tryz.ntmps150
  go_wp2_with fail
  refine HC.mono ?_
  rintro e w3 ⟨v, rfl, hv, hf3⟩
  have h3 := h.frz hf3
  obtain rfl : v = epv p := by
    rcases hv with ⟨q, hq, he, rfl⟩ | ⟨hno, _⟩
    · rw [sorted_uniq hs hq hp (he.trans HID.out)]
    · exact absurd HID.out.symm (hno p hp)
  clear HC h hv
  unfold epv
  have hpo := hok p hp
  have hr := h3.stand hp hpo.l6
  have HP := fun W => putOff_as W p.2 clock pause hpo hck h1 h2 hc0 hc1
  go_wp2_with (first | (refine wpList_load_mid rfl 138 _ rfl p.1 14 ?_ _ _ hr Tryz.underlying138 rfl ?_ ?_; rfl; exact stand_size))
  refine (HP _).mono ?_
  rintro e w4 ⟨rfl, hf4⟩
  have h4 := h3.frz hf4
  have hst := run_storeAt_row (P := Tryz.prog) (o := 14) (ty := 138) (vs := (p.2.vain clock pause).told.cs) (h4.e p hp).2 (by rw [entC_len _ hpo.l6]; exact Nat.le_refl 20) (ST.one _) (by rw [stand_size]; rfl)
  rw [ent_splice p.2 (p.2.vain clock pause) hpo.l6 rfl rfl] at hst
  obtain ⟨hRT, hFT⟩ := h4.turn hs hp (·.vain clock pause) rfl
  obtain ⟨WE, HWE⟩ : ∃ WE, Hid (WE = w4.setRow p.1 (entC (p.2.vain clock pause)).toArray) := ⟨_, rfl⟩
  have HE : Hid (RollAt WE R base room ev (mapE es id (·.vain clock pause)) ∧ Fr (fun b => b = p.1) w WE) := ⟨by rw [HID.out, HWE.out]; exact hRT, by rw [HWE.out]; exact ((hf3.trans hf4 (fun _ _ h => h)).mono (fun _ _ h => h.elim)).trans hFT (fun _ _ h => h)⟩
  rw [← HWE.out] at hst
  clear hRT hFT h4 h3 HP hr HWE
  go_wp2_with (first | (refine wpList_store 138 (w' := WE) _ _ rfl rfl ?_ ?_; exact hst))
  exact bodyPost_end (results_none rfl _ _ _) rfl ⟨rfl, HE.out.1, HE.out.2⟩
end
end Go.Proofs.YteebjgfalllbjaaGreatDoor
namespace Go.Proofs.YteebjgfalllbjaaGreatDoor
open Go.RowKit
theorem bodyM_len (id n : Nat) : (bodyS id n [] 0).length = 124 := by rw [bodyS_nil]; simp
set_option maxRecDepth 100000 in
set_option maxHeartbeats 4000000 in
theorem mBlock_ok (w : World) (id n : Nat) (hid : id ≤ 1000) (hn : n ≤ 2) : Calls Tryz.prog 151 #[.agg #[.int .i64 id, .int .i64 n]] w fun e w' => e = .returned (.agg (ldB 3 (bodyS id n [] 0) 4).toArray) ∧ Fr (fun _ => False) w w' := by
  obtain ⟨W, HW⟩ : ∃ W, Hid (W = ((w.alloc (.cells #[.int .i64 id, .int .i64 n] 196)).alloc (.cells Tryz.zeroCells130 130)).alloc (.cells Tryz.zeroCells182 182)) := ⟨_, rfl⟩
  have hF : Fr (fun _ => False) w W := by rw [HW.out]; exact (((Fr.refl _ _).alloc _).alloc _).alloc _
  have r0 : W.heap[w.heap.size]? = some (.cells #[.int .i64 id, .int .i64 n] 196 (0, 0)) := by
    rw [HW.out, heap_alloc_lt _ _ _ (by simp; omega), heap_alloc_lt _ _ _ (by simp)]; exact heap_alloc_at _ _
  have r1 : W.heap[w.heap.size + 1]? = some (.cells zB.toArray 130 (0, 0)) := by
    rw [HW.out, heap_alloc_lt _ _ _ (by simp)]; exact heap_alloc2_new w _ _
  have r2 : W.heap[w.heap.size + 2]? = some (.cells (zv :: zv :: List.replicate 122 zv).toArray 182 (0, 0)) := by
    rw [HW.out]
    have := heap_alloc_at ((w.alloc (.cells #[.int .i64 id, .int .i64 n] 196)).alloc (.cells Tryz.zeroCells130 130)) (.cells Tryz.zeroCells182 182)
    simp only [World.size_alloc] at this
    rw [zeroB_eq] at this ⊢
    exact this
  have c0 : (((w.alloc (.cells #[.int .i64 id, .int .i64 n] 196)).alloc (.cells Tryz.zeroCells130 130)).alloc (.cells Tryz.zeroCells182 182)).cell? ⟨w.heap.size, 0, none⟩ = some (.int .i64 id) := by rw [← HW.out]; exact (cell_of_row _ _ 0 _ _ _ r0).trans rfl
  go_enter Tryz.func151, Tryz.ntmps151
  go_wp2_with fail
  rw [← HW.out]
  refine (putId_ok r2 id hid).mono ?_
  rintro e w1 ⟨rfl, h2, hf1⟩
  have h0 := hf1.keep r0 (by omega)
  have h1 := hf1.keep r1 (by omega)
  have hF1 : Fr (fun _ => False) w w1 := hF.trans hf1 (fun _ _ h => by omega)
  have c1 : w1.cell? ⟨w.heap.size, 1, none⟩ = some (.int .i64 n) := (cell_of_row _ _ 1 _ _ _ h0).trans rfl
  have hst := run_storeAt_one (P := Tryz.prog) (w := w1) (a := ⟨w.heap.size + 2, 2, none⟩) (t := 5) (v := .int .u8 n) ((cell_of_row _ _ 2 _ _ _ h2).trans rfl) (frozen_of_row _ _ 2 _ _ h2) (by kernel_rfl) rfl
  have k2 : (w1.setCell ⟨w.heap.size + 2, 2, none⟩ (.int .u8 n)).heap[w.heap.size + 2]? = some (.cells (bodyS id n [] 0).toArray 182 (0, 0)) := by
    rw [heap_setCell_at _ _ _ _ _ _ h2, bodyS_nil]
    rfl
  have hf2 : Fr (fun b => b = w.heap.size + 2) w1 (w1.setCell ⟨w.heap.size + 2, 2, none⟩ (.int .u8 n)) := Fr.set1 _ _ _ _
  obtain ⟨W2, HW2⟩ : ∃ W2, Hid (W2 = w1.setCell ⟨w.heap.size + 2, 2, none⟩ (.int .u8 n)) := ⟨_, rfl⟩
  rw [← HW2.out] at hst k2 hf2
  have HI : Hid (Fr (fun _ => False) w W2 ∧ W2.heap[w.heap.size + 1]? = some (.cells zB.toArray 130 (0, 0))) := ⟨hF1.trans hf2 (fun _ _ h => by omega), hf2.keep h1 (by omega)⟩
  have hwn : IntKind.u8.wrap (n : Int) = n := by rw [IntKind.wrap_u8]; omega
  have hwm : (n : Int) % 256 = n := by omega
  have hbl := bodyM_len id n
  have hb1 : ∀ v ∈ bodyS id n [] 0, v.oneCell' = true := bodyS_one _ _ _ _
  have hM6 : W2.rangeAt (w.heap.size + 1 + 1) 0 (bodyS id n [] 0) := fun j v hv => (cell_of_row W2 _ (0 + j) _ _ _ k2).trans (by simpa using hv)
  clear HW HW2 hF r0 r1 r2 c0 hf1 h0 h1 h2 hf2 k2
  go_wp2_with (first | (refine wpList_store 5 (w' := W2) _ _ rfl rfl ?_ ?_; exact hst) | (refine wpList_load_mid rfl 182 _ rfl (w.heap.size + 1 + 1) 0 ?_ _ _ hM6 Tryz.underlying182 rfl ?_ ?_; rfl; (rw [body_size, hbl])))
  refine (laid_ok W2 3 _ hbl hb1).mono ?_
  rintro e w7 ⟨rfl, hf7⟩
  have r7 := hf7.keep HI.out.2 (fun h => h)
  have hll : (ldB 3 (bodyS id n [] 0) 4).length = 128 := ldB_len 3 _ hbl 4 (by omega)
  have hst7 := run_store_blk r7 zB_len hll (ldB_one 3 _ hb1 4)
  have hRE := setRow_heap w7 (w.heap.size + 1) _ (ldB 3 (bodyS id n [] 0) 4).toArray 130 (0, 0) r7
  obtain ⟨WE, HWE⟩ : ∃ WE, Hid (WE = w7.setRow (w.heap.size + 1) (ldB 3 (bodyS id n [] 0) 4).toArray) := ⟨_, rfl⟩
  have hFE : Fr (fun _ => False) w WE := by rw [HWE.out]; exact (HI.out.1.trans hf7 (fun _ _ h => h)).setRow _ (fun h => by omega) _
  rw [← HWE.out] at hst7 hRE
  clear HWE hM6 HI hf7 r7
  go_wp2_with (first | (refine wpList_store 130 (w' := WE) _ _ rfl rfl ?_ ?_; exact hst7))
  refine bodyPost_ret (v := .agg (ldB 3 (bodyS id n [] 0) 4).toArray) (results_cell_row Tryz.results151 _ _ (w.heap.size + 1) 130 _ (0, 0) _ rfl hRE Tryz.underlying130 rfl (by rw [block_size, List.size_toArray, hll])) rfl ⟨rfl, hFE⟩
end Go.Proofs.YteebjgfalllbjaaGreatDoor
namespace Go.Proofs.YteebjgfalllbjaaGreatDoor
open Go.RowKit
/-- A move is loaded whole. -/
theorem loadM {w : World} {g : Nat} {id reply : Int} {t : TypeId} (h : w.heap[g]? = some (.cells #[.int .i64 id, .int .i64 reply] t (0, 0))) : (Instr.loadAt 196 (.pointer (some ⟨g, 0, none⟩))).run Tryz.prog w = .ok (.agg #[.int .i64 id, .int .i64 reply]) w :=
  run_loadAt_mid w g 0 196 [.int .i64 id, .int .i64 reply] _ (fun j v hv => (cell_of_row w g (0 + j) _ _ _ h).trans (by simpa using hv)) Tryz.underlying196 rfl (by kernel_rfl)
section
variable {w : World} {X J R V A B n base e : Nat} {room clock pause calls writes : Int} {ev cv : Value} {es : List (Nat × AS)} {s : Bool} {bs : List Value}
set_option maxRecDepth 100000 in
set_option maxHeartbeats 4000000 in
theorem follow_off (he : EngAt w X J R clock pause cv) (h : RollAt w R base room ev es) (hs : Sorted es) (hn : es.length ≤ 100000) {ck : Int} (hok : ∀ p ∈ es, p.2.Ok ck) (hck : ck ≤ 1000000) {p : Nat × AS} (hp : p ∈ es) (reply : Int) (hno : ¬ (p.2.open ∧ p.2.moves reply = true)) (hp1 : 1 ≤ pause) (hp2 : pause ≤ 64) (hc0 : 0 ≤ clock) (hc1 : clock ≤ 1000000) (nX : p.1 ≠ X) : Calls Tryz.prog 105 #[.pointer (some ⟨X, 0, none⟩), .agg #[.int .i64 p.2.id, .int .i64 reply]] w fun e' w' => e' = .returned .nilIface ∧ RollAt w' R base room ev (mapE es p.2.id (·.vain clock pause)) ∧ Fr (fun b => b = p.1) w w' := by
  have hlift : Tryz.prog.follows .mixedOrders = true := by kernel_rfl
  have HPO := fun (W : World) (hW : RollAt W R base room ev es) => rPutOff_ok hW hs hn hok hck hp clock pause hp1 hp2 hc0 hc1
  have hb : mvE es p.2.id reply = false := by
    rw [mvE_of hs hp rfl]
    by_cases ho : p.2.open <;> cases hm : p.2.moves reply <;> simp_all
  obtain ⟨id, hid⟩ : ∃ id, id = p.2.id := ⟨_, rfl⟩
  rw [← hid] at HPO hb ⊢
  have HB : Hid (mvE es id reply = false) := hb
  clear hid hb
  have hrow := heap_alloc_at w (.cells #[.int .i64 id, .int .i64 reply] 196)
  have hfa : Fr (fun _ => False) w (w.alloc (.cells #[.int .i64 id, .int .i64 reply] 196)) := (Fr.refl _ _).alloc _
  have nM : p.1 ≠ w.heap.size := by have := lt_of_heap (h.e p hp).2; omega
  have HS : ∀ w', Fr (fun _ => False) (w.alloc (.cells #[.int .i64 id, .int .i64 reply] 196)) w' → EngAt w' X J R clock pause cv ∧ w'.heap[w.heap.size]? = some (.cells #[.int .i64 id, .int .i64 reply] 196 (0, 0)) := fun w' hf => ⟨hf.keep (hfa.keep he (fun h => h)) (fun h => h), hf.keep hrow (fun h => h)⟩
  go_enter Tryz.func105, Tryz.ntmps105
  go_wp2_with fail
  obtain ⟨W, HW⟩ : ∃ W, Hid (W = (w.alloc (.cells #[.int .i64 id, .int .i64 reply] 196)).drew) := ⟨_, rfl⟩
  have hfW : Fr (fun _ => False) (w.alloc (.cells #[.int .i64 id, .int .i64 reply] 196)) W := by rw [HW.out]; exact (Fr.refl _ _).drew
  let S : World → Prop := fun w' => EngAt w' X J R clock pause cv ∧ w'.heap[w.heap.size]? = some (.cells #[.int .i64 id, .int .i64 reply] 196 (0, 0))
  have hS : S W := HS W hfW
  refine wp_region_held (S := S) hlift ?_
  change wpAnyH _ _ _ _ S _ _ _ (World.drew _)
  rw [← HW.out]
  clear HW
  refine wpAnyH_take (S := S) (i := 0) (oi := ⟨some 6, .move (.tmp 0), _, _, _, none⟩) (v := .pointer (some ⟨X, 0, none⟩)) rfl (by kernel_rfl) (by kernel_rfl) (by kernel_rfl) (fun _ _ _ h => h) (Or.inl ⟨rfl, fun _ _ => rfl⟩) hS ?_
  simp only [Act.put, List.setIfInBounds_toArray, List.set_cons_zero, List.set_cons_succ]
  refine wpAnyH_take (S := S) (i := 1) (oi := ⟨some 7, .nilCheck (.tmp 6), _, _, _, none⟩) (v := .pointer (some ⟨X, 0, none⟩)) rfl (by kernel_rfl) (by kernel_rfl) (by kernel_rfl) (fun _ _ _ h => h) (Or.inl ⟨rfl, fun _ _ => by kernel_rfl⟩) hS ?_
  simp only [Act.put, List.setIfInBounds_toArray, List.set_cons_zero, List.set_cons_succ]
  refine wpAnyH_take (S := S) (i := 2) (oi := ⟨some 8, .fieldAddr 91 (.tmp 7) 1, _, _, _, none⟩) (v := .pointer (some ⟨X, 1, none⟩)) rfl (by kernel_rfl) (by kernel_rfl) (by kernel_rfl) (fun _ _ _ h => h) (Or.inl ⟨rfl, fun _ _ => by kernel_rfl⟩) hS ?_
  simp only [Act.put, List.setIfInBounds_toArray, List.set_cons_zero, List.set_cons_succ]
  refine wpAnyH_take (S := S) (i := 3) (oi := ⟨some 9, .load 88 (.tmp 8), _, _, _, none⟩) (v := .pointer (some ⟨R, 0, none⟩)) rfl (by kernel_rfl) (by kernel_rfl) (by kernel_rfl) (fun _ _ _ h => h) (Or.inl ⟨rfl, fun w' hs => exec_load 88 (.tmp 8) rfl ⟨X, 1, none⟩ rfl (run_loadAt_one ((cell_of_row _ X 1 _ _ _ hs.1).trans rfl) Tryz.underlying88 rfl)⟩) hS ?_
  simp only [Act.put, List.setIfInBounds_toArray, List.set_cons_zero, List.set_cons_succ]
  refine wpAnyH_take (S := S) (i := 4) (oi := ⟨some 10, .load 196 (.tmp 3), _, _, _, none⟩) (v := .agg #[.int .i64 id, .int .i64 reply]) rfl (by kernel_rfl) (by kernel_rfl) (by kernel_rfl) (fun _ _ _ h => h) (Or.inl ⟨rfl, fun w' hs => exec_load 196 (.tmp 3) rfl ⟨w.heap.size, 0, none⟩ rfl (loadM hs.2)⟩) hS ?_
  simp only [Act.put, List.setIfInBounds_toArray, List.set_cons_zero, List.set_cons_succ]
  refine wpAnyH_all (rs := [5]) (by kernel_rfl) (by simp) ?_
  intro i5 hi5
  obtain rfl : i5 = 5 := by simpa using hi5
  refine wpOp_call (o := ⟨some 11, .call { callee := .value (.func 117), args := #[(.tmp 9), (.tmp 10)], argTypes := _ }, _, _, _, none⟩) (f := 117) (args := #[.pointer (some ⟨R, 0, none⟩), .agg #[.int .i64 id, .int .i64 reply]]) rfl rfl (by kernel_rfl) ?_
  refine (rMoves_ok (h.frz (hfa.trans hfW (fun _ _ h => h))) hs hn hok id reply).mono ?_
  rintro e1 w2 ⟨rfl, hf2⟩
  rw [HB.out]
  have hF2 : Fr (fun _ => False) w w2 := (hfa.trans hfW (fun _ _ h => h)).trans hf2 (fun _ _ h => h)
  have hG2 := hfW.trans hf2 (fun _ _ h => h)
  have hS2 : S w2 := HS _ hG2
  refine ⟨_, rfl, hS2, ?_⟩
  simp only [Act.put, List.setIfInBounds_toArray, List.set_cons_zero, List.set_cons_succ]
  refine wpAnyH_take (S := S) (i := 6) (oi := ⟨some 12, .unOp .not 4 (.tmp 11), _, _, _, none⟩) (v := .bool true) rfl (by kernel_rfl) (by kernel_rfl) (by kernel_rfl) (fun _ _ _ h => h) (Or.inl ⟨rfl, fun _ _ => by kernel_rfl⟩) hS2 ?_
  simp only [Act.put, List.setIfInBounds_toArray, List.set_cons_zero, List.set_cons_succ]
  refine wpAnyH_done (by kernel_rfl) ?_ _
  have h2 := h.frz hF2
  clear hS hS2 hfa hfW hf2 h
  go_wp2_with fail
  obtain ⟨W4, HW4⟩ : ∃ W4, Hid (W4 = w2.drew) := ⟨_, rfl⟩
  have hfW4 : Fr (fun _ => False) w2 W4 := by rw [HW4.out]; exact (Fr.refl _ _).drew
  let S4 : World → Prop := fun w' => EngAt w' X J R clock pause cv ∧ w'.heap[w.heap.size]? = some (.cells #[.int .i64 id, .int .i64 reply] 196 (0, 0))
  have hS4 : S4 W4 := HS W4 (hG2.trans hfW4 (fun _ _ h => h))
  refine wp_region_held (S := S4) hlift ?_
  change wpAnyH _ _ _ _ S4 _ _ _ (World.drew _)
  rw [← HW4.out]
  clear HW4
  refine wpAnyH_take (S := S4) (i := 0) (oi := ⟨some 13, .move (.tmp 0), _, _, _, none⟩) (v := .pointer (some ⟨X, 0, none⟩)) rfl (by kernel_rfl) (by kernel_rfl) (by kernel_rfl) (fun _ _ _ h => h) (Or.inl ⟨rfl, fun _ _ => rfl⟩) hS4 ?_
  simp only [Act.put, List.setIfInBounds_toArray, List.set_cons_zero, List.set_cons_succ]
  refine wpAnyH_take (S := S4) (i := 1) (oi := ⟨some 14, .nilCheck (.tmp 13), _, _, _, none⟩) (v := .pointer (some ⟨X, 0, none⟩)) rfl (by kernel_rfl) (by kernel_rfl) (by kernel_rfl) (fun _ _ _ h => h) (Or.inl ⟨rfl, fun _ _ => by kernel_rfl⟩) hS4 ?_
  simp only [Act.put, List.setIfInBounds_toArray, List.set_cons_zero, List.set_cons_succ]
  refine wpAnyH_take (S := S4) (i := 2) (oi := ⟨some 15, .fieldAddr 91 (.tmp 14) 1, _, _, _, none⟩) (v := .pointer (some ⟨X, 1, none⟩)) rfl (by kernel_rfl) (by kernel_rfl) (by kernel_rfl) (fun _ _ _ h => h) (Or.inl ⟨rfl, fun _ _ => by kernel_rfl⟩) hS4 ?_
  simp only [Act.put, List.setIfInBounds_toArray, List.set_cons_zero, List.set_cons_succ]
  refine wpAnyH_take (S := S4) (i := 3) (oi := ⟨some 16, .load 88 (.tmp 15), _, _, _, none⟩) (v := .pointer (some ⟨R, 0, none⟩)) rfl (by kernel_rfl) (by kernel_rfl) (by kernel_rfl) (fun _ _ _ h => h) (Or.inl ⟨rfl, fun w' hs => exec_load 88 (.tmp 15) rfl ⟨X, 1, none⟩ rfl (run_loadAt_one ((cell_of_row _ X 1 _ _ _ hs.1).trans rfl) Tryz.underlying88 rfl)⟩) hS4 ?_
  simp only [Act.put, List.setIfInBounds_toArray, List.set_cons_zero, List.set_cons_succ]
  refine wpAnyH_take (S := S4) (i := 4) (oi := ⟨some 17, .fieldAddr 196 (.tmp 3) 0, _, _, _, none⟩) (v := .pointer (some ⟨w.heap.size, 0, none⟩)) rfl (by kernel_rfl) (by kernel_rfl) (by kernel_rfl) (fun _ _ _ h => h) (Or.inl ⟨rfl, fun _ _ => by kernel_rfl⟩) hS4 ?_
  simp only [Act.put, List.setIfInBounds_toArray, List.set_cons_zero, List.set_cons_succ]
  refine wpAnyH_take (S := S4) (i := 5) (oi := ⟨some 18, .load 3 (.tmp 17), _, _, _, none⟩) (v := .int .i64 id) rfl (by kernel_rfl) (by kernel_rfl) (by kernel_rfl) (fun _ _ _ h => h) (Or.inl ⟨rfl, fun w' hs => exec_load 3 (.tmp 17) rfl ⟨w.heap.size, 0, none⟩ rfl (run_loadAt_one ((cell_of_row _ w.heap.size 0 _ _ _ hs.2).trans rfl) Tryz.underlying3 rfl)⟩) hS4 ?_
  simp only [Act.put, List.setIfInBounds_toArray, List.set_cons_zero, List.set_cons_succ]
  refine wpAnyH_take (S := S4) (i := 6) (oi := ⟨some 19, .move (.tmp 0), _, _, _, none⟩) (v := .pointer (some ⟨X, 0, none⟩)) rfl (by kernel_rfl) (by kernel_rfl) (by kernel_rfl) (fun _ _ _ h => h) (Or.inl ⟨rfl, fun _ _ => rfl⟩) hS4 ?_
  simp only [Act.put, List.setIfInBounds_toArray, List.set_cons_zero, List.set_cons_succ]
  refine wpAnyH_take (S := S4) (i := 7) (oi := ⟨some 20, .nilCheck (.tmp 19), _, _, _, none⟩) (v := .pointer (some ⟨X, 0, none⟩)) rfl (by kernel_rfl) (by kernel_rfl) (by kernel_rfl) (fun _ _ _ h => h) (Or.inl ⟨rfl, fun _ _ => by kernel_rfl⟩) hS4 ?_
  simp only [Act.put, List.setIfInBounds_toArray, List.set_cons_zero, List.set_cons_succ]
  refine wpAnyH_take (S := S4) (i := 8) (oi := ⟨some 21, .fieldAddr 91 (.tmp 20) 3, _, _, _, none⟩) (v := .pointer (some ⟨X, 3, none⟩)) rfl (by kernel_rfl) (by kernel_rfl) (by kernel_rfl) (fun _ _ _ h => h) (Or.inl ⟨rfl, fun _ _ => by kernel_rfl⟩) hS4 ?_
  simp only [Act.put, List.setIfInBounds_toArray, List.set_cons_zero, List.set_cons_succ]
  refine wpAnyH_take (S := S4) (i := 9) (oi := ⟨some 22, .load 3 (.tmp 21), _, _, _, none⟩) (v := .int .i64 clock) rfl (by kernel_rfl) (by kernel_rfl) (by kernel_rfl) (fun _ _ _ h => h) (Or.inl ⟨rfl, fun w' hs => exec_load 3 (.tmp 21) rfl ⟨X, 3, none⟩ rfl (run_loadAt_one ((cell_of_row _ X 3 _ _ _ hs.1).trans rfl) Tryz.underlying3 rfl)⟩) hS4 ?_
  simp only [Act.put, List.setIfInBounds_toArray, List.set_cons_zero, List.set_cons_succ]
  refine wpAnyH_take (S := S4) (i := 10) (oi := ⟨some 23, .move (.tmp 0), _, _, _, none⟩) (v := .pointer (some ⟨X, 0, none⟩)) rfl (by kernel_rfl) (by kernel_rfl) (by kernel_rfl) (fun _ _ _ h => h) (Or.inl ⟨rfl, fun _ _ => rfl⟩) hS4 ?_
  simp only [Act.put, List.setIfInBounds_toArray, List.set_cons_zero, List.set_cons_succ]
  refine wpAnyH_take (S := S4) (i := 11) (oi := ⟨some 24, .nilCheck (.tmp 23), _, _, _, none⟩) (v := .pointer (some ⟨X, 0, none⟩)) rfl (by kernel_rfl) (by kernel_rfl) (by kernel_rfl) (fun _ _ _ h => h) (Or.inl ⟨rfl, fun _ _ => by kernel_rfl⟩) hS4 ?_
  simp only [Act.put, List.setIfInBounds_toArray, List.set_cons_zero, List.set_cons_succ]
  refine wpAnyH_take (S := S4) (i := 12) (oi := ⟨some 25, .fieldAddr 91 (.tmp 24) 4, _, _, _, none⟩) (v := .pointer (some ⟨X, 4, none⟩)) rfl (by kernel_rfl) (by kernel_rfl) (by kernel_rfl) (fun _ _ _ h => h) (Or.inl ⟨rfl, fun _ _ => by kernel_rfl⟩) hS4 ?_
  simp only [Act.put, List.setIfInBounds_toArray, List.set_cons_zero, List.set_cons_succ]
  refine wpAnyH_take (S := S4) (i := 13) (oi := ⟨some 26, .load 3 (.tmp 25), _, _, _, none⟩) (v := .int .i64 pause) rfl (by kernel_rfl) (by kernel_rfl) (by kernel_rfl) (fun _ _ _ h => h) (Or.inl ⟨rfl, fun w' hs => exec_load 3 (.tmp 25) rfl ⟨X, 4, none⟩ rfl (run_loadAt_one ((cell_of_row _ X 4 _ _ _ hs.1).trans rfl) Tryz.underlying3 rfl)⟩) hS4 ?_
  simp only [Act.put, List.setIfInBounds_toArray, List.set_cons_zero, List.set_cons_succ]
  refine wpAnyH_all (rs := [14]) (by kernel_rfl) (by simp) ?_
  intro i14 hi14
  obtain rfl : i14 = 14 := by simpa using hi14
  refine wpOp_call (o := ⟨some 27, .call { callee := .value (.func 150), args := #[(.tmp 16), (.tmp 18), (.tmp 22), (.tmp 26)], argTypes := _ }, _, _, _, none⟩) (f := 150) (args := #[.pointer (some ⟨R, 0, none⟩), .int .i64 id, .int .i64 clock, .int .i64 pause]) rfl rfl (by kernel_rfl) ?_
  refine (HPO W4 (h2.frz hfW4)).mono ?_
  rintro e1 w5 ⟨rfl, hR5, hf5⟩
  have hS5 : S4 w5 := ⟨hf5.keep hS4.1 (fun e => nX e.symm), hf5.keep hS4.2 (fun e => nM e.symm)⟩
  refine ⟨_, rfl, hS5, ?_⟩
  simp only [Act.put, List.setIfInBounds_toArray, List.set_cons_zero, List.set_cons_succ]
  refine wpAnyH_done (by kernel_rfl) ?_ _
  have HE : Hid (RollAt w5 R base room ev (mapE es id (·.vain clock pause)) ∧ Fr (fun b => b = p.1) w w5) := ⟨hR5, ((hF2.trans hfW4 (fun _ _ h => h)).mono (fun _ _ h => h.elim)).trans hf5 (fun _ _ h => h)⟩
  clear hS4 hS5 hR5 hf5 h2 hF2 hfW4 HS HPO
  go_wp2
  go_ret
  exact ⟨rfl, HE.out.1, HE.out.2⟩
set_option maxRecDepth 100000 in
set_option maxHeartbeats 4000000 in
theorem follow_go (he : EngAt w X J R clock pause cv) (h : RollAt w R base room ev es) (hs : Sorted es) (hn : es.length ≤ 100000) {ck : Int} (hok : ∀ p ∈ es, p.2.Ok ck) {p : Nat × AS} (hp : p ∈ es) (reply : Nat) (ho : p.2.open) (hm : p.2.moves reply = true) (hr2 : reply ≤ 2) (k : Nat) (hk : (k : Int) = p.2.id) (hk1 : k ≤ 1000) (hj : JnS w J V A B n calls writes e s bs) (h0 : 0 ≤ calls) (h1 : calls < 90000000) (h2' : 0 ≤ writes) (h3 : writes < 90000000) (hen : e < n) (hn4 : n ≤ 400) (hz : (bs.drop (e * 128)).take 128 = zB) (hdis : ∀ b, RollF R ev es b → b ≠ A ∧ b ≠ B ∧ b ≠ J ∧ b ≠ V ∧ b ≠ X) : Calls Tryz.prog 105 #[.pointer (some ⟨X, 0, none⟩), .agg #[.int .i64 p.2.id, .int .i64 reply]] w fun e' w' => e' = .returned .nilIface ∧ RollAt w' R base room ev (mapE es p.2.id (·.go reply)) ∧ (∃ calls' writes', calls ≤ calls' ∧ calls' ≤ calls + sx s + 2 ∧ writes ≤ writes' ∧ writes' ≤ writes + 2 ∧ JnS w' J V A B n calls' writes' ((e : Int) + 1) true (splice bs (e * 128) (ldB 3 (bodyS k reply [] 0) 4))) ∧ Fr (fun b => b = A ∨ b = B ∨ b = J ∨ b = p.1) w w' := by
  have hlift : Tryz.prog.follows .mixedOrders = true := by kernel_rfl
  have hb : mvE es p.2.id reply = true := by
    rw [mvE_of hs hp rfl]
    simp [ho, hm]
  have HMB := fun W => mBlock_ok W k reply hk1 hr2
  rw [hk] at HMB
  have hbl : (ldB 3 (bodyS k reply [] 0) 4).length = 128 := ldB_len 3 _ (bodyM_len k reply) 4 (by omega)
  have hb1 : ∀ v ∈ ldB 3 (bodyS k reply [] 0) 4, v.oneCell' = true := ldB_one 3 _ (bodyS_one _ _ _ _) 4
  generalize ldB 3 (bodyS k reply [] 0) 4 = blk at *
  obtain ⟨id, hid⟩ : ∃ id, id = p.2.id := ⟨_, rfl⟩
  rw [← hid] at HMB hb
  have HB : Hid (mvE es id reply = true) := hb
  have HID : Hid (id = p.2.id) := hid
  have nX : p.1 ≠ X := (hdis p.1 (.inr (.inr ⟨p, hp, rfl⟩))).2.2.2.2
  have hXJ : X ≠ J := fun e => by have := he; unfold EngAt at this; rw [e] at this; have := this.symm.trans hj.j; simp at this
  have hXA : X ≠ A := fun e => by have := he; unfold EngAt at this; rw [e] at this; have := this.symm.trans hj.d; simp [dcells] at this
  have hXB : X ≠ B := fun e => by have := he; unfold EngAt at this; rw [e] at this; have := this.symm.trans hj.r.1; simp at this
  have hlA := lt_of_heap hj.d
  have hlB := lt_of_heap hj.r.1
  have hlJ := lt_of_heap hj.j
  have hrow := heap_alloc_at w (.cells #[.int .i64 id, .int .i64 reply] 196)
  have hfa : Fr (fun _ => False) w (w.alloc (.cells #[.int .i64 id, .int .i64 reply] 196)) := (Fr.refl _ _).alloc _
  have nM : p.1 ≠ w.heap.size := by have := lt_of_heap (h.e p hp).2; omega
  suffices HG : Calls Tryz.prog 105 #[.pointer (some ⟨X, 0, none⟩), .agg #[.int .i64 id, .int .i64 reply]] w fun e' w' => e' = .returned .nilIface ∧ RollAt w' R base room ev (mapE es p.2.id (·.go reply)) ∧ (∃ calls' writes', calls ≤ calls' ∧ calls' ≤ calls + sx s + 2 ∧ writes ≤ writes' ∧ writes' ≤ writes + 2 ∧ JnS w' J V A B n calls' writes' ((e : Int) + 1) true (splice bs (e * 128) blk)) ∧ Fr (fun b => b = A ∨ b = B ∨ b = J ∨ b = p.1) w w' by
    rw [hid] at HG
    exact HG
  clear hid hb
  have HS : ∀ w', Fr (fun _ => False) (w.alloc (.cells #[.int .i64 id, .int .i64 reply] 196)) w' → EngAt w' X J R clock pause cv ∧ w'.heap[w.heap.size]? = some (.cells #[.int .i64 id, .int .i64 reply] 196 (0, 0)) := fun w' hf => ⟨hf.keep (hfa.keep he (fun h => h)) (fun h => h), hf.keep hrow (fun h => h)⟩
  go_enter Tryz.func105, Tryz.ntmps105
  go_wp2_with fail
  obtain ⟨W, HW⟩ : ∃ W, Hid (W = (w.alloc (.cells #[.int .i64 id, .int .i64 reply] 196)).drew) := ⟨_, rfl⟩
  have hfW : Fr (fun _ => False) (w.alloc (.cells #[.int .i64 id, .int .i64 reply] 196)) W := by rw [HW.out]; exact (Fr.refl _ _).drew
  let S : World → Prop := fun w' => EngAt w' X J R clock pause cv ∧ w'.heap[w.heap.size]? = some (.cells #[.int .i64 id, .int .i64 reply] 196 (0, 0))
  have hS : S W := HS W hfW
  refine wp_region_held (S := S) hlift ?_
  change wpAnyH _ _ _ _ S _ _ _ (World.drew _)
  rw [← HW.out]
  clear HW
  refine wpAnyH_take (S := S) (i := 0) (oi := ⟨some 6, .move (.tmp 0), _, _, _, none⟩) (v := .pointer (some ⟨X, 0, none⟩)) rfl (by kernel_rfl) (by kernel_rfl) (by kernel_rfl) (fun _ _ _ h => h) (Or.inl ⟨rfl, fun _ _ => rfl⟩) hS ?_
  simp only [Act.put, List.setIfInBounds_toArray, List.set_cons_zero, List.set_cons_succ]
  refine wpAnyH_take (S := S) (i := 1) (oi := ⟨some 7, .nilCheck (.tmp 6), _, _, _, none⟩) (v := .pointer (some ⟨X, 0, none⟩)) rfl (by kernel_rfl) (by kernel_rfl) (by kernel_rfl) (fun _ _ _ h => h) (Or.inl ⟨rfl, fun _ _ => by kernel_rfl⟩) hS ?_
  simp only [Act.put, List.setIfInBounds_toArray, List.set_cons_zero, List.set_cons_succ]
  refine wpAnyH_take (S := S) (i := 2) (oi := ⟨some 8, .fieldAddr 91 (.tmp 7) 1, _, _, _, none⟩) (v := .pointer (some ⟨X, 1, none⟩)) rfl (by kernel_rfl) (by kernel_rfl) (by kernel_rfl) (fun _ _ _ h => h) (Or.inl ⟨rfl, fun _ _ => by kernel_rfl⟩) hS ?_
  simp only [Act.put, List.setIfInBounds_toArray, List.set_cons_zero, List.set_cons_succ]
  refine wpAnyH_take (S := S) (i := 3) (oi := ⟨some 9, .load 88 (.tmp 8), _, _, _, none⟩) (v := .pointer (some ⟨R, 0, none⟩)) rfl (by kernel_rfl) (by kernel_rfl) (by kernel_rfl) (fun _ _ _ h => h) (Or.inl ⟨rfl, fun w' hs => exec_load 88 (.tmp 8) rfl ⟨X, 1, none⟩ rfl (run_loadAt_one ((cell_of_row _ X 1 _ _ _ hs.1).trans rfl) Tryz.underlying88 rfl)⟩) hS ?_
  simp only [Act.put, List.setIfInBounds_toArray, List.set_cons_zero, List.set_cons_succ]
  refine wpAnyH_take (S := S) (i := 4) (oi := ⟨some 10, .load 196 (.tmp 3), _, _, _, none⟩) (v := .agg #[.int .i64 id, .int .i64 reply]) rfl (by kernel_rfl) (by kernel_rfl) (by kernel_rfl) (fun _ _ _ h => h) (Or.inl ⟨rfl, fun w' hs => exec_load 196 (.tmp 3) rfl ⟨w.heap.size, 0, none⟩ rfl (loadM hs.2)⟩) hS ?_
  simp only [Act.put, List.setIfInBounds_toArray, List.set_cons_zero, List.set_cons_succ]
  refine wpAnyH_all (rs := [5]) (by kernel_rfl) (by simp) ?_
  intro i5 hi5
  obtain rfl : i5 = 5 := by simpa using hi5
  refine wpOp_call (o := ⟨some 11, .call { callee := .value (.func 117), args := #[(.tmp 9), (.tmp 10)], argTypes := _ }, _, _, _, none⟩) (f := 117) (args := #[.pointer (some ⟨R, 0, none⟩), .agg #[.int .i64 id, .int .i64 reply]]) rfl rfl (by kernel_rfl) ?_
  refine (rMoves_ok (h.frz (hfa.trans hfW (fun _ _ h => h))) hs hn hok id reply).mono ?_
  rintro e1 w2 ⟨rfl, hf2⟩
  rw [HB.out]
  have hF2 : Fr (fun _ => False) w w2 := (hfa.trans hfW (fun _ _ h => h)).trans hf2 (fun _ _ h => h)
  have hG2 := hfW.trans hf2 (fun _ _ h => h)
  have hS2 : S w2 := HS _ hG2
  refine ⟨_, rfl, hS2, ?_⟩
  simp only [Act.put, List.setIfInBounds_toArray, List.set_cons_zero, List.set_cons_succ]
  refine wpAnyH_take (S := S) (i := 6) (oi := ⟨some 12, .unOp .not 4 (.tmp 11), _, _, _, none⟩) (v := .bool false) rfl (by kernel_rfl) (by kernel_rfl) (by kernel_rfl) (fun _ _ _ h => h) (Or.inl ⟨rfl, fun _ _ => by kernel_rfl⟩) hS2 ?_
  simp only [Act.put, List.setIfInBounds_toArray, List.set_cons_zero, List.set_cons_succ]
  refine wpAnyH_done (by kernel_rfl) ?_ _
  have h2 := h.frz hF2
  clear hS hS2 hfa hfW hf2 h
  go_wp2_with fail
  obtain ⟨W4, HW4⟩ : ∃ W4, Hid (W4 = w2.drew) := ⟨_, rfl⟩
  have hfW4 : Fr (fun _ => False) w2 W4 := by rw [HW4.out]; exact (Fr.refl _ _).drew
  let S4 : World → Prop := fun w' => EngAt w' X J R clock pause cv ∧ w'.heap[w.heap.size]? = some (.cells #[.int .i64 id, .int .i64 reply] 196 (0, 0))
  have hS4 : S4 W4 := HS W4 (hG2.trans hfW4 (fun _ _ h => h))
  refine wp_region_held (S := S4) hlift ?_
  change wpAnyH _ _ _ _ S4 _ _ _ (World.drew _)
  rw [← HW4.out]
  clear HW4
  refine wpAnyH_take (S := S4) (i := 0) (oi := ⟨some 28, .move (.tmp 0), _, _, _, none⟩) (v := .pointer (some ⟨X, 0, none⟩)) rfl (by kernel_rfl) (by kernel_rfl) (by kernel_rfl) (fun _ _ _ h => h) (Or.inl ⟨rfl, fun _ _ => rfl⟩) hS4 ?_
  simp only [Act.put, List.setIfInBounds_toArray, List.set_cons_zero, List.set_cons_succ]
  refine wpAnyH_take (S := S4) (i := 1) (oi := ⟨some 29, .move (.tmp 0), _, _, _, none⟩) (v := .pointer (some ⟨X, 0, none⟩)) rfl (by kernel_rfl) (by kernel_rfl) (by kernel_rfl) (fun _ _ _ h => h) (Or.inl ⟨rfl, fun _ _ => rfl⟩) hS4 ?_
  simp only [Act.put, List.setIfInBounds_toArray, List.set_cons_zero, List.set_cons_succ]
  refine wpAnyH_take (S := S4) (i := 2) (oi := ⟨some 30, .nilCheck (.tmp 29), _, _, _, none⟩) (v := .pointer (some ⟨X, 0, none⟩)) rfl (by kernel_rfl) (by kernel_rfl) (by kernel_rfl) (fun _ _ _ h => h) (Or.inl ⟨rfl, fun _ _ => by kernel_rfl⟩) hS4 ?_
  simp only [Act.put, List.setIfInBounds_toArray, List.set_cons_zero, List.set_cons_succ]
  refine wpAnyH_take (S := S4) (i := 3) (oi := ⟨some 31, .fieldAddr 91 (.tmp 30) 0, _, _, _, none⟩) (v := .pointer (some ⟨X, 0, none⟩)) rfl (by kernel_rfl) (by kernel_rfl) (by kernel_rfl) (fun _ _ _ h => h) (Or.inl ⟨rfl, fun _ _ => by kernel_rfl⟩) hS4 ?_
  simp only [Act.put, List.setIfInBounds_toArray, List.set_cons_zero, List.set_cons_succ]
  refine wpAnyH_take (S := S4) (i := 4) (oi := ⟨some 32, .load 87 (.tmp 31), _, _, _, none⟩) (v := .pointer (some ⟨J, 0, none⟩)) rfl (by kernel_rfl) (by kernel_rfl) (by kernel_rfl) (fun _ _ _ h => h) (Or.inl ⟨rfl, fun w' hs => exec_load 87 (.tmp 31) rfl ⟨X, 0, none⟩ rfl (run_loadAt_one ((cell_of_row _ X 0 _ _ _ hs.1).trans rfl) Tryz.underlying87 rfl)⟩) hS4 ?_
  simp only [Act.put, List.setIfInBounds_toArray, List.set_cons_zero, List.set_cons_succ]
  refine wpAnyH_take (S := S4) (i := 5) (oi := ⟨some 33, .load 196 (.tmp 3), _, _, _, none⟩) (v := .agg #[.int .i64 id, .int .i64 reply]) rfl (by kernel_rfl) (by kernel_rfl) (by kernel_rfl) (fun _ _ _ h => h) (Or.inl ⟨rfl, fun w' hs => exec_load 196 (.tmp 3) rfl ⟨w.heap.size, 0, none⟩ rfl (loadM hs.2)⟩) hS4 ?_
  simp only [Act.put, List.setIfInBounds_toArray, List.set_cons_zero, List.set_cons_succ]
  refine wpAnyH_all (rs := [6]) (by kernel_rfl) (by simp) ?_
  intro i6 hi6
  obtain rfl : i6 = 6 := by simpa using hi6
  refine wpOp_call (o := ⟨some 34, .call { callee := .value (.func 151), args := #[(.tmp 33)], argTypes := _ }, _, _, _, none⟩) (f := 151) (args := #[.agg #[.int .i64 id, .int .i64 reply]]) rfl rfl (by kernel_rfl) ?_
  refine (HMB W4).mono ?_
  rintro e1 w5 ⟨rfl, hf5⟩
  have hF5 : Fr (fun _ => False) w w5 := (hF2.trans hfW4 (fun _ _ h => h)).trans hf5 (fun _ _ h => h)
  have hS5 : S4 w5 := HS _ ((hG2.trans hfW4 (fun _ _ h => h)).trans hf5 (fun _ _ h => h))
  refine ⟨_, rfl, hS5, ?_⟩
  simp only [Act.put, List.setIfInBounds_toArray, List.set_cons_zero, List.set_cons_succ]
  refine wpAnyH_all (rs := [7]) (by kernel_rfl) (by simp) ?_
  intro i7 hi7
  obtain rfl : i7 = 7 := by simpa using hi7
  refine wpOp_call (o := ⟨some 35, .call { callee := .value (.func 61), args := #[(.tmp 32), (.tmp 34)], argTypes := _ }, _, _, _, none⟩) (f := 61) (args := #[.pointer (some ⟨J, 0, none⟩), .agg blk.toArray]) rfl rfl (by kernel_rfl) ?_
  refine (Add_sx (hj.frz hF5) h0 h1 h2' h3 hen hn4 hz hbl hb1).mono ?_
  rintro e1 w6 ⟨rfl, hq6, hf6⟩
  have hS6 : S4 w6 := ⟨hf6.keep hS5.1 (by omega), hf6.keep hS5.2 (by omega)⟩
  refine ⟨_, rfl, hS6, ?_⟩
  simp only [Act.put, List.setIfInBounds_toArray, List.set_cons_zero, List.set_cons_succ]
  refine wpAnyH_all (rs := [8]) (by kernel_rfl) (by simp) ?_
  intro i8 hi8
  obtain rfl : i8 = 8 := by simpa using hi8
  refine wpOp_call (o := ⟨some 36, .call { callee := .value (.func 60), args := #[(.tmp 28), (.tmp 35)], argTypes := _ }, _, _, _, none⟩) (f := 60) (args := #[.pointer (some ⟨X, 0, none⟩), .nilIface]) rfl rfl (by kernel_rfl) ?_
  refine (checked_nil ⟨X, 0, none⟩ w6).mono ?_
  rintro e1 w7 ⟨rfl, e7⟩
  rw [e7]
  clear e7
  refine ⟨_, rfl, hS6, ?_⟩
  simp only [Act.put, List.setIfInBounds_toArray, List.set_cons_zero, List.set_cons_succ]
  refine wpAnyH_take (S := S4) (i := 9) (oi := ⟨some 5, .assign (.tmp 36), _, _, _, none⟩) (v := .nilIface) rfl (by kernel_rfl) (by kernel_rfl) (by kernel_rfl) (fun _ _ _ h => h) (Or.inl ⟨rfl, fun _ _ => rfl⟩) hS6 ?_
  simp only [Act.put, List.setIfInBounds_toArray, List.set_cons_zero, List.set_cons_succ]
  refine wpAnyH_done (by kernel_rfl) ?_ _
  have hF6 : Fr (fun b => b = A ∨ b = B ∨ b = J) w w6 := (hF5.mono (fun _ _ h => h.elim)).trans hf6 (fun _ _ h => h)
  have h6 := (h2.frz (hfW4.trans hf5 (fun _ _ h => h))).fr hf6 (fun b hb h => by have := hdis b hb; omega)
  have hs6 : EngAt w6 X J R clock pause cv ∧ w6.heap[w.heap.size]? = some (.cells #[.int .i64 id, .int .i64 reply] 196 (0, 0)) := hS6
  clear hS4 hS5 hf5 hF2 hfW4 HS HMB h2 hS6
  go_wp2_with fail
  obtain ⟨W8, HW8⟩ : ∃ W8, Hid (W8 = w6.drew) := ⟨_, rfl⟩
  have hfW8 : Fr (fun _ => False) w6 W8 := by rw [HW8.out]; exact (Fr.refl _ _).drew
  let S8 : World → Prop := fun w' => EngAt w' X J R clock pause cv ∧ w'.heap[w.heap.size]? = some (.cells #[.int .i64 id, .int .i64 reply] 196 (0, 0))
  have hS8 : S8 W8 := ⟨hfW8.keep hs6.1 (fun h => h), hfW8.keep hs6.2 (fun h => h)⟩
  refine wp_region_held (S := S8) hlift ?_
  change wpAnyH _ _ _ _ S8 _ _ _ (World.drew _)
  rw [← HW8.out]
  clear HW8
  refine wpAnyH_take (S := S8) (i := 0) (oi := ⟨some 40, .move (.tmp 0), _, _, _, none⟩) (v := .pointer (some ⟨X, 0, none⟩)) rfl (by kernel_rfl) (by kernel_rfl) (by kernel_rfl) (fun _ _ _ h => h) (Or.inl ⟨rfl, fun _ _ => rfl⟩) hS8 ?_
  simp only [Act.put, List.setIfInBounds_toArray, List.set_cons_zero, List.set_cons_succ]
  refine wpAnyH_take (S := S8) (i := 1) (oi := ⟨some 41, .nilCheck (.tmp 40), _, _, _, none⟩) (v := .pointer (some ⟨X, 0, none⟩)) rfl (by kernel_rfl) (by kernel_rfl) (by kernel_rfl) (fun _ _ _ h => h) (Or.inl ⟨rfl, fun _ _ => by kernel_rfl⟩) hS8 ?_
  simp only [Act.put, List.setIfInBounds_toArray, List.set_cons_zero, List.set_cons_succ]
  refine wpAnyH_take (S := S8) (i := 2) (oi := ⟨some 42, .fieldAddr 91 (.tmp 41) 1, _, _, _, none⟩) (v := .pointer (some ⟨X, 1, none⟩)) rfl (by kernel_rfl) (by kernel_rfl) (by kernel_rfl) (fun _ _ _ h => h) (Or.inl ⟨rfl, fun _ _ => by kernel_rfl⟩) hS8 ?_
  simp only [Act.put, List.setIfInBounds_toArray, List.set_cons_zero, List.set_cons_succ]
  refine wpAnyH_take (S := S8) (i := 3) (oi := ⟨some 43, .load 88 (.tmp 42), _, _, _, none⟩) (v := .pointer (some ⟨R, 0, none⟩)) rfl (by kernel_rfl) (by kernel_rfl) (by kernel_rfl) (fun _ _ _ h => h) (Or.inl ⟨rfl, fun w' hs => exec_load 88 (.tmp 42) rfl ⟨X, 1, none⟩ rfl (run_loadAt_one ((cell_of_row _ X 1 _ _ _ hs.1).trans rfl) Tryz.underlying88 rfl)⟩) hS8 ?_
  simp only [Act.put, List.setIfInBounds_toArray, List.set_cons_zero, List.set_cons_succ]
  refine wpAnyH_take (S := S8) (i := 4) (oi := ⟨some 44, .load 196 (.tmp 3), _, _, _, none⟩) (v := .agg #[.int .i64 id, .int .i64 reply]) rfl (by kernel_rfl) (by kernel_rfl) (by kernel_rfl) (fun _ _ _ h => h) (Or.inl ⟨rfl, fun w' hs => exec_load 196 (.tmp 3) rfl ⟨w.heap.size, 0, none⟩ rfl (loadM hs.2)⟩) hS8 ?_
  simp only [Act.put, List.setIfInBounds_toArray, List.set_cons_zero, List.set_cons_succ]
  refine wpAnyH_all (rs := [5]) (by kernel_rfl) (by simp) ?_
  intro i5 hi5
  obtain rfl : i5 = 5 := by simpa using hi5
  refine wpOp_call (o := ⟨some 45, .call { callee := .value (.func 76), args := #[(.tmp 43), (.tmp 44)], argTypes := _ }, _, _, _, none⟩) (f := 76) (args := #[.pointer (some ⟨R, 0, none⟩), .agg #[.int .i64 id, .int .i64 reply]]) rfl rfl (by kernel_rfl) ?_
  rw [HID.out]
  refine (rMove_ok (h6.frz hfW8) hs hn hok hp reply ho hm).mono ?_
  rintro e1 w9 ⟨rfl, hR9, hf9⟩
  have hS9 : S8 w9 := ⟨hf9.keep hS8.1 (fun e => nX e.symm), hf9.keep hS8.2 (fun e => nM e.symm)⟩
  refine ⟨_, rfl, hS9, ?_⟩
  simp only [Act.put, List.setIfInBounds_toArray, List.set_cons_zero, List.set_cons_succ]
  refine wpAnyH_done (by kernel_rfl) ?_ _
  have HE : Hid (RollAt w9 R base room ev (mapE es p.2.id (·.go reply)) ∧ (∃ calls' writes', calls ≤ calls' ∧ calls' ≤ calls + sx s + 2 ∧ writes ≤ writes' ∧ writes' ≤ writes + 2 ∧ JnS w9 J V A B n calls' writes' ((e : Int) + 1) true (splice bs (e * 128) blk)) ∧ Fr (fun b => b = A ∨ b = B ∨ b = J ∨ b = p.1) w w9) := by
    obtain ⟨c', v', q1, q2, q3, q4, q5⟩ := hq6
    have hd := hdis p.1 (.inr (.inr ⟨p, hp, rfl⟩))
    refine ⟨hR9, ⟨c', v', q1, q2, q3, q4, ?_⟩, ?_⟩
    · have q := q5.frz hfW8
      exact ⟨hf9.keep q.v (by omega), hf9.keep q.d (by omega), ⟨hf9.keep q.r.1 (by omega), q.r.2⟩, hf9.keep q.j (by omega)⟩
    · exact ((hF6.mono (fun b _ h => by omega)).trans (hfW8.mono (fun _ _ h => h.elim)) (fun _ _ h => h)).trans hf9 (fun b _ h => by omega)
  clear hS8 hS9 hR9 hf9 h6 hF6 hfW8 hq6 hf6 hs6
  go_wp2
  go_ret
  exact ⟨rfl, HE.out.1, HE.out.2.1, HE.out.2.2⟩
end
end Go.Proofs.YteebjgfalllbjaaGreatDoor
