import Derived.Test.YteebjgfalllbjaaGreatDoorCVrVsMb
import Derived.Test.YteebjgfalllbjaaGreatDoorCAeSeSu
namespace Go.Proofs.YteebjgfalllbjaaGreatDoor
open Go.RowKit
theorem loadM {w : World} {g : Nat} {id reply : Int} {t : TypeId} (h : w.heap[g]? = some (.cells #[.int .i64 id, .int .i64 reply] t (0, 0))) : (Instr.loadAt 196 (.pointer (some ⟨g, 0, none⟩))).run Tryz.prog w = .ok (.agg #[.int .i64 id, .int .i64 reply]) w :=
 run_loadAt_mid w g 0 196 [.int .i64 id, .int .i64 reply] _ (fun j v hv => (cell_of_row w g (0 + j) _ _ _ h).trans (by simpa using hv)) Tryz.underlying196 rfl (by kernel_rfl)
section
variable {w : World} {X J R V A B n base e : Nat} {room clock pause calls writes : Int} {ev cv : Value} {es : List (Nat × AS)} {s : Bool} {bs : List Value}
set_option maxRecDepth 100000 in
set_option maxHeartbeats 4000000 in
theorem follow_off (he : EngAt w X J R clock pause cv) (h : RollAt w R base room ev es) (hs : Sorted es) (hn : es.length ≤ 100000) {ck : Int} (hok : ∀ p ∈ es, p.2.Ok ck) (hck : ck ≤ 1000000) {p : Nat × AS} (hp : p ∈ es) (reply : Int) (hno : ¬ (p.2.open ∧ p.2.moves reply = true)) (hp1 : 1 ≤ pause) (hp2 : pause ≤ 64) (hc0 : 0 ≤ clock) (hc1 : clock ≤ 1000000) (nX : p.1 ≠ X) : Calls Tryz.prog 105 #[.pointer (some ⟨X, 0, none⟩), .agg #[.int .i64 p.2.id, .int .i64 reply]] w fun e' w' => e' = .returned .nilIface ∧ RollAt w' R base room ev (mapE es p.2.id (·.vain clock pause)) ∧ Fr (fun b => b = p.1) w w' := by
 have hlift : Tryz.prog.follows .mixedOrders = true := by kernel_rfl
 have HPO := fun (W : World) (hW : RollAt W R base room ev es) => rPutOff_ok hW hs hn hok hck hp clock pause hp1 hp2 hc0 hc1
 have hb : mvE es p.2.id reply = false := by
  rw [mvE_of hs hp rfl]
  by_cases ho : p.2.open <;> cases hm : p.2.moves reply <;> simp_all
 obtain ⟨id, hid⟩ : ∃ id, id = p.2.id := ⟨_, rfl⟩
 rw [← hid] at HPO hb ⊢
 have HB : Hid (mvE es id reply = false) := hb
 clear hid hb
 have hrow := heap_alloc_at w (.cells #[.int .i64 id, .int .i64 reply] 196)
 have hfa : Fr (fun _ => False) w (w.alloc (.cells #[.int .i64 id, .int .i64 reply] 196)) := (Fr.refl _ _).alloc _
 have nM : p.1 ≠ w.heap.size := by have := lt_of_heap (h.e p hp).2; omega
 have HS : ∀ w', Fr (fun _ => False) (w.alloc (.cells #[.int .i64 id, .int .i64 reply] 196)) w' → EngAt w' X J R clock pause cv ∧ w'.heap[w.heap.size]? = some (.cells #[.int .i64 id, .int .i64 reply] 196 (0, 0)) := fun w' hf => ⟨hf.keep (hfa.keep he (fun h => h)) (fun h => h), hf.keep hrow (fun h => h)⟩
 go_enter Tryz.func105, Tryz.ntmps105
 go_wp2_with fail
 obtain ⟨W, HW⟩ : ∃ W, Hid (W = (w.alloc (.cells #[.int .i64 id, .int .i64 reply] 196)).drew) := ⟨_, rfl⟩
 have hfW : Fr (fun _ => False) (w.alloc (.cells #[.int .i64 id, .int .i64 reply] 196)) W := by rw [HW.out]; exact (Fr.refl _ _).drew
 let S : World → Prop := fun w' => EngAt w' X J R clock pause cv ∧ w'.heap[w.heap.size]? = some (.cells #[.int .i64 id, .int .i64 reply] 196 (0, 0))
 have hS : S W := HS W hfW
 refine wp_region_held (S := S) hlift ?_
 change wpAnyH _ _ _ _ S _ _ _ (World.drew _)
 rw [← HW.out]
 clear HW
 refine tkE (S := S) (i := 0) (oi := ⟨some 6, .move (.tmp 0), _, _, _, none⟩) (v := .pointer (some ⟨X, 0, none⟩)) rfl hS ?_
 simp only [Act.put, lsE, lsZ, lsS]
 refine tkE (S := S) (i := 1) (oi := ⟨some 7, .nilCheck (.tmp 6), _, _, _, none⟩) (v := .pointer (some ⟨X, 0, none⟩)) rfl hS ?_
 simp only [Act.put, lsE, lsZ, lsS]
 refine tkE (S := S) (i := 2) (oi := ⟨some 8, .fieldAddr 91 (.tmp 7) 1, _, _, _, none⟩) (v := .pointer (some ⟨X, 1, none⟩)) rfl hS ?_
 simp only [Act.put, lsE, lsZ, lsS]
 refine tkY (S := S) (i := 3) (oi := ⟨some 9, .load 88 (.tmp 8), _, _, _, none⟩) (v := .pointer (some ⟨R, 0, none⟩)) rfl (Or.inl ⟨rfl, fun w' hs => exec_load 88 (.tmp 8) rfl ⟨X, 1, none⟩ rfl (run_loadAt_one ((cell_of_row _ X 1 _ _ _ hs.1).trans rfl) Tryz.underlying88 rfl)⟩) hS ?_
 simp only [Act.put, lsE, lsZ, lsS]
 refine tkY (S := S) (i := 4) (oi := ⟨some 10, .load 196 (.tmp 3), _, _, _, none⟩) (v := .agg #[.int .i64 id, .int .i64 reply]) rfl (Or.inl ⟨rfl, fun w' hs => exec_load 196 (.tmp 3) rfl ⟨w.heap.size, 0, none⟩ rfl (loadM hs.2)⟩) hS ?_
 simp only [Act.put, lsE, lsZ, lsS]
 refine wpAnyH_all (rs := [5]) (by kernel_rfl) (by simp) ?_
 intro i5 hi5
 obtain rfl : i5 = 5 := by simpa using hi5
 refine wpOp_call (o := ⟨some 11, .call { callee := .value (.func 117), args := #[(.tmp 9), (.tmp 10)], argTypes := _ }, _, _, _, none⟩) (f := 117) (args := #[.pointer (some ⟨R, 0, none⟩), .agg #[.int .i64 id, .int .i64 reply]]) rfl rfl (by kernel_rfl) ?_
 refine (rMoves_ok (h.frz (hfa.trans hfW (fun _ _ h => h))) hs hn hok id reply).mono ?_
 rintro e1 w2 ⟨rfl, hf2⟩
 rw [HB.out]
 have hF2 : Fr (fun _ => False) w w2 := (hfa.trans hfW (fun _ _ h => h)).trans hf2 (fun _ _ h => h)
 have hG2 := hfW.trans hf2 (fun _ _ h => h)
 have hS2 : S w2 := HS _ hG2
 refine ⟨_, rfl, hS2, ?_⟩
 simp only [Act.put, lsE, lsZ, lsS]
 refine tkE (S := S) (i := 6) (oi := ⟨some 12, .unOp .not 4 (.tmp 11), _, _, _, none⟩) (v := .bool true) rfl hS2 ?_
 simp only [Act.put, lsE, lsZ, lsS]
 refine wpAnyH_done (by kernel_rfl) ?_ _
 have h2 := h.frz hF2
 clear hS hS2 hfa hfW hf2 h
 go_wp2_with fail
 obtain ⟨W4, HW4⟩ : ∃ W4, Hid (W4 = w2.drew) := ⟨_, rfl⟩
 have hfW4 : Fr (fun _ => False) w2 W4 := by rw [HW4.out]; exact (Fr.refl _ _).drew
 let S4 : World → Prop := fun w' => EngAt w' X J R clock pause cv ∧ w'.heap[w.heap.size]? = some (.cells #[.int .i64 id, .int .i64 reply] 196 (0, 0))
 have hS4 : S4 W4 := HS W4 (hG2.trans hfW4 (fun _ _ h => h))
 refine wp_region_held (S := S4) hlift ?_
 change wpAnyH _ _ _ _ S4 _ _ _ (World.drew _)
 rw [← HW4.out]
 clear HW4
 refine tkE (S := S4) (i := 0) (oi := ⟨some 13, .move (.tmp 0), _, _, _, none⟩) (v := .pointer (some ⟨X, 0, none⟩)) rfl hS4 ?_
 simp only [Act.put, lsE, lsZ, lsS]
 refine tkE (S := S4) (i := 1) (oi := ⟨some 14, .nilCheck (.tmp 13), _, _, _, none⟩) (v := .pointer (some ⟨X, 0, none⟩)) rfl hS4 ?_
 simp only [Act.put, lsE, lsZ, lsS]
 refine tkE (S := S4) (i := 2) (oi := ⟨some 15, .fieldAddr 91 (.tmp 14) 1, _, _, _, none⟩) (v := .pointer (some ⟨X, 1, none⟩)) rfl hS4 ?_
 simp only [Act.put, lsE, lsZ, lsS]
 refine tkY (S := S4) (i := 3) (oi := ⟨some 16, .load 88 (.tmp 15), _, _, _, none⟩) (v := .pointer (some ⟨R, 0, none⟩)) rfl (Or.inl ⟨rfl, fun w' hs => exec_load 88 (.tmp 15) rfl ⟨X, 1, none⟩ rfl (run_loadAt_one ((cell_of_row _ X 1 _ _ _ hs.1).trans rfl) Tryz.underlying88 rfl)⟩) hS4 ?_
 simp only [Act.put, lsE, lsZ, lsS]
 refine tkE (S := S4) (i := 4) (oi := ⟨some 17, .fieldAddr 196 (.tmp 3) 0, _, _, _, none⟩) (v := .pointer (some ⟨w.heap.size, 0, none⟩)) rfl hS4 ?_
 simp only [Act.put, lsE, lsZ, lsS]
 refine tkY (S := S4) (i := 5) (oi := ⟨some 18, .load 3 (.tmp 17), _, _, _, none⟩) (v := .int .i64 id) rfl (Or.inl ⟨rfl, fun w' hs => exec_load 3 (.tmp 17) rfl ⟨w.heap.size, 0, none⟩ rfl (run_loadAt_one ((cell_of_row _ w.heap.size 0 _ _ _ hs.2).trans rfl) Tryz.underlying3 rfl)⟩) hS4 ?_
 simp only [Act.put, lsE, lsZ, lsS]
 refine tkE (S := S4) (i := 6) (oi := ⟨some 19, .move (.tmp 0), _, _, _, none⟩) (v := .pointer (some ⟨X, 0, none⟩)) rfl hS4 ?_
 simp only [Act.put, lsE, lsZ, lsS]
 refine tkE (S := S4) (i := 7) (oi := ⟨some 20, .nilCheck (.tmp 19), _, _, _, none⟩) (v := .pointer (some ⟨X, 0, none⟩)) rfl hS4 ?_
 simp only [Act.put, lsE, lsZ, lsS]
 refine tkE (S := S4) (i := 8) (oi := ⟨some 21, .fieldAddr 91 (.tmp 20) 3, _, _, _, none⟩) (v := .pointer (some ⟨X, 3, none⟩)) rfl hS4 ?_
 simp only [Act.put, lsE, lsZ, lsS]
 refine tkY (S := S4) (i := 9) (oi := ⟨some 22, .load 3 (.tmp 21), _, _, _, none⟩) (v := .int .i64 clock) rfl (Or.inl ⟨rfl, fun w' hs => exec_load 3 (.tmp 21) rfl ⟨X, 3, none⟩ rfl (run_loadAt_one ((cell_of_row _ X 3 _ _ _ hs.1).trans rfl) Tryz.underlying3 rfl)⟩) hS4 ?_
 simp only [Act.put, lsE, lsZ, lsS]
 refine tkE (S := S4) (i := 10) (oi := ⟨some 23, .move (.tmp 0), _, _, _, none⟩) (v := .pointer (some ⟨X, 0, none⟩)) rfl hS4 ?_
 simp only [Act.put, lsE, lsZ, lsS]
 refine tkE (S := S4) (i := 11) (oi := ⟨some 24, .nilCheck (.tmp 23), _, _, _, none⟩) (v := .pointer (some ⟨X, 0, none⟩)) rfl hS4 ?_
 simp only [Act.put, lsE, lsZ, lsS]
 refine tkE (S := S4) (i := 12) (oi := ⟨some 25, .fieldAddr 91 (.tmp 24) 4, _, _, _, none⟩) (v := .pointer (some ⟨X, 4, none⟩)) rfl hS4 ?_
 simp only [Act.put, lsE, lsZ, lsS]
 refine tkY (S := S4) (i := 13) (oi := ⟨some 26, .load 3 (.tmp 25), _, _, _, none⟩) (v := .int .i64 pause) rfl (Or.inl ⟨rfl, fun w' hs => exec_load 3 (.tmp 25) rfl ⟨X, 4, none⟩ rfl (run_loadAt_one ((cell_of_row _ X 4 _ _ _ hs.1).trans rfl) Tryz.underlying3 rfl)⟩) hS4 ?_
 simp only [Act.put, lsE, lsZ, lsS]
 refine wpAnyH_all (rs := [14]) (by kernel_rfl) (by simp) ?_
 intro i14 hi14
 obtain rfl : i14 = 14 := by simpa using hi14
 refine wpOp_call (o := ⟨some 27, .call { callee := .value (.func 150), args := #[(.tmp 16), (.tmp 18), (.tmp 22), (.tmp 26)], argTypes := _ }, _, _, _, none⟩) (f := 150) (args := #[.pointer (some ⟨R, 0, none⟩), .int .i64 id, .int .i64 clock, .int .i64 pause]) rfl rfl (by kernel_rfl) ?_
 refine (HPO W4 (h2.frz hfW4)).mono ?_
 rintro e1 w5 ⟨rfl, hR5, hf5⟩
 have hS5 : S4 w5 := ⟨hf5.keep hS4.1 (fun e => nX e.symm), hf5.keep hS4.2 (fun e => nM e.symm)⟩
 refine ⟨_, rfl, hS5, ?_⟩
 simp only [Act.put, lsE, lsZ, lsS]
 refine wpAnyH_done (by kernel_rfl) ?_ _
 have HE : Hid (RollAt w5 R base room ev (mapE es id (·.vain clock pause)) ∧ Fr (fun b => b = p.1) w w5) := ⟨hR5, ((hF2.trans hfW4 (fun _ _ h => h)).mono (fun _ _ h => h.elim)).trans hf5 (fun _ _ h => h)⟩
 clear hS4 hS5 hR5 hf5 h2 hF2 hfW4 HS HPO
 go_wp2
 go_ret
 exact ⟨rfl, HE.out.1, HE.out.2⟩
set_option maxRecDepth 100000 in
set_option maxHeartbeats 4000000 in
theorem follow_go (he : EngAt w X J R clock pause cv) (h : RollAt w R base room ev es) (hs : Sorted es) (hn : es.length ≤ 100000) {ck : Int} (hok : ∀ p ∈ es, p.2.Ok ck) {p : Nat × AS} (hp : p ∈ es) (reply : Nat) (ho : p.2.open) (hm : p.2.moves reply = true) (hr2 : reply ≤ 2) (k : Nat) (hk : (k : Int) = p.2.id) (hk1 : k ≤ 1000) (hj : JnS w J V A B n calls writes e s bs) (h0 : 0 ≤ calls) (h1 : calls < 90000000) (h2' : 0 ≤ writes) (h3 : writes < 90000000) (hen : e < n) (hn4 : n ≤ 400) (hz : (bs.drop (e * 128)).take 128 = zB) (hdis : ∀ b, RollF R ev es b → b ≠ A ∧ b ≠ B ∧ b ≠ J ∧ b ≠ V ∧ b ≠ X) : Calls Tryz.prog 105 #[.pointer (some ⟨X, 0, none⟩), .agg #[.int .i64 p.2.id, .int .i64 reply]] w fun e' w' => e' = .returned .nilIface ∧ RollAt w' R base room ev (mapE es p.2.id (·.go reply)) ∧ (∃ calls' writes', calls ≤ calls' ∧ calls' ≤ calls + sx s + 2 ∧ writes ≤ writes' ∧ writes' ≤ writes + 2 ∧ JnS w' J V A B n calls' writes' ((e : Int) + 1) true (splice bs (e * 128) (ldB 3 (bodyS k reply [] 0) 4))) ∧ Fr (fun b => b = A ∨ b = B ∨ b = J ∨ b = p.1) w w' := by
 have hlift : Tryz.prog.follows .mixedOrders = true := by kernel_rfl
 have hb : mvE es p.2.id reply = true := by
  rw [mvE_of hs hp rfl]
  simp [ho, hm]
 have HMB := fun W => mBlock_ok W k reply hk1 hr2
 rw [hk] at HMB
 have hbl : (ldB 3 (bodyS k reply [] 0) 4).length = 128 := ldB_len 3 _ (bodyM_len k reply) 4 (by omega)
 have hb1 : ∀ v ∈ ldB 3 (bodyS k reply [] 0) 4, v.oneCell' = true := ldB_one 3 _ (bodyS_one _ _ _ _) 4
 generalize ldB 3 (bodyS k reply [] 0) 4 = blk at *
 obtain ⟨id, hid⟩ : ∃ id, id = p.2.id := ⟨_, rfl⟩
 rw [← hid] at HMB hb
 have HB : Hid (mvE es id reply = true) := hb
 have HID : Hid (id = p.2.id) := hid
 have nX : p.1 ≠ X := (hdis p.1 (.inr (.inr ⟨p, hp, rfl⟩))).2.2.2.2
 have hXJ : X ≠ J := fun e => by have := he; unfold EngAt at this; rw [e] at this; have := this.symm.trans hj.j; simp at this
 have hXA : X ≠ A := fun e => by have := he; unfold EngAt at this; rw [e] at this; have := this.symm.trans hj.d; simp [dcells] at this
 have hXB : X ≠ B := fun e => by have := he; unfold EngAt at this; rw [e] at this; have := this.symm.trans hj.r.1; simp at this
 have hlA := lt_of_heap hj.d
 have hlB := lt_of_heap hj.r.1
 have hlJ := lt_of_heap hj.j
 have hrow := heap_alloc_at w (.cells #[.int .i64 id, .int .i64 reply] 196)
 have hfa : Fr (fun _ => False) w (w.alloc (.cells #[.int .i64 id, .int .i64 reply] 196)) := (Fr.refl _ _).alloc _
 have nM : p.1 ≠ w.heap.size := by have := lt_of_heap (h.e p hp).2; omega
 suffices HG : Calls Tryz.prog 105 #[.pointer (some ⟨X, 0, none⟩), .agg #[.int .i64 id, .int .i64 reply]] w fun e' w' => e' = .returned .nilIface ∧ RollAt w' R base room ev (mapE es p.2.id (·.go reply)) ∧ (∃ calls' writes', calls ≤ calls' ∧ calls' ≤ calls + sx s + 2 ∧ writes ≤ writes' ∧ writes' ≤ writes + 2 ∧ JnS w' J V A B n calls' writes' ((e : Int) + 1) true (splice bs (e * 128) blk)) ∧ Fr (fun b => b = A ∨ b = B ∨ b = J ∨ b = p.1) w w' by
  rw [hid] at HG
  exact HG
 clear hid hb
 have HS : ∀ w', Fr (fun _ => False) (w.alloc (.cells #[.int .i64 id, .int .i64 reply] 196)) w' → EngAt w' X J R clock pause cv ∧ w'.heap[w.heap.size]? = some (.cells #[.int .i64 id, .int .i64 reply] 196 (0, 0)) := fun w' hf => ⟨hf.keep (hfa.keep he (fun h => h)) (fun h => h), hf.keep hrow (fun h => h)⟩
 go_enter Tryz.func105, Tryz.ntmps105
 go_wp2_with fail
 obtain ⟨W, HW⟩ : ∃ W, Hid (W = (w.alloc (.cells #[.int .i64 id, .int .i64 reply] 196)).drew) := ⟨_, rfl⟩
 have hfW : Fr (fun _ => False) (w.alloc (.cells #[.int .i64 id, .int .i64 reply] 196)) W := by rw [HW.out]; exact (Fr.refl _ _).drew
 let S : World → Prop := fun w' => EngAt w' X J R clock pause cv ∧ w'.heap[w.heap.size]? = some (.cells #[.int .i64 id, .int .i64 reply] 196 (0, 0))
 have hS : S W := HS W hfW
 refine wp_region_held (S := S) hlift ?_
 change wpAnyH _ _ _ _ S _ _ _ (World.drew _)
 rw [← HW.out]
 clear HW
 refine tkE (S := S) (i := 0) (oi := ⟨some 6, .move (.tmp 0), _, _, _, none⟩) (v := .pointer (some ⟨X, 0, none⟩)) rfl hS ?_
 simp only [Act.put, lsE, lsZ, lsS]
 refine tkE (S := S) (i := 1) (oi := ⟨some 7, .nilCheck (.tmp 6), _, _, _, none⟩) (v := .pointer (some ⟨X, 0, none⟩)) rfl hS ?_
 simp only [Act.put, lsE, lsZ, lsS]
 refine tkE (S := S) (i := 2) (oi := ⟨some 8, .fieldAddr 91 (.tmp 7) 1, _, _, _, none⟩) (v := .pointer (some ⟨X, 1, none⟩)) rfl hS ?_
 simp only [Act.put, lsE, lsZ, lsS]
 refine tkY (S := S) (i := 3) (oi := ⟨some 9, .load 88 (.tmp 8), _, _, _, none⟩) (v := .pointer (some ⟨R, 0, none⟩)) rfl (Or.inl ⟨rfl, fun w' hs => exec_load 88 (.tmp 8) rfl ⟨X, 1, none⟩ rfl (run_loadAt_one ((cell_of_row _ X 1 _ _ _ hs.1).trans rfl) Tryz.underlying88 rfl)⟩) hS ?_
 simp only [Act.put, lsE, lsZ, lsS]
 refine tkY (S := S) (i := 4) (oi := ⟨some 10, .load 196 (.tmp 3), _, _, _, none⟩) (v := .agg #[.int .i64 id, .int .i64 reply]) rfl (Or.inl ⟨rfl, fun w' hs => exec_load 196 (.tmp 3) rfl ⟨w.heap.size, 0, none⟩ rfl (loadM hs.2)⟩) hS ?_
 simp only [Act.put, lsE, lsZ, lsS]
 refine wpAnyH_all (rs := [5]) (by kernel_rfl) (by simp) ?_
 intro i5 hi5
 obtain rfl : i5 = 5 := by simpa using hi5
 refine wpOp_call (o := ⟨some 11, .call { callee := .value (.func 117), args := #[(.tmp 9), (.tmp 10)], argTypes := _ }, _, _, _, none⟩) (f := 117) (args := #[.pointer (some ⟨R, 0, none⟩), .agg #[.int .i64 id, .int .i64 reply]]) rfl rfl (by kernel_rfl) ?_
 refine (rMoves_ok (h.frz (hfa.trans hfW (fun _ _ h => h))) hs hn hok id reply).mono ?_
 rintro e1 w2 ⟨rfl, hf2⟩
 rw [HB.out]
 have hF2 : Fr (fun _ => False) w w2 := (hfa.trans hfW (fun _ _ h => h)).trans hf2 (fun _ _ h => h)
 have hG2 := hfW.trans hf2 (fun _ _ h => h)
 have hS2 : S w2 := HS _ hG2
 refine ⟨_, rfl, hS2, ?_⟩
 simp only [Act.put, lsE, lsZ, lsS]
 refine tkE (S := S) (i := 6) (oi := ⟨some 12, .unOp .not 4 (.tmp 11), _, _, _, none⟩) (v := .bool false) rfl hS2 ?_
 simp only [Act.put, lsE, lsZ, lsS]
 refine wpAnyH_done (by kernel_rfl) ?_ _
 have h2 := h.frz hF2
 clear hS hS2 hfa hfW hf2 h
 go_wp2_with fail
 obtain ⟨W4, HW4⟩ : ∃ W4, Hid (W4 = w2.drew) := ⟨_, rfl⟩
 have hfW4 : Fr (fun _ => False) w2 W4 := by rw [HW4.out]; exact (Fr.refl _ _).drew
 let S4 : World → Prop := fun w' => EngAt w' X J R clock pause cv ∧ w'.heap[w.heap.size]? = some (.cells #[.int .i64 id, .int .i64 reply] 196 (0, 0))
 have hS4 : S4 W4 := HS W4 (hG2.trans hfW4 (fun _ _ h => h))
 refine wp_region_held (S := S4) hlift ?_
 change wpAnyH _ _ _ _ S4 _ _ _ (World.drew _)
 rw [← HW4.out]
 clear HW4
 refine tkE (S := S4) (i := 0) (oi := ⟨some 28, .move (.tmp 0), _, _, _, none⟩) (v := .pointer (some ⟨X, 0, none⟩)) rfl hS4 ?_
 simp only [Act.put, lsE, lsZ, lsS]
 refine tkE (S := S4) (i := 1) (oi := ⟨some 29, .move (.tmp 0), _, _, _, none⟩) (v := .pointer (some ⟨X, 0, none⟩)) rfl hS4 ?_
 simp only [Act.put, lsE, lsZ, lsS]
 refine tkE (S := S4) (i := 2) (oi := ⟨some 30, .nilCheck (.tmp 29), _, _, _, none⟩) (v := .pointer (some ⟨X, 0, none⟩)) rfl hS4 ?_
 simp only [Act.put, lsE, lsZ, lsS]
 refine tkE (S := S4) (i := 3) (oi := ⟨some 31, .fieldAddr 91 (.tmp 30) 0, _, _, _, none⟩) (v := .pointer (some ⟨X, 0, none⟩)) rfl hS4 ?_
 simp only [Act.put, lsE, lsZ, lsS]
 refine tkY (S := S4) (i := 4) (oi := ⟨some 32, .load 87 (.tmp 31), _, _, _, none⟩) (v := .pointer (some ⟨J, 0, none⟩)) rfl (Or.inl ⟨rfl, fun w' hs => exec_load 87 (.tmp 31) rfl ⟨X, 0, none⟩ rfl (run_loadAt_one ((cell_of_row _ X 0 _ _ _ hs.1).trans rfl) Tryz.underlying87 rfl)⟩) hS4 ?_
 simp only [Act.put, lsE, lsZ, lsS]
 refine tkY (S := S4) (i := 5) (oi := ⟨some 33, .load 196 (.tmp 3), _, _, _, none⟩) (v := .agg #[.int .i64 id, .int .i64 reply]) rfl (Or.inl ⟨rfl, fun w' hs => exec_load 196 (.tmp 3) rfl ⟨w.heap.size, 0, none⟩ rfl (loadM hs.2)⟩) hS4 ?_
 simp only [Act.put, lsE, lsZ, lsS]
 refine wpAnyH_all (rs := [6]) (by kernel_rfl) (by simp) ?_
 intro i6 hi6
 obtain rfl : i6 = 6 := by simpa using hi6
 refine wpOp_call (o := ⟨some 34, .call { callee := .value (.func 151), args := #[(.tmp 33)], argTypes := _ }, _, _, _, none⟩) (f := 151) (args := #[.agg #[.int .i64 id, .int .i64 reply]]) rfl rfl (by kernel_rfl) ?_
 refine (HMB W4).mono ?_
 rintro e1 w5 ⟨rfl, hf5⟩
 have hF5 : Fr (fun _ => False) w w5 := (hF2.trans hfW4 (fun _ _ h => h)).trans hf5 (fun _ _ h => h)
 have hS5 : S4 w5 := HS _ ((hG2.trans hfW4 (fun _ _ h => h)).trans hf5 (fun _ _ h => h))
 refine ⟨_, rfl, hS5, ?_⟩
 simp only [Act.put, lsE, lsZ, lsS]
 refine wpAnyH_all (rs := [7]) (by kernel_rfl) (by simp) ?_
 intro i7 hi7
 obtain rfl : i7 = 7 := by simpa using hi7
 refine wpOp_call (o := ⟨some 35, .call { callee := .value (.func 61), args := #[(.tmp 32), (.tmp 34)], argTypes := _ }, _, _, _, none⟩) (f := 61) (args := #[.pointer (some ⟨J, 0, none⟩), .agg blk.toArray]) rfl rfl (by kernel_rfl) ?_
 refine (Add_sx (hj.frz hF5) h0 h1 h2' h3 hen hn4 hz hbl hb1).mono ?_
 rintro e1 w6 ⟨rfl, hq6, hf6⟩
 have hS6 : S4 w6 := ⟨hf6.keep hS5.1 (by omega), hf6.keep hS5.2 (by omega)⟩
 refine ⟨_, rfl, hS6, ?_⟩
 simp only [Act.put, lsE, lsZ, lsS]
 refine wpAnyH_all (rs := [8]) (by kernel_rfl) (by simp) ?_
 intro i8 hi8
 obtain rfl : i8 = 8 := by simpa using hi8
 refine wpOp_call (o := ⟨some 36, .call { callee := .value (.func 60), args := #[(.tmp 28), (.tmp 35)], argTypes := _ }, _, _, _, none⟩) (f := 60) (args := #[.pointer (some ⟨X, 0, none⟩), .nilIface]) rfl rfl (by kernel_rfl) ?_
 refine (checked_nil ⟨X, 0, none⟩ w6).mono ?_
 rintro e1 w7 ⟨rfl, e7⟩
 rw [e7]
 clear e7
 refine ⟨_, rfl, hS6, ?_⟩
 simp only [Act.put, lsE, lsZ, lsS]
 refine tkE (S := S4) (i := 9) (oi := ⟨some 5, .assign (.tmp 36), _, _, _, none⟩) (v := .nilIface) rfl hS6 ?_
 simp only [Act.put, lsE, lsZ, lsS]
 refine wpAnyH_done (by kernel_rfl) ?_ _
 have hF6 : Fr (fun b => b = A ∨ b = B ∨ b = J) w w6 := (hF5.mono (fun _ _ h => h.elim)).trans hf6 (fun _ _ h => h)
 have h6 := (h2.frz (hfW4.trans hf5 (fun _ _ h => h))).fr hf6 (fun b hb h => by have := hdis b hb; omega)
 have hs6 : EngAt w6 X J R clock pause cv ∧ w6.heap[w.heap.size]? = some (.cells #[.int .i64 id, .int .i64 reply] 196 (0, 0)) := hS6
 clear hS4 hS5 hf5 hF2 hfW4 HS HMB h2 hS6
 go_wp2_with fail
 obtain ⟨W8, HW8⟩ : ∃ W8, Hid (W8 = w6.drew) := ⟨_, rfl⟩
 have hfW8 : Fr (fun _ => False) w6 W8 := by rw [HW8.out]; exact (Fr.refl _ _).drew
 let S8 : World → Prop := fun w' => EngAt w' X J R clock pause cv ∧ w'.heap[w.heap.size]? = some (.cells #[.int .i64 id, .int .i64 reply] 196 (0, 0))
 have hS8 : S8 W8 := ⟨hfW8.keep hs6.1 (fun h => h), hfW8.keep hs6.2 (fun h => h)⟩
 refine wp_region_held (S := S8) hlift ?_
 change wpAnyH _ _ _ _ S8 _ _ _ (World.drew _)
 rw [← HW8.out]
 clear HW8
 refine tkE (S := S8) (i := 0) (oi := ⟨some 40, .move (.tmp 0), _, _, _, none⟩) (v := .pointer (some ⟨X, 0, none⟩)) rfl hS8 ?_
 simp only [Act.put, lsE, lsZ, lsS]
 refine tkE (S := S8) (i := 1) (oi := ⟨some 41, .nilCheck (.tmp 40), _, _, _, none⟩) (v := .pointer (some ⟨X, 0, none⟩)) rfl hS8 ?_
 simp only [Act.put, lsE, lsZ, lsS]
 refine tkE (S := S8) (i := 2) (oi := ⟨some 42, .fieldAddr 91 (.tmp 41) 1, _, _, _, none⟩) (v := .pointer (some ⟨X, 1, none⟩)) rfl hS8 ?_
 simp only [Act.put, lsE, lsZ, lsS]
 refine tkY (S := S8) (i := 3) (oi := ⟨some 43, .load 88 (.tmp 42), _, _, _, none⟩) (v := .pointer (some ⟨R, 0, none⟩)) rfl (Or.inl ⟨rfl, fun w' hs => exec_load 88 (.tmp 42) rfl ⟨X, 1, none⟩ rfl (run_loadAt_one ((cell_of_row _ X 1 _ _ _ hs.1).trans rfl) Tryz.underlying88 rfl)⟩) hS8 ?_
 simp only [Act.put, lsE, lsZ, lsS]
 refine tkY (S := S8) (i := 4) (oi := ⟨some 44, .load 196 (.tmp 3), _, _, _, none⟩) (v := .agg #[.int .i64 id, .int .i64 reply]) rfl (Or.inl ⟨rfl, fun w' hs => exec_load 196 (.tmp 3) rfl ⟨w.heap.size, 0, none⟩ rfl (loadM hs.2)⟩) hS8 ?_
 simp only [Act.put, lsE, lsZ, lsS]
 refine wpAnyH_all (rs := [5]) (by kernel_rfl) (by simp) ?_
 intro i5 hi5
 obtain rfl : i5 = 5 := by simpa using hi5
 refine wpOp_call (o := ⟨some 45, .call { callee := .value (.func 76), args := #[(.tmp 43), (.tmp 44)], argTypes := _ }, _, _, _, none⟩) (f := 76) (args := #[.pointer (some ⟨R, 0, none⟩), .agg #[.int .i64 id, .int .i64 reply]]) rfl rfl (by kernel_rfl) ?_
 rw [HID.out]
 refine (rMove_ok (h6.frz hfW8) hs hn hok hp reply ho hm).mono ?_
 rintro e1 w9 ⟨rfl, hR9, hf9⟩
 have hS9 : S8 w9 := ⟨hf9.keep hS8.1 (fun e => nX e.symm), hf9.keep hS8.2 (fun e => nM e.symm)⟩
 refine ⟨_, rfl, hS9, ?_⟩
 simp only [Act.put, lsE, lsZ, lsS]
 refine wpAnyH_done (by kernel_rfl) ?_ _
 have HE : Hid (RollAt w9 R base room ev (mapE es p.2.id (·.go reply)) ∧ (∃ calls' writes', calls ≤ calls' ∧ calls' ≤ calls + sx s + 2 ∧ writes ≤ writes' ∧ writes' ≤ writes + 2 ∧ JnS w9 J V A B n calls' writes' ((e : Int) + 1) true (splice bs (e * 128) blk)) ∧ Fr (fun b => b = A ∨ b = B ∨ b = J ∨ b = p.1) w w9) := by
  obtain ⟨c', v', q1, q2, q3, q4, q5⟩ := hq6
  have hd := hdis p.1 (.inr (.inr ⟨p, hp, rfl⟩))
  refine ⟨hR9, ⟨c', v', q1, q2, q3, q4, ?_⟩, ?_⟩
  ·have q := q5.frz hfW8
   exact ⟨hf9.keep q.v (by omega), hf9.keep q.d (by omega), ⟨hf9.keep q.r.1 (by omega), q.r.2⟩, hf9.keep q.j (by omega)⟩
  ·exact ((hF6.mono (fun b _ h => by omega)).trans (hfW8.mono (fun _ _ h => h.elim)) (fun _ _ h => h)).trans hf9 (fun b _ h => by omega)
 clear hS8 hS9 hR9 hf9 h6 hF6 hfW8 hq6 hf6 hs6
 go_wp2
 go_ret
 exact ⟨rfl, HE.out.1, HE.out.2.1, HE.out.2.2⟩
end
end Go.Proofs.YteebjgfalllbjaaGreatDoor
namespace Go.Proofs.YteebjgfalllbjaaGreatDoor
open Go.RowKit
theorem loadC {w : World} {g : Nat} {c : CL} {t : TypeId} (h : w.heap[g]? = some (.cells c.cs.toArray t (0, 0))) : (Instr.loadAt 50 (.pointer (some ⟨g, 0, none⟩))).run Tryz.prog w = .ok (.agg c.cs.toArray) w :=
 run_loadAt_mid w g 0 50 c.cs _ (fun j v hv => (cell_of_row w g (0 + j) _ _ _ h).trans (by simpa using hv)) Tryz.underlying50 rfl call_size
theorem wpOp_panics {P : Program} {ops : Array Oper} {Q : Exit → Act → World → Prop} {a : Act} {w : World} {i : Nat} {o : Oper} {K : Act → World → Prop} {f : FuncId} {args : Array Value} (hi : ops[i]? = some o) (hgd : o.guard = none) (hr : (execOp a.eval o).run P w = .ok (.enter f args) w)
  (h : Calls P f args w fun e w2 => ∃ c, e = .panicked c ∧ Q (.panic c) a w2) : wpOp P ops Q i K a w := by
 unfold wpOp
 have hw : Region.wanted o (yielded ops a.tmps) = true := by simp [Region.wanted, hgd]
 simp only [hi, hw, if_true, Oper.wp, hr, Oper.upon]
 refine .inl (h.mono fun e w2 he => ?_)
 obtain ⟨c, rfl, hk⟩ := he
 exact hk
theorem reply1_idle (p : Addr) (w : World) :
  CallsD Tryz.prog 149 #[.pointer (some p)] .returning w fun e u' w' => e = .returned (.tuple #[]) ∧ u' = .returning ∧ w' = w := by
 refine callsD_of_wpS Tryz.func149 rfl fun c₀ cs hu => ?_
 apply wpS_seq
 apply wpS_region
 simp [wpOpsS, go_sem, recoverD, hu, Tryz.ntmps149, Exit.thenS]
 refine wpS_cond (t := false) (by simp [Act.eval, Array.replicate]) ?_
 simp only [Bool.false_eq_true, if_false]
 refine wpS_of_wp (wp_skip ?_)
 cases c₀
 simp_all [bodyPostS, results, Tryz.results149]
theorem leaves_tmps {P : Program} {fn : Func} {t1 t2 : Array Value} {R : Ending → World → Prop} (h : results fn t1 = results fn t2) : ∀ (ds : List Deferred) (u : FrameMode) (w : World), Leaves P fn t1 R ds u w = Leaves P fn t2 R ds u w := by
 intro ds
 induction ds with
 | nil => intro u w; cases u <;> simp only [Leaves, h]
 | cons d ds ih => intro u w; simp only [Leaves, ih]
theorem reply_put {R : Ending → World → Prop} {K : Act → World → Prop} {c : List PanicEntry} {a : Act} {w : World} {v : Value} (i : Nat) (hi : i ≠ 4) (h : Exit.then K (bodyPostD Tryz.prog Tryz.f104 R) (.panic c) (a.put (some i) v) w) : Exit.then K (bodyPostD Tryz.prog Tryz.f104 R) (.panic c) a w := by
 have e : results Tryz.f104 (a.tmps.setIfInBounds i v) = results Tryz.f104 a.tmps := by
  have : (a.tmps.setIfInBounds i v)[4]? = a.tmps[4]? := by rw [Array.getElem?_setIfInBounds, if_neg hi]
  simp only [results, Tryz.results104]
  simp [this]
 have h' : Leaves Tryz.prog Tryz.f104 (a.tmps.setIfInBounds i v) R a.defers (.panicking c) w := h
 rw [leaves_tmps e] at h'
 exact h'
section
variable {w : World} {X J R Pp : Nat} {clock pause : Int} {cv : Value}
set_option maxRecDepth 100000 in
set_option maxHeartbeats 4000000 in
theorem reply_ask (c : CL) (he : EngAt w X J R clock pause (.func (.func 47) #[.pointer (some ⟨Pp, 0, none⟩)] #[])) {F : Nat → Prop} {Q : Int → World → Prop} (HA : ∀ W, Fr (fun _ => False) w W → w.heap.size + 2 ≤ W.heap.size → Calls Tryz.prog 47 #[.pointer (some ⟨Pp, 0, none⟩), .agg c.cs.toArray] W fun e w' => ∃ k, e = .returned (.int .i64 k) ∧ Fr F W w' ∧ Q k w') (hFX : ¬ F X) (hFs : ∀ b, F b → b < w.heap.size) (HQ : ∀ k W W', Q k W → Fr (fun b => b = w.heap.size + 1) W W' → Q k W') : Calls Tryz.prog 104 #[.pointer (some ⟨X, 0, none⟩), .agg c.cs.toArray] w fun e w' => ∃ k, e = .returned (.int .i64 k) ∧ Fr F w w' ∧ Q k w' := by
 have hlift : Tryz.prog.follows .mixedOrders = true := by kernel_rfl
 have hmf : ∀ (fn : Fn) (first cap : Array Value) (w : World), (Instr.makeFunc fn first cap).run Tryz.prog w = .ok (.func fn first cap) w := fun _ _ _ _ => rfl
 obtain ⟨c1, c2, c3, c4⟩ := c
 simp only [CL.cs] at HA
 have hfa : Fr (fun _ => False) w ((w.alloc (.cells ([.int .i64 c1, .int .i64 c2, .bool c3, .string c4] : List Value).toArray 50)).alloc (.cells #[.int .i64 0] 3)) := ((Fr.refl _ _).alloc _).alloc _
 have hr0 : (((w.alloc (.cells ([.int .i64 c1, .int .i64 c2, .bool c3, .string c4] : List Value).toArray 50)).alloc (.cells #[.int .i64 0] 3))).heap[w.heap.size]? = some (.cells ([.int .i64 c1, .int .i64 c2, .bool c3, .string c4] : List Value).toArray 50 (0, 0)) := by
  rw [heap_alloc_lt _ _ _ (by simp)]; exact heap_alloc_at _ _
 have hr1 : (((w.alloc (.cells ([.int .i64 c1, .int .i64 c2, .bool c3, .string c4] : List Value).toArray 50)).alloc (.cells #[.int .i64 0] 3))).heap[w.heap.size + 1]? = some (.cells #[.int .i64 0] 3 (0, 0)) := heap_alloc2_new w _ _
 have HS : ∀ w', Fr (fun _ => False) ((w.alloc (.cells ([.int .i64 c1, .int .i64 c2, .bool c3, .string c4] : List Value).toArray 50)).alloc (.cells #[.int .i64 0] 3)) w' → EngAt w' X J R clock pause (.func (.func 47) #[.pointer (some ⟨Pp, 0, none⟩)] #[]) ∧ w'.heap[w.heap.size]? = some (.cells ([.int .i64 c1, .int .i64 c2, .bool c3, .string c4] : List Value).toArray 50 (0, 0)) := fun w' hf => ⟨hf.keep (hfa.keep he (fun h => h)) (fun h => h), hf.keep hr0 (fun h => h)⟩
 unfold CL.cs
 go_enter_defers Tryz.func104, Tryz.ntmps104
 go_wp2_with fail
 obtain ⟨W, HW⟩ : ∃ W, Hid (W = ((w.alloc (.cells ([.int .i64 c1, .int .i64 c2, .bool c3, .string c4] : List Value).toArray 50)).alloc (.cells #[.int .i64 0] 3)).drew) := ⟨_, rfl⟩
 have hfW : Fr (fun _ => False) ((w.alloc (.cells ([.int .i64 c1, .int .i64 c2, .bool c3, .string c4] : List Value).toArray 50)).alloc (.cells #[.int .i64 0] 3)) W := by rw [HW.out]; exact (Fr.refl _ _).drew
 let S : World → Prop := fun w' => EngAt w' X J R clock pause (.func (.func 47) #[.pointer (some ⟨Pp, 0, none⟩)] #[]) ∧ w'.heap[w.heap.size]? = some (.cells ([.int .i64 c1, .int .i64 c2, .bool c3, .string c4] : List Value).toArray 50 (0, 0))
 have hS : S W := HS W hfW
 refine wp_region_held (S := S) hlift ?_
 change wpAnyH _ _ _ _ S _ _ _ (World.drew _)
 rw [← HW.out]
 clear HW
 refine wpAnyH_take (S := S) (i := 0) (oi := ⟨some 6, .move (.tmp 0), _, _, _, none⟩) (v := .pointer (some ⟨X, 0, none⟩)) rfl (by kernel_rfl) (by kernel_rfl) (by kernel_rfl) (fun _ _ _ h => reply_put 6 (by decide) h) (Or.inl ⟨rfl, fun _ _ => rfl⟩) hS ?_
 simp only [Act.put, lsE, lsZ, lsS]
 refine wpAnyH_take (S := S) (i := 1) (oi := ⟨some 7, .nilCheck (.tmp 6), _, _, _, none⟩) (v := .pointer (some ⟨X, 0, none⟩)) rfl (by kernel_rfl) (by kernel_rfl) (by kernel_rfl) (fun _ _ _ h => reply_put 7 (by decide) h) (Or.inl ⟨rfl, fun _ _ => by kernel_rfl⟩) hS ?_
 simp only [Act.put, lsE, lsZ, lsS]
 refine wpAnyH_take (S := S) (i := 2) (oi := ⟨some 8, .fieldAddr 91 (.tmp 7) 5, _, _, _, none⟩) (v := .pointer (some ⟨X, 5, none⟩)) rfl (by kernel_rfl) (by kernel_rfl) (by kernel_rfl) (fun _ _ _ h => reply_put 8 (by decide) h) (Or.inl ⟨rfl, fun _ _ => by kernel_rfl⟩) hS ?_
 simp only [Act.put, lsE, lsZ, lsS]
 refine wpAnyH_take (S := S) (i := 3) (oi := ⟨some 9, .load 89 (.tmp 8), _, _, _, none⟩) (v := (.func (.func 47) #[.pointer (some ⟨Pp, 0, none⟩)] #[])) rfl (by kernel_rfl) (by kernel_rfl) (by kernel_rfl) (fun _ _ _ h => reply_put 9 (by decide) h) (Or.inl ⟨rfl, fun w' hs => exec_load 89 (.tmp 8) rfl ⟨X, 5, none⟩ rfl (run_loadAt_one ((cell_of_row _ X 5 _ _ _ hs.1).trans rfl) Tryz.underlying89 rfl)⟩) hS ?_
 simp only [Act.put, lsE, lsZ, lsS]
 refine wpAnyH_take (S := S) (i := 4) (oi := ⟨some 10, .load 50 (.tmp 3), _, _, _, none⟩) (v := .agg ([.int .i64 c1, .int .i64 c2, .bool c3, .string c4] : List Value).toArray) rfl (by kernel_rfl) (by kernel_rfl) (by kernel_rfl) (fun _ _ _ h => reply_put 10 (by decide) h) (Or.inl ⟨rfl, fun w' hs => exec_load 50 (.tmp 3) rfl ⟨w.heap.size, 0, none⟩ rfl (loadC (c := ⟨c1, c2, c3, c4⟩) hs.2)⟩) hS ?_
 simp only [Act.put, lsE, lsZ, lsS]
 refine wpAnyH_all (rs := [5]) (by kernel_rfl) (by simp) ?_
 intro i5 hi5
 obtain rfl : i5 = 5 := by simpa using hi5
 refine wpOp_call (o := ⟨some 11, .call { callee := .value (.tmp 9), args := #[.tmp 10], argTypes := _ }, _, _, _, none⟩) (f := 47) (args := #[.pointer (some ⟨Pp, 0, none⟩), .agg ([.int .i64 c1, .int .i64 c2, .bool c3, .string c4] : List Value).toArray]) rfl rfl (by kernel_rfl) ?_
 refine (HA W (hfa.trans hfW (fun _ _ h => h)) (by have := hfW.size; simp at this; omega)).mono ?_
 rintro e1 w2 ⟨k, rfl, hf2, hQ⟩
 have nF0 : ¬ F w.heap.size := fun h => by have := hFs _ h; omega
 have nF1 : ¬ F (w.heap.size + 1) := fun h => by have := hFs _ h; omega
 have hS2 : S w2 := ⟨hf2.keep hS.1 hFX, hf2.keep hS.2 nF0⟩
 refine ⟨_, rfl, hS2, ?_⟩
 simp only [Act.put, lsE, lsZ, lsS]
 refine wpAnyH_all (rs := [6]) (by kernel_rfl) (by simp) ?_
 intro i6 hi6
 obtain rfl : i6 = 6 := by simpa using hi6
 have hb2 := hf2.keep (hfW.keep hr1 (fun h => h)) nF1
 have hst := run_storeAt_one (P := Tryz.prog) (w := w2) (a := ⟨w.heap.size + 1, 0, none⟩) (t := 3) (v := .int .i64 k) ((cell_of_row _ _ 0 _ _ _ hb2).trans rfl) (frozen_of_row _ _ 0 _ _ hb2) (by kernel_rfl) rfl
 have hbE := heap_setCell_at w2 (w.heap.size + 1) 0 _ _ (.int .i64 k) hb2
 have hsE : Fr (fun b => b = w.heap.size + 1) w2 (w2.setCell ⟨w.heap.size + 1, 0, none⟩ (.int .i64 k)) := Fr.set1 _ _ _ _
 have hXl : X ≠ w.heap.size + 1 := by have := lt_of_heap he; omega
 have hSE : S (w2.setCell ⟨w.heap.size + 1, 0, none⟩ (.int .i64 k)) := ⟨hsE.keep hS2.1 hXl, hsE.keep hS2.2 (by omega)⟩
 refine wpOp_skip (o := ⟨none, .store 3 (.tmp 4) (.tmp 11), _, _, _, none⟩) (w' := w2.setCell ⟨w.heap.size + 1, 0, none⟩ (.int .i64 k)) rfl rfl (exec_store 3 _ _ rfl ⟨w.heap.size + 1, 0, none⟩ _ rfl rfl hst) ⟨hSE, ?_⟩
 simp only [Act.put]
 refine wpAnyH_done (by kernel_rfl) ?_ _
 have cE : (w2.setCell ⟨w.heap.size + 1, 0, none⟩ (.int .i64 k)).cell? ⟨w.heap.size + 1, 0, none⟩ = some (.int .i64 k) := (cell_of_row _ _ 0 _ _ _ hbE).trans rfl
 have HE : Hid (Fr F w (w2.setCell ⟨w.heap.size + 1, 0, none⟩ (.int .i64 k)) ∧ Q k (w2.setCell ⟨w.heap.size + 1, 0, none⟩ (.int .i64 k))) := ⟨((((hfa.trans hfW (fun _ _ h => h)).mono (fun _ _ h => h.elim)).trans hf2 (fun _ _ h => h))).setCell _ (fun h => by simp at h; omega) _, HQ k _ _ hQ hsE⟩
 clear hSE hsE hbE hst hb2 hS2 hQ hf2 hS hfW HS
 go_wp2
 refine leaves_cons (f := 149) (args := #[.pointer (some ⟨w.heap.size + 1, 0, none⟩)]) (by simp) (by simp [go_sem]) ?_
 refine (reply1_idle ⟨w.heap.size + 1, 0, none⟩ _).mono ?_
 rintro e1 u' w'' ⟨rfl, rfl, rfl⟩
 simp [Leaves, settle, results, Tryz.results104, go_sem, cE]
 exact HE.out
end
end Go.Proofs.YteebjgfalllbjaaGreatDoor
namespace Go.Proofs.YteebjgfalllbjaaGreatDoor
open Go.RowKit
set_option maxRecDepth 100000 in
theorem neq_call (c : CL) (w : World) : (binOp .neq 50 (.agg c.cs.toArray) (.agg c.cs.toArray)).run Tryz.prog w = .ok (.bool false) w := by
 obtain ⟨c1, c2, c3, c4⟩ := c
 unfold CL.cs
 go_simp
section
variable {w : World} {X J R V A B n base e : Nat} {room clock pause calls writes : Int} {ev cv : Value} {es : List (Nat × AS)} {s : Bool} {bs : List Value}
set_option maxRecDepth 100000 in
set_option maxHeartbeats 4000000 in
theorem ask_gen (c : CL) {P : World → Prop} {Q1 : World → Prop} {Q2 : Nat → World → Prop} {F1 F2 : Nat → Prop} (he : EngAt w X J R clock pause cv) (n1 : ∀ b, F1 b → b ≠ X ∧ b < w.heap.size) (n2 : ∀ b, F2 b → b ≠ X ∧ b < w.heap.size)
  (HSE : ∀ W, Fr (fun _ => False) w W → Calls Tryz.prog 91 #[.pointer (some ⟨J, 0, none⟩)] W fun e' w' => e' = .returned .nilIface ∧ Fr F1 W w' ∧ Q1 w')
  (HRE : ∀ W, Q1 W → EngAt W X J R clock pause cv → w.heap.size ≤ W.heap.size → Calls Tryz.prog 104 #[.pointer (some ⟨X, 0, none⟩), .agg c.cs.toArray] W fun e' w' => ∃ r : Nat, e' = .returned (.int .i64 r) ∧ Fr F2 W w' ∧ Q2 r w')
  (HR3 : ∀ (r : Nat) W, Q2 r W → RollAt W R base room ev es)
  (HNX : ∀ W, RollAt W R base room ev es → Calls Tryz.prog 65 #[.pointer (some ⟨R, 0, none⟩), .int .i64 c.saga, .int .i64 clock] W fun e' w' => ∃ t, e' = .returned (.tuple #[.agg c.cs.toArray, .bool t]) ∧ Fr (fun _ => False) W w')
  (HFO : ∀ (r : Nat) W W', Q2 r W → EngAt W' X J R clock pause cv → Fr (fun _ => False) W W' → Calls Tryz.prog 105 #[.pointer (some ⟨X, 0, none⟩), .agg #[.int .i64 c.saga, .int .i64 r]] W' fun e' w' => e' = .returned .nilIface ∧ P w') :
  Calls Tryz.prog 66 #[.pointer (some ⟨X, 0, none⟩), .agg c.cs.toArray] w fun e' w' => e' = .returned .nilIface ∧ P w' := by
 have hlift : Tryz.prog.follows .mixedOrders = true := by kernel_rfl
 have hneq := neq_call c
 have hfa : Fr (fun _ => False) w (w.alloc (.cells c.cs.toArray 50)) := (Fr.refl _ _).alloc _
 have hC0 := heap_alloc_at w (.cells c.cs.toArray 50)
 have hE0 : EngAt (w.alloc (.cells c.cs.toArray 50)) X J R clock pause cv := hfa.keep he (fun h => h)
 have x0 : (w.alloc (.cells c.cs.toArray 50)).cell? ⟨X, 0, none⟩ = some (.pointer (some ⟨J, 0, none⟩)) := (cell_of_row _ X 0 _ _ _ hE0).trans rfl
 go_enter Tryz.func66, Tryz.ntmps66
 go_wp2_with fail
 refine (HSE _ hfa).mono ?_
 rintro e1 w1 ⟨rfl, hf1, hq1⟩
 have hE1 : EngAt w1 X J R clock pause cv := hf1.keep hE0 (fun h => (n1 _ h).1 rfl)
 have hC1 := hf1.keep hC0 (fun h => by have := (n1 _ h).2; omega)
 have hsz1 : w.heap.size ≤ w1.heap.size := by have := lt_of_heap hC1; omega
 go_wp2_with fail
 refine (checked_nil ⟨X, 0, none⟩ w1).mono ?_
 rintro e1 w1' ⟨rfl, e7⟩
 rw [e7]
 clear e7 w1' hf1 hE0 x0 HSE
 have hrg : w1.rangeAt w.heap.size 0 c.cs := fun j v hv => (cell_of_row w1 _ (0 + j) _ _ _ hC1).trans (by simpa using hv)
 go_wp2_with (first | (refine wpList_load_mid rfl 50 (.tmp 3) rfl w.heap.size 0 ?_ _ _ hrg Tryz.underlying50 rfl ?_ ?_; rfl; exact call_size))
 refine (HRE w1 hq1 hE1 hsz1).mono ?_
 rintro e1 w3 ⟨r, rfl, hf3, hq3⟩
 have hE3 : EngAt w3 X J R clock pause cv := hf3.keep hE1 (fun h => (n2 _ h).1 rfl)
 have hC3 := hf3.keep hC1 (fun h => by have := (n2 _ h).2; omega)
 have x2 : w3.cell? ⟨X, 2, none⟩ = some (.bool false) := (cell_of_row _ X 2 _ _ _ hE3).trans rfl
 have h3 := HR3 r w3 hq3
 have HFO := fun W' hf => HFO r w3 W' hq3 (hf.keep hE3 (fun h => h)) hf
 clear hrg HRE HR3 hq1 hE1 hC1 hf3 hq3
 go_wp2_with fail
 obtain ⟨W, HW⟩ : ∃ W, Hid (W = w3.drew) := ⟨_, rfl⟩
 have hfW : Fr (fun _ => False) w3 W := by rw [HW.out]; exact (Fr.refl _ _).drew
 let S : World → Prop := fun w' => EngAt w' X J R clock pause cv ∧ w'.heap[w.heap.size]? = some (.cells c.cs.toArray 50 (0, 0))
 have hS : S W := ⟨hfW.keep hE3 (fun h => h), hfW.keep hC3 (fun h => h)⟩
 refine wp_region_held (S := S) hlift ?_
 change wpAnyH _ _ _ _ S _ _ _ (World.drew _)
 rw [← HW.out]
 clear HW
 refine tkE (S := S) (i := 0) (oi := ⟨some 28, .move (.tmp 0), _, _, _, none⟩) (v := .pointer (some ⟨X, 0, none⟩)) rfl hS ?_
 simp only [Act.put, lsE, lsZ, lsS]
 refine tkE (S := S) (i := 1) (oi := ⟨some 29, .nilCheck (.tmp 28), _, _, _, none⟩) (v := .pointer (some ⟨X, 0, none⟩)) rfl hS ?_
 simp only [Act.put, lsE, lsZ, lsS]
 refine tkE (S := S) (i := 2) (oi := ⟨some 30, .fieldAddr 91 (.tmp 29) 1, _, _, _, none⟩) (v := .pointer (some ⟨X, 1, none⟩)) rfl hS ?_
 simp only [Act.put, lsE, lsZ, lsS]
 refine tkY (S := S) (i := 3) (oi := ⟨some 31, .load 88 (.tmp 30), _, _, _, none⟩) (v := .pointer (some ⟨R, 0, none⟩)) rfl (Or.inl ⟨rfl, fun w' hs => exec_load 88 (.tmp 30) rfl ⟨X, 1, none⟩ rfl (run_loadAt_one ((cell_of_row _ X 1 _ _ _ hs.1).trans rfl) Tryz.underlying88 rfl)⟩) hS ?_
 simp only [Act.put, lsE, lsZ, lsS]
 refine tkE (S := S) (i := 4) (oi := ⟨some 32, .fieldAddr 50 (.tmp 3) 0, _, _, _, none⟩) (v := .pointer (some ⟨w.heap.size, 0, none⟩)) rfl hS ?_
 simp only [Act.put, lsE, lsZ, lsS]
 refine tkY (S := S) (i := 5) (oi := ⟨some 33, .load 3 (.tmp 32), _, _, _, none⟩) (v := .int .i64 c.saga) rfl (Or.inl ⟨rfl, fun w' hs => exec_load 3 (.tmp 32) rfl ⟨w.heap.size, 0, none⟩ rfl (run_loadAt_one ((cell_of_row _ w.heap.size 0 _ _ _ hs.2).trans rfl) Tryz.underlying3 rfl)⟩) hS ?_
 simp only [Act.put, lsE, lsZ, lsS]
 refine tkE (S := S) (i := 6) (oi := ⟨some 34, .move (.tmp 0), _, _, _, none⟩) (v := .pointer (some ⟨X, 0, none⟩)) rfl hS ?_
 simp only [Act.put, lsE, lsZ, lsS]
 refine tkE (S := S) (i := 7) (oi := ⟨some 35, .nilCheck (.tmp 34), _, _, _, none⟩) (v := .pointer (some ⟨X, 0, none⟩)) rfl hS ?_
 simp only [Act.put, lsE, lsZ, lsS]
 refine tkE (S := S) (i := 8) (oi := ⟨some 36, .fieldAddr 91 (.tmp 35) 3, _, _, _, none⟩) (v := .pointer (some ⟨X, 3, none⟩)) rfl hS ?_
 simp only [Act.put, lsE, lsZ, lsS]
 refine tkY (S := S) (i := 9) (oi := ⟨some 37, .load 3 (.tmp 36), _, _, _, none⟩) (v := .int .i64 clock) rfl (Or.inl ⟨rfl, fun w' hs => exec_load 3 (.tmp 36) rfl ⟨X, 3, none⟩ rfl (run_loadAt_one ((cell_of_row _ X 3 _ _ _ hs.1).trans rfl) Tryz.underlying3 rfl)⟩) hS ?_
 simp only [Act.put, lsE, lsZ, lsS]
 refine wpAnyH_all (rs := [10, 14]) (by kernel_rfl) (by simp) ?_
 intro iq hiq
 have hqq : iq = 10 ∨ iq = 14 := by simpa using hiq
 rcases hqq with rfl | rfl
 ·refine wpOp_call (o := ⟨some 38, .call { callee := .value (.func 65), args := #[(.tmp 31), (.tmp 33), (.tmp 37)], argTypes := _ }, _, _, _, none⟩) (f := 65) (args := #[.pointer (some ⟨R, 0, none⟩), .int .i64 c.saga, .int .i64 clock]) rfl rfl (by kernel_rfl) ?_
  refine (HNX W (h3.frz hfW)).mono ?_
  rintro e1 w4 ⟨t, rfl, hfw4⟩
  have hw4 : Fr (fun _ => False) w3 w4 := hfW.trans hfw4 (fun _ _ h => h)
  have hSw4 : S w4 := ⟨hw4.keep hE3 (fun h => h), hw4.keep hC3 (fun h => h)⟩
  refine ⟨_, rfl, hSw4, ?_⟩
  simp only [Act.put, lsE, lsZ, lsS]
  refine tkE (S := S) (i := 11) (oi := ⟨some 27, .move (.tmp 38), _, _, _, none⟩) (v := .tuple #[.agg c.cs.toArray, .bool t]) rfl hSw4 ?_
  simp only [Act.put, lsE, lsZ, lsS]
  refine tkE (S := S) (i := 12) (oi := ⟨some 39, .extract (.tmp 27) 0, _, _, _, none⟩) (v := .agg c.cs.toArray) rfl hSw4 ?_
  simp only [Act.put, lsE, lsZ, lsS]
  refine tkE (S := S) (i := 13) (oi := ⟨some 40, .extract (.tmp 27) 1, _, _, _, none⟩) (v := .bool t) rfl hSw4 ?_
  simp only [Act.put, lsE, lsZ, lsS]
  refine wpAnyH_all (rs := [14]) (by kernel_rfl) (by simp) ?_
  intro i14 hi14
  obtain rfl : i14 = 14 := by simpa using hi14
  obtain ⟨w5, HWw5⟩ : ∃ w5, Hid (w5 = w4.alloc (.cells ([.int .i64 0, .int .i64 0, .bool false, .string ⟨#[]⟩] : List Value).toArray 50)) := ⟨_, rfl⟩
  have hrw5 : w5.heap[w4.heap.size]? = some (.cells ([.int .i64 0, .int .i64 0, .bool false, .string ⟨#[]⟩] : List Value).toArray 50 (0, 0)) := by rw [HWw5.out]; exact heap_alloc_at _ _
  have hfw5 : Fr (fun _ => False) w4 w5 := by rw [HWw5.out]; exact (Fr.refl _ _).alloc _
  have hw5 : Fr (fun _ => False) w3 w5 := hw4.trans hfw5 (fun _ _ h => h)
  have hSw5 : S w5 := ⟨hw5.keep hE3 (fun h => h), hw5.keep hC3 (fun h => h)⟩
  refine wpOp_value (o := ⟨some 7, .alloc 50, _, _, _, none⟩) (v := .pointer (some ⟨w4.heap.size, 0, none⟩)) (w' := w5) rfl rfl (by rw [HWw5.out]; exact exec_alloc_call _ _ rfl _) ⟨hSw5, ?_⟩
  simp only [Act.put, lsE, lsZ, lsS]
  refine wpAnyH_all (rs := [15]) (by kernel_rfl) (by simp) ?_
  intro i15 hi15
  obtain rfl : i15 = 15 := by simpa using hi15
  have hst := run_storeC c (hrw5) rfl
  have hRE := setRow_heap w5 w4.heap.size _ c.cs.toArray 50 (0, 0) (hrw5)
  have hge : w3.heap.size ≤ w4.heap.size := hw4.size
  have hFE : Fr (fun _ => False) w3 (w5.setRow w4.heap.size c.cs.toArray) := hw5.setRow _ (fun h => by omega) _
  have hSE : S (w5.setRow w4.heap.size c.cs.toArray) := ⟨hFE.keep hE3 (fun h => h), hFE.keep hC3 (fun h => h)⟩
  refine wpOp_skip (o := ⟨none, .store 50 (.tmp 7) (.tmp 39), _, _, _, none⟩) (w' := w5.setRow w4.heap.size c.cs.toArray) rfl rfl (exec_store 50 _ _ rfl ⟨w4.heap.size, 0, none⟩ _ rfl rfl hst) ⟨hSE, ?_⟩
  simp only [Act.put]
  refine tkE (S := S) (i := 16) (oi := ⟨some 8, .assign (.tmp 40), _, _, _, none⟩) (v := .bool t) rfl hSE ?_
  simp only [Act.put, lsE, lsZ, lsS]
  refine wpAnyH_done (by kernel_rfl) ?_ _
  obtain ⟨WE, HWE⟩ : ∃ WE, Hid (WE = w5.setRow w4.heap.size c.cs.toArray) := ⟨_, rfl⟩
  have HH := HFO WE (by rw [HWE.out]; exact hFE)
  have hE9 : EngAt WE X J R clock pause cv := by rw [HWE.out]; exact hSE.1
  have hC9 : WE.heap[w.heap.size]? = some (.cells c.cs.toArray 50 (0, 0)) := by rw [HWE.out]; exact hSE.2
  have hrg1 : WE.rangeAt w.heap.size 0 c.cs := fun j v hv => (cell_of_row WE _ (0 + j) _ _ _ hC9).trans (by simpa using hv)
  have hrg2 : WE.rangeAt w4.heap.size 0 c.cs := fun j v hv => (cell_of_row WE _ (0 + j) _ _ _ (by rw [HWE.out]; exact hRE)).trans (by simpa using hv)
  have d0 : WE.cell? ⟨w.heap.size, 0, none⟩ = some (.int .i64 c.saga) := (cell_of_row _ _ 0 _ _ _ hC9).trans rfl
  rw [← HWE.out]
  clear HWE hRE hst hFE hSE hE9 HFO HNX
  go_wp2_with (first | (refine wpList_load_mid rfl 50 (.tmp 3) rfl w.heap.size 0 ?_ _ _ hrg1 Tryz.underlying50 rfl ?_ ?_; rfl; exact call_size) | (refine wpList_load_mid rfl 50 (.tmp 7) rfl w4.heap.size 0 ?_ _ _ hrg2 Tryz.underlying50 rfl ?_ ?_; rfl; exact call_size))
  refine HH.mono ?_
  rintro e1 w9 ⟨rfl, hq9⟩
  have HQ9 : Hid (P w9) := hq9
  clear hq9 HH
  go_wp2
  go_ret
  exact ⟨rfl, HQ9.out⟩
 ·obtain ⟨w4, HWw4⟩ : ∃ w4, Hid (w4 = W.alloc (.cells ([.int .i64 0, .int .i64 0, .bool false, .string ⟨#[]⟩] : List Value).toArray 50)) := ⟨_, rfl⟩
  have hrw4 : w4.heap[W.heap.size]? = some (.cells ([.int .i64 0, .int .i64 0, .bool false, .string ⟨#[]⟩] : List Value).toArray 50 (0, 0)) := by rw [HWw4.out]; exact heap_alloc_at _ _
  have hfw4 : Fr (fun _ => False) W w4 := by rw [HWw4.out]; exact (Fr.refl _ _).alloc _
  have hw4 : Fr (fun _ => False) w3 w4 := hfW.trans hfw4 (fun _ _ h => h)
  have hSw4 : S w4 := ⟨hw4.keep hE3 (fun h => h), hw4.keep hC3 (fun h => h)⟩
  refine wpOp_value (o := ⟨some 7, .alloc 50, _, _, _, none⟩) (v := .pointer (some ⟨W.heap.size, 0, none⟩)) (w' := w4) rfl rfl (by rw [HWw4.out]; exact exec_alloc_call _ _ rfl _) ⟨hSw4, ?_⟩
  simp only [Act.put, lsE, lsZ, lsS]
  refine wpAnyH_all (rs := [10]) (by kernel_rfl) (by simp) ?_
  intro i11 hi11
  obtain rfl : i11 = 10 := by simpa using hi11
  refine wpOp_call (o := ⟨some 38, .call { callee := .value (.func 65), args := #[(.tmp 31), (.tmp 33), (.tmp 37)], argTypes := _ }, _, _, _, none⟩) (f := 65) (args := #[.pointer (some ⟨R, 0, none⟩), .int .i64 c.saga, .int .i64 clock]) rfl rfl (by kernel_rfl) ?_
  refine (HNX w4 (h3.frz hw4)).mono ?_
  rintro e1 w5 ⟨t, rfl, hfw5⟩
  have hw5 : Fr (fun _ => False) w3 w5 := hw4.trans hfw5 (fun _ _ h => h)
  have hSw5 : S w5 := ⟨hw5.keep hE3 (fun h => h), hw5.keep hC3 (fun h => h)⟩
  refine ⟨_, rfl, hSw5, ?_⟩
  simp only [Act.put, lsE, lsZ, lsS]
  refine tkE (S := S) (i := 11) (oi := ⟨some 27, .move (.tmp 38), _, _, _, none⟩) (v := .tuple #[.agg c.cs.toArray, .bool t]) rfl hSw5 ?_
  simp only [Act.put, lsE, lsZ, lsS]
  refine tkE (S := S) (i := 12) (oi := ⟨some 39, .extract (.tmp 27) 0, _, _, _, none⟩) (v := .agg c.cs.toArray) rfl hSw5 ?_
  simp only [Act.put, lsE, lsZ, lsS]
  refine tkE (S := S) (i := 13) (oi := ⟨some 40, .extract (.tmp 27) 1, _, _, _, none⟩) (v := .bool t) rfl hSw5 ?_
  simp only [Act.put, lsE, lsZ, lsS]
  refine wpAnyH_all (rs := [15]) (by kernel_rfl) (by simp) ?_
  intro i15 hi15
  obtain rfl : i15 = 15 := by simpa using hi15
  have hst := run_storeC c (hfw5.keep hrw4 (fun h => h)) rfl
  have hRE := setRow_heap w5 W.heap.size _ c.cs.toArray 50 (0, 0) (hfw5.keep hrw4 (fun h => h))
  have hge : w3.heap.size ≤ W.heap.size := hfW.size
  have hFE : Fr (fun _ => False) w3 (w5.setRow W.heap.size c.cs.toArray) := hw5.setRow _ (fun h => by omega) _
  have hSE : S (w5.setRow W.heap.size c.cs.toArray) := ⟨hFE.keep hE3 (fun h => h), hFE.keep hC3 (fun h => h)⟩
  refine wpOp_skip (o := ⟨none, .store 50 (.tmp 7) (.tmp 39), _, _, _, none⟩) (w' := w5.setRow W.heap.size c.cs.toArray) rfl rfl (exec_store 50 _ _ rfl ⟨W.heap.size, 0, none⟩ _ rfl rfl hst) ⟨hSE, ?_⟩
  simp only [Act.put]
  refine tkE (S := S) (i := 16) (oi := ⟨some 8, .assign (.tmp 40), _, _, _, none⟩) (v := .bool t) rfl hSE ?_
  simp only [Act.put, lsE, lsZ, lsS]
  refine wpAnyH_done (by kernel_rfl) ?_ _
  obtain ⟨WE, HWE⟩ : ∃ WE, Hid (WE = w5.setRow W.heap.size c.cs.toArray) := ⟨_, rfl⟩
  have HH := HFO WE (by rw [HWE.out]; exact hFE)
  have hE9 : EngAt WE X J R clock pause cv := by rw [HWE.out]; exact hSE.1
  have hC9 : WE.heap[w.heap.size]? = some (.cells c.cs.toArray 50 (0, 0)) := by rw [HWE.out]; exact hSE.2
  have hrg1 : WE.rangeAt w.heap.size 0 c.cs := fun j v hv => (cell_of_row WE _ (0 + j) _ _ _ hC9).trans (by simpa using hv)
  have hrg2 : WE.rangeAt W.heap.size 0 c.cs := fun j v hv => (cell_of_row WE _ (0 + j) _ _ _ (by rw [HWE.out]; exact hRE)).trans (by simpa using hv)
  have d0 : WE.cell? ⟨w.heap.size, 0, none⟩ = some (.int .i64 c.saga) := (cell_of_row _ _ 0 _ _ _ hC9).trans rfl
  rw [← HWE.out]
  clear HWE hRE hst hFE hSE hE9 HFO HNX
  go_wp2_with (first | (refine wpList_load_mid rfl 50 (.tmp 3) rfl w.heap.size 0 ?_ _ _ hrg1 Tryz.underlying50 rfl ?_ ?_; rfl; exact call_size) | (refine wpList_load_mid rfl 50 (.tmp 7) rfl W.heap.size 0 ?_ _ _ hrg2 Tryz.underlying50 rfl ?_ ?_; rfl; exact call_size))
  refine HH.mono ?_
  rintro e1 w9 ⟨rfl, hq9⟩
  have HQ9 : Hid (P w9) := hq9
  clear hq9 HH
  go_wp2
  go_ret
  exact ⟨rfl, HQ9.out⟩
end
end Go.Proofs.YteebjgfalllbjaaGreatDoor
