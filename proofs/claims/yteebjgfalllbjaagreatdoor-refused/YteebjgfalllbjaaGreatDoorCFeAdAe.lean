import Derived.Test.YteebjgfalllbjaaGreatDoorCSbTxRg2
import Derived.Test.YteebjgfalllbjaaGreatDoorCInIoTk
namespace Go.Proofs.YteebjgfalllbjaaGreatDoor
open Go.RowKit
theorem saga_box (w : World) (id : Int) (st : List SS) (h6 : st.length ≤ 6) : ∃ WS, (Instr.storeAt 122 (.pointer (some ⟨w.heap.size, 0, none⟩)) (.agg (sagaC id st.length (six st)).toArray)).run Tryz.prog (w.alloc (.cells noS.toArray 122)) = .ok () WS ∧ WS.heap[w.heap.size]? = some (.cells (sagaC id st.length (six st)).toArray 122 (0, 0)) ∧ Fr (fun _ => False) w WS := by
  have hl := sagaC_len id st.length _ (six_len _ h6)
  have zr := heap_alloc_at w (.cells noS.toArray 122)
  exact ⟨_, run_store14 zr noS_len hl (sagaC_one _ _ _), setRow_heap _ _ _ _ _ _ zr, Fr.setRow (S := fun _ => False) ((Fr.refl _ _).alloc _) _ (fun h => by omega) _⟩
theorem blk_kind (id : Nat) (st : List SS) (h6 : st.length ≤ 6) (h8 : ∀ p ∈ st, p.1.size ≤ 8 ∧ p.2.size ≤ 8) : (ldB 2 (bodyS id st.length (six st) 6) 4)[0]? = some (.int .u8 2) := by
  have hbl : (bodyS id st.length (six st) 6).length = 124 := bodyS_len id st.length (six st) (six_ok h8) 6 (by rw [six_len _ h6]; omega) (by omega)
  exact ldB_kind 2 _ hbl 0 (by omega)
set_option maxRecDepth 100000 in
set_option maxHeartbeats 1000000 in
theorem rcRead_ok {w : World} {R : Nat} {Q : World → Prop} {fv : Fn} {fa fc : Array Value} (id : Nat) (st : List SS) (hok : sagaOk id st = true) (HT : ∀ w', Fr (fun _ => False) w w' → Calls Tryz.prog 63 #[.pointer (some ⟨R, 0, none⟩), .agg (sagaC id st.length (six st)).toArray] w' fun e w'' => e = .returned (.bool true) ∧ Q w'') :
    Calls Tryz.prog 116 #[.agg (ldB 2 (bodyS id st.length (six st) 6) 4).toArray, .func (.func 63) #[.pointer (some ⟨R, 0, none⟩)] #[], .func fv fa fc] w fun e w' => e = .returned (.bool true) ∧ Q w' := by
  obtain ⟨hid1, hid2, hn1, h6, h8⟩ : (1 : Int) ≤ id ∧ (id : Int) ≤ 1000 ∧ 1 ≤ st.length ∧ st.length ≤ 6 ∧ ∀ p ∈ st, p.1.size ≤ 8 ∧ p.2.size ≤ 8 := of_decide_eq_true hok
  have hbl : (bodyS id st.length (six st) 6).length = 124 := bodyS_len id st.length (six st) (six_ok h8) 6 (by rw [six_len _ h6]; omega) (by omega)
  have hll : (ldB 2 (bodyS id st.length (six st) 6) 4).length = 128 := ldB_len 2 _ hbl 4 (by omega)
  have hk := blk_kind id st h6 h8
  have HS := fun w' => readSaga_ok w' id st hok
  obtain ⟨blk, HB⟩ : ∃ blk, Hid (blk = ldB 2 (bodyS id st.length (six st) 6) 4) := ⟨_, rfl⟩
  rw [← HB.out] at hll hk HS ⊢
  have hrow := heap_alloc_at w (.cells blk.toArray 130)
  have hfa : Fr (fun _ => False) w (w.alloc (.cells blk.toArray 130)) := (Fr.refl _ _).alloc _
  have c0 : (w.alloc (.cells blk.toArray 130)).cell? ⟨w.heap.size, 0, none⟩ = some (.int .u8 2) := (cell_of_row _ _ 0 _ _ _ hrow).trans (by rw [List.getElem?_toArray]; exact hk)
  have hM : (w.alloc (.cells blk.toArray 130)).rangeAt w.heap.size 0 blk := fun j v hv => (cell_of_row _ _ (0 + j) _ _ _ hrow).trans (by simpa using hv)
  go_enter Tryz.func116, Tryz.ntmps116
  go_wp2_with (first | (refine wpList_load_mid rfl 130 _ rfl w.heap.size 0 ?_ _ _ hM Tryz.underlying130 rfl ?_ ?_; rfl; (rw [block_size, hll])))
  refine (HS _).mono ?_
  rintro e w2 ⟨rfl, hf2⟩
  have hF2 : Fr (fun _ => False) w w2 := hfa.trans hf2 (fun _ _ h => h)
  clear hrow hfa c0 hM hf2 HS
  obtain ⟨WS, hst, hrS, hfS⟩ := saga_box w2 id st h6
  have hFS : Fr (fun _ => False) w WS := hF2.trans hfS (fun _ _ h => h)
  have hL := load14 hrS h6
  have HT' := HT WS hFS
  clear hF2 hfS HT
  go_wp2_with (first | (refine wpList_store 122 (w' := WS) _ _ rfl rfl ?_ ?_; exact hst) | (refine wpList_wanted ?_ (exec_load 122 (.tmp 9) rfl ⟨w2.heap.size, 0, none⟩ rfl hL) ?_; (first | rfl | kernel_rfl | simp [Region.wanted, yielded])))
  refine HT'.mono ?_
  rintro e w5 ⟨rfl, hQ⟩
  have HQ : Hid (Q w5) := hQ
  clear hQ HT' hL hst hrS hFS
  go_wp2
  go_ret
  exact ⟨rfl, HQ.out⟩
set_option maxRecDepth 100000 in
theorem Find11_ok {w : World} {R X3 X4 : Nat} {Q : World → Prop} {fv : Fn} {fa fc : Array Value} (id : Nat) (st : List SS) (hok : sagaOk id st = true)
    (h3 : w.heap[X3]? = some (.cells #[.func (.func 63) #[.pointer (some ⟨R, 0, none⟩)] #[]] 127 (0, 0))) (h4 : w.heap[X4]? = some (.cells #[.func fv fa fc] 162 (0, 0)))
    (HT : ∀ w', Fr (fun _ => False) w w' → Calls Tryz.prog 63 #[.pointer (some ⟨R, 0, none⟩), .agg (sagaC id st.length (six st)).toArray] w' fun e w'' => e = .returned (.bool true) ∧ Q w'') :
    Calls Tryz.prog 115 #[.agg (ldB 2 (bodyS id st.length (six st) 6) 4).toArray, .pointer (some ⟨X3, 0, none⟩), .pointer (some ⟨X4, 0, none⟩)] w fun e w' => e = .returned (.bool true) ∧ Q w' := by
  obtain ⟨hid1, hid2, hn1, h6, h8⟩ : (1 : Int) ≤ id ∧ (id : Int) ≤ 1000 ∧ 1 ≤ st.length ∧ st.length ≤ 6 ∧ ∀ p ∈ st, p.1.size ≤ 8 ∧ p.2.size ≤ 8 := of_decide_eq_true hok
  have hbl : (bodyS id st.length (six st) 6).length = 124 := bodyS_len id st.length (six st) (six_ok h8) 6 (by rw [six_len _ h6]; omega) (by omega)
  have hll : (ldB 2 (bodyS id st.length (six st) 6) 4).length = 128 := ldB_len 2 _ hbl 4 (by omega)
  have HR : ∀ W, Fr (fun _ => False) w W → Calls Tryz.prog 116 #[.agg (ldB 2 (bodyS id st.length (six st) 6) 4).toArray, .func (.func 63) #[.pointer (some ⟨R, 0, none⟩)] #[], .func fv fa fc] W fun e w' => e = .returned (.bool true) ∧ Q w' := fun W hf => rcRead_ok id st hok (fun w' hf' => HT w' (hf.trans hf' (fun _ _ h => h)))
  obtain ⟨blk, HB⟩ : ∃ blk, Hid (blk = ldB 2 (bodyS id st.length (six st) 6) 4) := ⟨_, rfl⟩
  rw [← HB.out] at hll HR ⊢
  have hrow := heap_alloc_at w (.cells blk.toArray 130)
  have hfa : Fr (fun _ => False) w (w.alloc (.cells blk.toArray 130)) := (Fr.refl _ _).alloc _
  have hM : (w.alloc (.cells blk.toArray 130)).rangeAt w.heap.size 0 blk := fun j v hv => (cell_of_row _ _ (0 + j) _ _ _ hrow).trans (by simpa using hv)
  have c3 : (w.alloc (.cells blk.toArray 130)).cell? ⟨X3, 0, none⟩ = some (.func (.func 63) #[.pointer (some ⟨R, 0, none⟩)] #[]) := (cell_of_row _ _ 0 _ _ _ (hfa.keep h3 (fun h => h))).trans rfl
  have c4 : (w.alloc (.cells blk.toArray 130)).cell? ⟨X4, 0, none⟩ = some (.func fv fa fc) := (cell_of_row _ _ 0 _ _ _ (hfa.keep h4 (fun h => h))).trans rfl
  have HR' := HR _ hfa
  clear HR HT
  go_enter Tryz.func115, Tryz.ntmps115
  go_wp2_with (first | (refine wpList_load_mid rfl 130 _ rfl w.heap.size 0 ?_ _ _ hM Tryz.underlying130 rfl ?_ ?_; rfl; (rw [block_size, hll])))
  refine HR'.mono ?_
  rintro e w5 ⟨rfl, hQ⟩
  have HQ : Hid (Q w5) := hQ
  clear hQ HR' hrow hfa hM c3 c4
  go_wp2
  go_ret
  exact ⟨rfl, HQ.out⟩
end Go.Proofs.YteebjgfalllbjaaGreatDoor
namespace Go.Proofs.YteebjgfalllbjaaGreatDoor
open Go.RowKit
theorem exec_build0 {ρ : Operand → Value} {o : Oper} (ho : o.op = .build 130 #[]) (w : World) : (execOp ρ o).run Tryz.prog w = .ok (.value (.agg zB.toArray)) w := by
  simp only [execOp, ho]
  kernel_rfl
set_option maxRecDepth 100000 in
set_option maxHeartbeats 1000000 in
theorem Settle1_ok {w : World} {X J V A B n e : Nat} {calls writes : Int} {bs : List Value} (hx : w.heap[X]? = some (.cells #[.pointer (some ⟨J, 0, none⟩)] 87 (0, 0))) (hj : JAt w J V e false) (hv : VolAt w V A n) (hd : DiskAt w A B n (.slice none 0 0) calls writes) (hr : RowsAt w B n bs) (h0 : 0 ≤ calls) (h1 : calls < 95000000) (h2 : 0 ≤ writes) (h3 : writes < 95000000) (he : e < n) : Calls Tryz.prog 138 #[.pointer (some ⟨X, 0, none⟩)] w fun e' w' => e' = .returned .nilIface ∧ JAt w' J V e true ∧ VolAt w' V A n ∧ DiskAt w' A B n (.slice none 0 0) (calls + 2) (writes + 1) ∧ RowsAt w' B n (splice bs (e * 128) zB) ∧ Fr (fun b => b = A ∨ b = B ∨ b = J) w w' := by
  have hlift : Tryz.prog.follows .mixedOrders = true := by kernel_rfl
  have nVA : V ≠ A := hv.ne hd
  have nJA : J ≠ A := fun e => by have := hj; rw [e] at this; have := this.symm.trans hd; simp [dcells] at this
  have nJB : J ≠ B := fun e => by have := hj; rw [e] at this; have := this.symm.trans hr.1; simp at this
  have nJV : J ≠ V := fun e => by have := hj; rw [e] at this; have := this.symm.trans hv; simp at this
  have nAB : A ≠ B := fun e => by have := hd; rw [e] at this; have := this.symm.trans hr.1; simp [dcells] at this
  have nVB : V ≠ B := fun e => by have := hv; rw [e] at this; have := this.symm.trans hr.1; simp at this
  have nXA : X ≠ A := fun e => by have := hx; rw [e] at this; have := this.symm.trans hd; simp [dcells] at this
  have nXB : X ≠ B := fun e => by have := hx; rw [e] at this; have := this.symm.trans hr.1; simp at this
  go_enter Tryz.func138, Tryz.ntmps138
  go_wp2
  obtain ⟨W, HW⟩ : ∃ W, Hid (W = w.drew) := ⟨_, rfl⟩
  have hfW : Fr (fun _ => False) w W := by rw [HW.out]; exact (Fr.refl _ _).drew
  let S : World → Prop := fun w' => w'.cell? ⟨X, 0, none⟩ = some (.pointer (some ⟨J, 0, none⟩)) ∧ w'.cell? ⟨J, 0, none⟩ = some (.pointer (some ⟨V, 0, none⟩)) ∧ w'.cell? ⟨J, 1, none⟩ = some (.int .i64 e)
  have hS : S W := ⟨(cell_of_row W X 0 _ _ _ (hfW.keep hx (fun h => h))).trans rfl, (hj.fr hfW id).c0, (hj.fr hfW id).c1⟩
  refine wp_region_held (S := S) hlift ?_
  change wpAnyH _ _ _ _ S _ _ _ (World.drew _)
  rw [← HW.out]
  clear HW
  refine wpAnyH_take (S := S) (i := 0) (oi := ⟨some 2, .load 87 (.tmp 0), _, _, _, none⟩) (v := .pointer (some ⟨J, 0, none⟩)) rfl (by kernel_rfl) (by kernel_rfl) (by kernel_rfl) (fun _ _ _ h => h) (Or.inl ⟨rfl, fun w' hs => exec_load 87 (.tmp 0) rfl ⟨X, 0, none⟩ rfl (run_loadAt_one hs.1 Tryz.underlying87 rfl)⟩) hS ?_
  simp only [Act.put, List.setIfInBounds_toArray, List.set_cons_zero, List.set_cons_succ]
  refine wpAnyH_take (S := S) (i := 1) (oi := ⟨some 3, .nilCheck (.tmp 2), _, _, _, none⟩) (v := .pointer (some ⟨J, 0, none⟩)) rfl (by kernel_rfl) (by kernel_rfl) (by kernel_rfl) (fun _ _ _ h => h) (Or.inl ⟨rfl, fun _ _ => by kernel_rfl⟩) hS ?_
  simp only [Act.put, List.setIfInBounds_toArray, List.set_cons_zero, List.set_cons_succ]
  refine wpAnyH_take (S := S) (i := 2) (oi := ⟨some 4, .fieldAddr 179 (.tmp 3) 0, _, _, _, none⟩) (v := .pointer (some ⟨J, 0, none⟩)) rfl (by kernel_rfl) (by kernel_rfl) (by kernel_rfl) (fun _ _ _ h => h) (Or.inl ⟨rfl, fun _ _ => by kernel_rfl⟩) hS ?_
  simp only [Act.put, List.setIfInBounds_toArray, List.set_cons_zero, List.set_cons_succ]
  refine wpAnyH_take (S := S) (i := 3) (oi := ⟨some 5, .load 155 (.tmp 4), _, _, _, none⟩) (v := .pointer (some ⟨V, 0, none⟩)) rfl (by kernel_rfl) (by kernel_rfl) (by kernel_rfl) (fun _ _ _ h => h) (Or.inl ⟨rfl, fun w' hs => exec_load 155 (.tmp 4) rfl ⟨J, 0, none⟩ rfl (run_loadAt_one hs.2.1 Tryz.underlying155 rfl)⟩) hS ?_
  simp only [Act.put, List.setIfInBounds_toArray, List.set_cons_zero, List.set_cons_succ]
  refine wpAnyH_take (S := S) (i := 4) (oi := ⟨some 6, .load 87 (.tmp 0), _, _, _, none⟩) (v := .pointer (some ⟨J, 0, none⟩)) rfl (by kernel_rfl) (by kernel_rfl) (by kernel_rfl) (fun _ _ _ h => h) (Or.inl ⟨rfl, fun w' hs => exec_load 87 (.tmp 0) rfl ⟨X, 0, none⟩ rfl (run_loadAt_one hs.1 Tryz.underlying87 rfl)⟩) hS ?_
  simp only [Act.put, List.setIfInBounds_toArray, List.set_cons_zero, List.set_cons_succ]
  refine wpAnyH_take (S := S) (i := 5) (oi := ⟨some 7, .nilCheck (.tmp 6), _, _, _, none⟩) (v := .pointer (some ⟨J, 0, none⟩)) rfl (by kernel_rfl) (by kernel_rfl) (by kernel_rfl) (fun _ _ _ h => h) (Or.inl ⟨rfl, fun _ _ => by kernel_rfl⟩) hS ?_
  simp only [Act.put, List.setIfInBounds_toArray, List.set_cons_zero, List.set_cons_succ]
  refine wpAnyH_take (S := S) (i := 6) (oi := ⟨some 8, .fieldAddr 179 (.tmp 7) 1, _, _, _, none⟩) (v := .pointer (some ⟨J, 1, none⟩)) rfl (by kernel_rfl) (by kernel_rfl) (by kernel_rfl) (fun _ _ _ h => h) (Or.inl ⟨rfl, fun _ _ => by kernel_rfl⟩) hS ?_
  simp only [Act.put, List.setIfInBounds_toArray, List.set_cons_zero, List.set_cons_succ]
  refine wpAnyH_take (S := S) (i := 7) (oi := ⟨some 9, .load 3 (.tmp 8), _, _, _, none⟩) (v := .int .i64 e) rfl (by kernel_rfl) (by kernel_rfl) (by kernel_rfl) (fun _ _ _ h => h) (Or.inl ⟨rfl, fun w' hs => exec_load 3 (.tmp 8) rfl ⟨J, 1, none⟩ rfl (run_loadAt_one hs.2.2 Tryz.underlying3 rfl)⟩) hS ?_
  simp only [Act.put, List.setIfInBounds_toArray, List.set_cons_zero, List.set_cons_succ]
  refine wpAnyH_take (S := S) (i := 8) (oi := ⟨some 10, .build 130 #[], _, _, _, none⟩) (v := .agg zB.toArray) rfl (by kernel_rfl) (by kernel_rfl) (by kernel_rfl) (fun _ _ _ h => h) (Or.inl ⟨rfl, fun w' _ => exec_build0 rfl w'⟩) hS ?_
  simp only [Act.put, List.setIfInBounds_toArray, List.set_cons_zero, List.set_cons_succ]
  refine wpAnyH_all (rs := [9]) (by kernel_rfl) (by simp) ?_
  intro i9 hi9
  obtain rfl : i9 = 9 := by simpa using hi9
  refine wpOp_call (o := ⟨some 11, .call { callee := .value (.func 94), args := #[(.tmp 5), (.tmp 9), (.tmp 10)], argTypes := _ }, _, _, _, none⟩) (f := 94) (args := #[.pointer (some ⟨V, 0, none⟩), .int .i64 e, .agg zB.toArray]) rfl rfl (by kernel_rfl) ?_
  refine (Store_ok (hv.fr hfW id) (hd.fr hfW id) h0 (by omega) h2 (by omega) (base := W.heap.size) (k := 0) (xs := []) (World.ownsRow_nil _ _ _ _) (by decide) (Nat.le_refl _) e he zB zB_len zB_one).mono ?_
  rintro e' w1 ⟨rfl, cache1, hd1, ho1, hf1⟩
  have hno : ∀ b, ¬ ((Value.slice none 0 0).ownBlock = some b) := fun b h => by cases h
  have k1 : ∀ {b : Nat} {o : Obj}, w.heap[b]? = some o → b ≠ A → w1.heap[b]? = some o := fun hb hbA => hf1.keep (hfW.keep hb (fun h => h)) (by rintro (h | h); exact hbA h; exact hno _ h)
  have x1 := k1 hx nXA
  have j1 : JAt w1 J V e false := k1 hj nJA
  have v1 : VolAt w1 V A n := k1 hv nVA
  have r1 : RowsAt w1 B n bs := ⟨k1 hr.1 nAB.symm, hr.2⟩
  have hF1 : Fr (fun b => b = A ∨ b = B ∨ b = J) w w1 := (hfW.mono (fun _ _ h => h.elim)).trans hf1 (fun b _ h => by rcases h with h | h; exact .inl h; exact absurd h (hno b))
  refine ⟨_, rfl, ?_, ?_⟩
  · exact ⟨(cell_of_row w1 X 0 _ _ _ x1).trans rfl, j1.c0, j1.c1⟩
  simp only [Act.put, List.setIfInBounds_toArray, List.set_cons_zero, List.set_cons_succ]
  refine wpAnyH_done (by kernel_rfl) ?_ _
  have cx1 : w1.cell? ⟨X, 0, none⟩ = some (.pointer (some ⟨J, 0, none⟩)) := (cell_of_row w1 X 0 _ _ _ x1).trans rfl
  have c01 := j1.c0
  clear hS
  go_wp2_with fail
  refine (Secure_ok v1 hd1 r1 (by omega) (by omega) (k := 1) (ents := [(e, zB)]) (base := W.heap.size) (by simpa [flat] using ho1) (by decide) (by decide) (by simpa using zB_len) (by simpa using zB_one) (by simpa using he)).mono ?_
  rintro e' w2 ⟨rfl, hd2, hr2, hf2⟩
  have x2 := hf2.keep x1 (by rintro (h | h); exact nXA h; exact nXB h)
  have j2 : JAt w2 J V e false := hf2.keep j1 (by rintro (h | h); exact nJA h; exact nJB h)
  have v2 : VolAt w2 V A n := hf2.keep v1 (by rintro (h | h); exact nVA h; exact nVB h)
  have hF2 : Fr (fun b => b = A ∨ b = B ∨ b = J) w w2 := hF1.trans hf2 (fun b _ h => by rcases h with h | h; exact .inl h; exact .inr (.inl h))
  rw [lain_one] at hr2
  have ecalls : calls + 1 + 1 = calls + 2 := by omega
  rw [ecalls] at hd2
  have cx2 : w2.cell? ⟨X, 0, none⟩ = some (.pointer (some ⟨J, 0, none⟩)) := (cell_of_row w2 X 0 _ _ _ x2).trans rfl
  have c12 := j2.c1
  have c22 := j2.c2
  have z12 := j2.fz 1
  have z22 := j2.fz 2
  have jE := j2.set2 true
  have hfE : Fr (fun b => b = J) w2 (w2.setCell ⟨J, 2, none⟩ (.bool true)) := Fr.set1 _ _ _ _
  obtain ⟨wE, HWE⟩ : ∃ wE, Hid (wE = w2.setCell ⟨J, 2, none⟩ (.bool true)) := ⟨_, rfl⟩
  rw [← HWE.out] at jE hfE
  have HF : Hid (VolAt wE V A n ∧ DiskAt wE A B n (.slice none 0 0) (calls + 2) (writes + 1) ∧ RowsAt wE B n (splice bs (e * 128) zB) ∧ Fr (fun b => b = A ∨ b = B ∨ b = J) w wE) := by
    refine ⟨?_, ?_, ⟨?_, hr2.2⟩, ?_⟩
    · exact hfE.keep v2 (by omega)
    · exact hd2.fr hfE (by omega)
    · exact hfE.keep hr2.1 (by omega)
    · exact hF2.trans hfE (fun _ _ h => .inr (.inr h))
  clear hd1 ho1 hf1 k1 hr2 hf2 hd2 hF1 hF2 hfE v2 v1 r1 x1 x2 j1
  go_wp2
  rw [← HWE.out]
  go_ret
  exact ⟨rfl, jE, HF.out.1, HF.out.2.1, HF.out.2.2.1, HF.out.2.2.2⟩
set_option maxRecDepth 100000 in
set_option maxHeartbeats 1000000 in
theorem Add1_ok {w : World} {X X2 J V A B n e : Nat} {calls writes : Int} {bs blk : List Value} (hx : w.heap[X]? = some (.cells #[.pointer (some ⟨J, 0, none⟩)] 87 (0, 0))) (hx2 : w.heap[X2]? = some (.cells blk.toArray 130 (0, 0))) (nX2A : X2 ≠ A) (hl : blk.length = 128) (hb1 : ∀ v ∈ blk, v.oneCell' = true) (hj : JAt w J V e true) (hv : VolAt w V A n) (hd : DiskAt w A B n (.slice none 0 0) calls writes) (hr : RowsAt w B n bs) (h0 : 0 ≤ calls) (h1 : calls < 95000000) (h2 : 0 ≤ writes) (h3 : writes < 95000000) (he : e < n) (hn : n ≤ 400) : Calls Tryz.prog 93 #[.pointer (some ⟨X, 0, none⟩), .pointer (some ⟨X2, 0, none⟩)] w fun e' w' => e' = .returned .nilIface ∧ JAt w' J V ((e : Int) + 1) true ∧ VolAt w' V A n ∧ DiskAt w' A B n (.slice none 0 0) (calls + 2) (writes + 1) ∧ RowsAt w' B n (splice bs (e * 128) blk) ∧ Fr (fun b => b = A ∨ b = B ∨ b = J) w w' := by
  have hlift : Tryz.prog.follows .mixedOrders = true := by kernel_rfl
  have nVA : V ≠ A := hv.ne hd
  have nJA : J ≠ A := fun e => by have := hj; rw [e] at this; have := this.symm.trans hd; simp [dcells] at this
  have nJB : J ≠ B := fun e => by have := hj; rw [e] at this; have := this.symm.trans hr.1; simp at this
  have nJV : J ≠ V := fun e => by have := hj; rw [e] at this; have := this.symm.trans hv; simp at this
  have nAB : A ≠ B := fun e => by have := hd; rw [e] at this; have := this.symm.trans hr.1; simp [dcells] at this
  have nVB : V ≠ B := fun e => by have := hv; rw [e] at this; have := this.symm.trans hr.1; simp at this
  have nXA : X ≠ A := fun e => by have := hx; rw [e] at this; have := this.symm.trans hd; simp [dcells] at this
  have nXB : X ≠ B := fun e => by have := hx; rw [e] at this; have := this.symm.trans hr.1; simp at this
  go_enter Tryz.func93, Tryz.ntmps93
  go_wp2
  obtain ⟨W, HW⟩ : ∃ W, Hid (W = w.drew) := ⟨_, rfl⟩
  have hfW : Fr (fun _ => False) w W := by rw [HW.out]; exact (Fr.refl _ _).drew
  let S : World → Prop := fun w' => w'.cell? ⟨X, 0, none⟩ = some (.pointer (some ⟨J, 0, none⟩)) ∧ w'.cell? ⟨J, 0, none⟩ = some (.pointer (some ⟨V, 0, none⟩)) ∧ w'.cell? ⟨J, 1, none⟩ = some (.int .i64 e) ∧ w'.heap[X2]? = some (.cells blk.toArray 130 (0, 0))
  have hS : S W := ⟨(cell_of_row W X 0 _ _ _ (hfW.keep hx (fun h => h))).trans rfl, (hj.fr hfW id).c0, (hj.fr hfW id).c1, hfW.keep hx2 (fun h => h)⟩
  refine wp_region_held (S := S) hlift ?_
  change wpAnyH _ _ _ _ S _ _ _ (World.drew _)
  rw [← HW.out]
  clear HW
  refine wpAnyH_take (S := S) (i := 0) (oi := ⟨some 3, .load 87 (.tmp 0), _, _, _, none⟩) (v := .pointer (some ⟨J, 0, none⟩)) rfl (by kernel_rfl) (by kernel_rfl) (by kernel_rfl) (fun _ _ _ h => h) (Or.inl ⟨rfl, fun w' hs => exec_load 87 (.tmp 0) rfl ⟨X, 0, none⟩ rfl (run_loadAt_one hs.1 Tryz.underlying87 rfl)⟩) hS ?_
  simp only [Act.put, List.setIfInBounds_toArray, List.set_cons_zero, List.set_cons_succ]
  refine wpAnyH_take (S := S) (i := 1) (oi := ⟨some 4, .nilCheck (.tmp 3), _, _, _, none⟩) (v := .pointer (some ⟨J, 0, none⟩)) rfl (by kernel_rfl) (by kernel_rfl) (by kernel_rfl) (fun _ _ _ h => h) (Or.inl ⟨rfl, fun _ _ => by kernel_rfl⟩) hS ?_
  simp only [Act.put, List.setIfInBounds_toArray, List.set_cons_zero, List.set_cons_succ]
  refine wpAnyH_take (S := S) (i := 2) (oi := ⟨some 5, .fieldAddr 179 (.tmp 4) 0, _, _, _, none⟩) (v := .pointer (some ⟨J, 0, none⟩)) rfl (by kernel_rfl) (by kernel_rfl) (by kernel_rfl) (fun _ _ _ h => h) (Or.inl ⟨rfl, fun _ _ => by kernel_rfl⟩) hS ?_
  simp only [Act.put, List.setIfInBounds_toArray, List.set_cons_zero, List.set_cons_succ]
  refine wpAnyH_take (S := S) (i := 3) (oi := ⟨some 6, .load 155 (.tmp 5), _, _, _, none⟩) (v := .pointer (some ⟨V, 0, none⟩)) rfl (by kernel_rfl) (by kernel_rfl) (by kernel_rfl) (fun _ _ _ h => h) (Or.inl ⟨rfl, fun w' hs => exec_load 155 (.tmp 5) rfl ⟨J, 0, none⟩ rfl (run_loadAt_one hs.2.1 Tryz.underlying155 rfl)⟩) hS ?_
  simp only [Act.put, List.setIfInBounds_toArray, List.set_cons_zero, List.set_cons_succ]
  refine wpAnyH_take (S := S) (i := 4) (oi := ⟨some 7, .load 87 (.tmp 0), _, _, _, none⟩) (v := .pointer (some ⟨J, 0, none⟩)) rfl (by kernel_rfl) (by kernel_rfl) (by kernel_rfl) (fun _ _ _ h => h) (Or.inl ⟨rfl, fun w' hs => exec_load 87 (.tmp 0) rfl ⟨X, 0, none⟩ rfl (run_loadAt_one hs.1 Tryz.underlying87 rfl)⟩) hS ?_
  simp only [Act.put, List.setIfInBounds_toArray, List.set_cons_zero, List.set_cons_succ]
  refine wpAnyH_take (S := S) (i := 5) (oi := ⟨some 8, .nilCheck (.tmp 7), _, _, _, none⟩) (v := .pointer (some ⟨J, 0, none⟩)) rfl (by kernel_rfl) (by kernel_rfl) (by kernel_rfl) (fun _ _ _ h => h) (Or.inl ⟨rfl, fun _ _ => by kernel_rfl⟩) hS ?_
  simp only [Act.put, List.setIfInBounds_toArray, List.set_cons_zero, List.set_cons_succ]
  refine wpAnyH_take (S := S) (i := 6) (oi := ⟨some 9, .fieldAddr 179 (.tmp 8) 1, _, _, _, none⟩) (v := .pointer (some ⟨J, 1, none⟩)) rfl (by kernel_rfl) (by kernel_rfl) (by kernel_rfl) (fun _ _ _ h => h) (Or.inl ⟨rfl, fun _ _ => by kernel_rfl⟩) hS ?_
  simp only [Act.put, List.setIfInBounds_toArray, List.set_cons_zero, List.set_cons_succ]
  refine wpAnyH_take (S := S) (i := 7) (oi := ⟨some 10, .load 3 (.tmp 9), _, _, _, none⟩) (v := .int .i64 e) rfl (by kernel_rfl) (by kernel_rfl) (by kernel_rfl) (fun _ _ _ h => h) (Or.inl ⟨rfl, fun w' hs => exec_load 3 (.tmp 9) rfl ⟨J, 1, none⟩ rfl (run_loadAt_one hs.2.2.1 Tryz.underlying3 rfl)⟩) hS ?_
  simp only [Act.put, List.setIfInBounds_toArray, List.set_cons_zero, List.set_cons_succ]
  refine wpAnyH_take (S := S) (i := 8) (oi := ⟨some 11, .load 130 (.tmp 1), _, _, _, none⟩) (v := .agg blk.toArray) rfl (by kernel_rfl) (by kernel_rfl) (by kernel_rfl) (fun _ _ _ h => h) (Or.inl ⟨rfl, fun w' hs => exec_load 130 (.tmp 1) rfl ⟨X2, 0, none⟩ rfl (run_loadAt_mid w' X2 0 130 blk _ (fun j v hv => (cell_of_row w' _ (0 + j) _ _ _ hs.2.2.2).trans (by simpa using hv)) Tryz.underlying130 rfl (by rw [block_size, hl]))⟩) hS ?_
  simp only [Act.put, List.setIfInBounds_toArray, List.set_cons_zero, List.set_cons_succ]
  refine wpAnyH_all (rs := [9]) (by kernel_rfl) (by simp) ?_
  intro i9 hi9
  obtain rfl : i9 = 9 := by simpa using hi9
  refine wpOp_call (o := ⟨some 12, .call { callee := .value (.func 94), args := #[(.tmp 6), (.tmp 10), (.tmp 11)], argTypes := _ }, _, _, _, none⟩) (f := 94) (args := #[.pointer (some ⟨V, 0, none⟩), .int .i64 e, .agg blk.toArray]) rfl rfl (by kernel_rfl) ?_
  refine (Store_ok (hv.fr hfW id) (hd.fr hfW id) h0 (by omega) h2 (by omega) (base := W.heap.size) (k := 0) (xs := []) (World.ownsRow_nil _ _ _ _) (by decide) (Nat.le_refl _) e he blk hl hb1).mono ?_
  rintro e' w1 ⟨rfl, cache1, hd1, ho1, hf1⟩
  have hno : ∀ b, ¬ ((Value.slice none 0 0).ownBlock = some b) := fun b h => by cases h
  have k1 : ∀ {b : Nat} {o : Obj}, w.heap[b]? = some o → b ≠ A → w1.heap[b]? = some o := fun hb hbA => hf1.keep (hfW.keep hb (fun h => h)) (by rintro (h | h); exact hbA h; exact hno _ h)
  have x1 := k1 hx nXA
  have j1 : JAt w1 J V e true := k1 hj nJA
  have v1 : VolAt w1 V A n := k1 hv nVA
  have r1 : RowsAt w1 B n bs := ⟨k1 hr.1 nAB.symm, hr.2⟩
  have hF1 : Fr (fun b => b = A ∨ b = B ∨ b = J) w w1 := (hfW.mono (fun _ _ h => h.elim)).trans hf1 (fun b _ h => by rcases h with h | h; exact .inl h; exact absurd h (hno b))
  refine ⟨_, rfl, ?_, ?_⟩
  · exact ⟨(cell_of_row w1 X 0 _ _ _ x1).trans rfl, j1.c0, j1.c1, k1 hx2 nX2A⟩
  simp only [Act.put, List.setIfInBounds_toArray, List.set_cons_zero, List.set_cons_succ]
  refine wpAnyH_done (by kernel_rfl) ?_ _
  have cx1 : w1.cell? ⟨X, 0, none⟩ = some (.pointer (some ⟨J, 0, none⟩)) := (cell_of_row w1 X 0 _ _ _ x1).trans rfl
  have c01 := j1.c0
  clear hS
  go_wp2_with fail
  refine (Secure_ok v1 hd1 r1 (by omega) (by omega) (k := 1) (ents := [(e, blk)]) (base := W.heap.size) (by simpa [flat] using ho1) (by decide) (by decide) (by simpa using hl) (by simpa using hb1) (by simpa using he)).mono ?_
  rintro e' w2 ⟨rfl, hd2, hr2, hf2⟩
  have x2 := hf2.keep x1 (by rintro (h | h); exact nXA h; exact nXB h)
  have j2 : JAt w2 J V e true := hf2.keep j1 (by rintro (h | h); exact nJA h; exact nJB h)
  have v2 : VolAt w2 V A n := hf2.keep v1 (by rintro (h | h); exact nVA h; exact nVB h)
  have hF2 : Fr (fun b => b = A ∨ b = B ∨ b = J) w w2 := hF1.trans hf2 (fun b _ h => by rcases h with h | h; exact .inl h; exact .inr (.inl h))
  rw [lain_one] at hr2
  have ecalls : calls + 1 + 1 = calls + 2 := by omega
  rw [ecalls] at hd2
  have cx2 : w2.cell? ⟨X, 0, none⟩ = some (.pointer (some ⟨J, 0, none⟩)) := (cell_of_row w2 X 0 _ _ _ x2).trans rfl
  have c12 := j2.c1
  have c22 := j2.c2
  have z12 := j2.fz 1
  have z22 := j2.fz 2
  have jE := j2.set1 ((e : Int) + 1)
  have hfE : Fr (fun b => b = J) w2 (w2.setCell ⟨J, 1, none⟩ (.int .i64 ((e : Int) + 1))) := Fr.set1 _ _ _ _
  obtain ⟨wE, HWE⟩ : ∃ wE, Hid (wE = w2.setCell ⟨J, 1, none⟩ (.int .i64 ((e : Int) + 1))) := ⟨_, rfl⟩
  rw [← HWE.out] at jE hfE
  have hwr : IntKind.i64.wrap ((e : Int) + 1) = (e : Int) + 1 := by rw [IntKind.wrap_i64]; omega
  have HF : Hid (VolAt wE V A n ∧ DiskAt wE A B n (.slice none 0 0) (calls + 2) (writes + 1) ∧ RowsAt wE B n (splice bs (e * 128) blk) ∧ Fr (fun b => b = A ∨ b = B ∨ b = J) w wE) := by
    refine ⟨?_, ?_, ⟨?_, hr2.2⟩, ?_⟩
    · exact hfE.keep v2 (by omega)
    · exact hd2.fr hfE (by omega)
    · exact hfE.keep hr2.1 (by omega)
    · exact hF2.trans hfE (fun _ _ h => .inr (.inr h))
  clear hd1 ho1 hf1 k1 hr2 hf2 hd2 hF1 hF2 hfE v2 v1 r1 x1 x2 j1
  go_wp2
  rw [← HWE.out]
  go_ret
  exact ⟨rfl, jE, HF.out.1, HF.out.2.1, HF.out.2.2.1, HF.out.2.2.2⟩
end Go.Proofs.YteebjgfalllbjaaGreatDoor
namespace Go.Proofs.YteebjgfalllbjaaGreatDoor
open Go.RowKit
/-- A journal that is open, and its device. -/
structure JnS (w : World) (J V A B n : Nat) (calls writes : Int) (e : Int) (s : Bool) (bs : List Value) : Prop where
  v : VolAt w V A n
  d : DiskAt w A B n (.slice none 0 0) calls writes
  r : RowsAt w B n bs
  j : JAt w J V e s
theorem JnS.frz {w w' : World} {J V A B n : Nat} {calls writes e : Int} {s : Bool} {bs : List Value} (h : JnS w J V A B n calls writes e s bs) (hf : Fr (fun _ => False) w w') : JnS w' J V A B n calls writes e s bs := ⟨h.v.fr hf id, h.d.fr hf id, ⟨hf.keep h.r.1 id, h.r.2⟩, h.j.fr hf id⟩
theorem splice_same (bs d : List Value) (e : Nat) (hd : d.length = 128) (h : (bs.drop (e * 128)).take 128 = d) : splice bs (e * 128) d = bs := by
  unfold splice
  rw [hd]
  have h1 : bs.drop (e * 128) = d ++ bs.drop (e * 128 + 128) := by
    rw [← h, ← List.drop_drop, List.take_append_drop]
  conv => rhs; rw [← List.take_append_drop (e * 128) bs, h1]
section
variable {w : World} {J V A B n e : Nat} {calls writes : Int} {s : Bool} {bs : List Value}
def sx (s : Bool) : Int := if s then 0 else 2
theorem sx_le (s : Bool) : 0 ≤ sx s ∧ sx s ≤ 2 := by cases s <;> simp [sx]
set_option maxRecDepth 100000 in
set_option maxHeartbeats 1000000 in
theorem Settle_sx (h : JnS w J V A B n calls writes e s bs) (h0 : 0 ≤ calls) (h1 : calls < 95000000) (h2 : 0 ≤ writes) (h3 : writes < 95000000) (he : e < n) (hz : (bs.drop (e * 128)).take 128 = zB) : Calls Tryz.prog 91 #[.pointer (some ⟨J, 0, none⟩)] w fun e' w' => e' = .returned .nilIface ∧ (∃ calls' writes', calls ≤ calls' ∧ calls' ≤ calls + sx s ∧ writes ≤ writes' ∧ writes' ≤ writes + 1 ∧ JnS w' J V A B n calls' writes' e true bs) ∧ Fr (fun b => b = A ∨ b = B ∨ b = J) w w' := by
  have hmf : ∀ (fn : Fn) (first cap : Array Value) (w : World), (Instr.makeFunc fn first cap).run Tryz.prog w = .ok (.func fn first cap) w := fun _ _ _ _ => rfl
  have hfa : Fr (fun _ => False) w (w.alloc (.cells #[.pointer (some ⟨J, 0, none⟩)] 87)) := (Fr.refl _ _).alloc _
  have hx := heap_alloc_at w (.cells #[.pointer (some ⟨J, 0, none⟩)] 87)
  have hA := h.frz hfa
  have c2 := hA.j.c2
  have hJl := lt_of_heap h.j
  have hAl := lt_of_heap h.d
  have hBl := lt_of_heap h.r.1
  have hVl := lt_of_heap h.v
  cases s
  · have hT := Try_any (w := w.alloc (.cells #[.pointer (some ⟨J, 0, none⟩)] 87)) (f := 138) (caps := #[.pointer (some ⟨w.heap.size, 0, none⟩)])
      (Q := fun v w' => v = .nilIface ∧ (∃ calls' writes', calls ≤ calls' ∧ calls' ≤ calls + sx false ∧ writes ≤ writes' ∧ writes' ≤ writes + 1 ∧ JnS w' J V A B n calls' writes' e true bs) ∧ Fr (fun b => b = A ∨ b = B ∨ b = J) w w') (fun _ => by kernel_rfl) (by
        have hfb : Fr (fun _ => False) (w.alloc (.cells #[.pointer (some ⟨J, 0, none⟩)] 87)) ((w.alloc (.cells #[.pointer (some ⟨J, 0, none⟩)] 87)).alloc (.cells #[.nilIface] 36)) := (Fr.refl _ _).alloc _
        have hB := hA.frz hfb
        refine (Settle1_ok (hfb.keep hx (fun h => h)) hB.j hB.v hB.d hB.r h0 h1 h2 h3 he).mono ?_
        rintro e' w1 ⟨rfl, j1, v1, d1, r1, f1⟩
        rw [splice_same bs zB e zB_len hz] at r1
        have hE : w1.heap[(w.alloc (.cells #[.pointer (some ⟨J, 0, none⟩)] 87)).heap.size]? = some (.cells #[.nilIface] 36 (0, 0)) := f1.keep (heap_alloc_at _ _) (by simp; omega)
        have hset : Fr (fun b => b = w.heap.size + 1) w1 (w1.setCell ⟨(w.alloc (.cells #[.pointer (some ⟨J, 0, none⟩)] 87)).heap.size, 0, none⟩ .nilIface) := by
          have := Fr.set1 w1 (w.alloc (.cells #[.pointer (some ⟨J, 0, none⟩)] 87)).heap.size 0 .nilIface
          simpa using this
        refine ⟨_, rfl, rfl, hE, rfl, ⟨calls + 2, writes + 1, by omega, by simp [sx], by omega, by omega, v1.fr hset (by omega), d1.fr hset (by omega), ⟨hset.keep r1.1 (by omega), r1.2⟩, j1.fr hset (by omega)⟩, ?_⟩
        exact (((hfa.trans hfb (fun _ _ h => h)).mono (fun _ _ h => h.elim)).trans f1 (fun _ _ h => h)).trans hset (fun b hb h => by omega))
    clear hfa hx hA
    go_enter Tryz.func91, Tryz.ntmps91
    go_wp2_with fail
    refine hT.mono ?_
    rintro e' w1 ⟨v, rfl, rfl, hq, hf1⟩
    have HQ : Hid ((∃ calls' writes', calls ≤ calls' ∧ calls' ≤ calls + sx false ∧ writes ≤ writes' ∧ writes' ≤ writes + 1 ∧ JnS w1 J V A B n calls' writes' e true bs) ∧ Fr (fun b => b = A ∨ b = B ∨ b = J) w w1) := ⟨hq, hf1⟩
    clear hT hq hf1
    go_wp2
    go_ret
    exact ⟨rfl, HQ.out.1, HQ.out.2⟩
  · have HQ : Hid ((∃ calls' writes', calls ≤ calls' ∧ calls' ≤ calls + sx true ∧ writes ≤ writes' ∧ writes' ≤ writes + 1 ∧ JnS (w.alloc (.cells #[.pointer (some ⟨J, 0, none⟩)] 87)) J V A B n calls' writes' e true bs) ∧ Fr (fun b => b = A ∨ b = B ∨ b = J) w (w.alloc (.cells #[.pointer (some ⟨J, 0, none⟩)] 87))) := ⟨⟨calls, writes, by omega, by simp [sx], by omega, by omega, hA⟩, hfa.mono (fun _ _ h => h.elim)⟩
    clear hfa hx hA
    go_enter Tryz.func91, Tryz.ntmps91
    go_wp2
    go_ret
    exact ⟨rfl, HQ.out.1, HQ.out.2⟩
set_option maxRecDepth 100000 in
set_option maxHeartbeats 1000000 in
theorem Add_sx {blk : List Value} (h : JnS w J V A B n calls writes e s bs) (h0 : 0 ≤ calls) (h1 : calls < 90000000) (h2 : 0 ≤ writes) (h3 : writes < 90000000) (he : e < n) (hn : n ≤ 400) (hz : (bs.drop (e * 128)).take 128 = zB) (hl : blk.length = 128) (hb1 : ∀ v ∈ blk, v.oneCell' = true) : Calls Tryz.prog 61 #[.pointer (some ⟨J, 0, none⟩), .agg blk.toArray] w fun e' w' => e' = .returned .nilIface ∧ (∃ calls' writes', calls ≤ calls' ∧ calls' ≤ calls + sx s + 2 ∧ writes ≤ writes' ∧ writes' ≤ writes + 2 ∧ JnS w' J V A B n calls' writes' ((e : Int) + 1) true (splice bs (e * 128) blk)) ∧ Fr (fun b => b = A ∨ b = B ∨ b = J) w w' := by
  have hmf : ∀ (fn : Fn) (first cap : Array Value) (w : World), (Instr.makeFunc fn first cap).run Tryz.prog w = .ok (.func fn first cap) w := fun _ _ _ _ => rfl
  obtain ⟨W, HW⟩ : ∃ W, Hid (W = (w.alloc (.cells #[.pointer (some ⟨J, 0, none⟩)] 87)).alloc (.cells blk.toArray 130)) := ⟨_, rfl⟩
  have hfa : Fr (fun _ => False) w W := by rw [HW.out]; exact ((Fr.refl _ _).alloc _).alloc _
  have hx : W.heap[w.heap.size]? = some (.cells #[.pointer (some ⟨J, 0, none⟩)] 87 (0, 0)) := by rw [HW.out, heap_alloc_lt _ _ _ (by simp)]; exact heap_alloc_at _ _
  have hx2 : W.heap[w.heap.size + 1]? = some (.cells blk.toArray 130 (0, 0)) := by rw [HW.out]; exact heap_alloc2_new w _ _
  have hA := h.frz hfa
  have cx : ((w.alloc (.cells #[.pointer (some ⟨J, 0, none⟩)] 87)).alloc (.cells blk.toArray 130)).cell? ⟨w.heap.size, 0, none⟩ = some (.pointer (some ⟨J, 0, none⟩)) := by rw [← HW.out]; exact (cell_of_row W _ 0 _ _ _ hx).trans rfl
  have hJl := lt_of_heap h.j
  have hAl := lt_of_heap h.d
  have hBl := lt_of_heap h.r.1
  have hVl := lt_of_heap h.v
  have hsx := sx_le s
  have hs := Settle_sx hA h0 (by omega) h2 (by omega) he hz
  go_enter Tryz.func61, Tryz.ntmps61
  go_wp2_with fail
  rw [← HW.out]
  refine hs.mono ?_
  rintro e' w1 ⟨rfl, ⟨cl, wl, g1, g2, g3, g4, g5⟩, hf1⟩
  have x1 := hf1.keep hx (by omega)
  have x2 := hf1.keep hx2 (by omega)
  have hF1 : Fr (fun b => b = A ∨ b = B ∨ b = J) w w1 := (hfa.mono (fun _ _ h => h.elim)).trans hf1 (fun _ _ h => h)
  have hsz1 : w.heap.size + 1 < w1.heap.size := lt_of_heap x2
  clear HW hfa hx hx2 hA cx hs hf1 h
  have hT := Try_any (w := w1) (f := 93) (caps := #[.pointer (some ⟨w.heap.size, 0, none⟩), .pointer (some ⟨w.heap.size + 1, 0, none⟩)])
    (Q := fun v w' => v = .nilIface ∧ (∃ calls' writes', calls ≤ calls' ∧ calls' ≤ calls + sx s + 2 ∧ writes ≤ writes' ∧ writes' ≤ writes + 2 ∧ JnS w' J V A B n calls' writes' ((e : Int) + 1) true (splice bs (e * 128) blk)) ∧ Fr (fun b => b = A ∨ b = B ∨ b = J) w w') (fun _ => by kernel_rfl) (by
      have hfb : Fr (fun _ => False) w1 (w1.alloc (.cells #[.nilIface] 36)) := (Fr.refl _ _).alloc _
      have hB := g5.frz hfb
      refine (Add1_ok (hfb.keep x1 (fun h => h)) (hfb.keep x2 (fun h => h)) (by omega) hl hb1 hB.j hB.v hB.d hB.r (by omega) (by omega) (by omega) (by omega) he hn).mono ?_
      rintro e' w2 ⟨rfl, j1, v1, d1, r1, f1⟩
      have hE : w2.heap[w1.heap.size]? = some (.cells #[.nilIface] 36 (0, 0)) := f1.keep (heap_alloc_at _ _) (by omega)
      have hset : Fr (fun b => b = w1.heap.size) w2 (w2.setCell ⟨w1.heap.size, 0, none⟩ .nilIface) := Fr.set1 _ _ _ _
      refine ⟨_, rfl, rfl, hE, rfl, ⟨cl + 2, wl + 1, by omega, by omega, by omega, by omega, v1.fr hset (by omega), d1.fr hset (by omega), ⟨hset.keep r1.1 (by omega), r1.2⟩, j1.fr hset (by omega)⟩, ?_⟩
      exact ((hF1.trans (hfb.mono (fun _ _ h => h.elim)) (fun _ _ h => h)).trans f1 (fun _ _ h => h)).trans hset (fun b hb h => by omega))
  go_wp2_with fail
  refine hT.mono ?_
  rintro e' w3 ⟨v, rfl, rfl, hq, hf3⟩
  have HQ : Hid ((∃ calls' writes', calls ≤ calls' ∧ calls' ≤ calls + sx s + 2 ∧ writes ≤ writes' ∧ writes' ≤ writes + 2 ∧ JnS w3 J V A B n calls' writes' ((e : Int) + 1) true (splice bs (e * 128) blk)) ∧ Fr (fun b => b = A ∨ b = B ∨ b = J) w w3) := ⟨hq, hf3⟩
  clear hT hq hf3
  go_wp2
  go_ret
  exact ⟨rfl, HQ.out.1, HQ.out.2⟩
theorem Settle_ok (h : JnS w J V A B n calls writes e s bs) (h0 : 0 ≤ calls) (h1 : calls < 95000000) (h2 : 0 ≤ writes) (h3 : writes < 95000000) (he : e < n) (hz : (bs.drop (e * 128)).take 128 = zB) : Calls Tryz.prog 91 #[.pointer (some ⟨J, 0, none⟩)] w fun e' w' => e' = .returned .nilIface ∧ (∃ calls' writes', calls ≤ calls' ∧ calls' ≤ calls + 2 ∧ writes ≤ writes' ∧ writes' ≤ writes + 1 ∧ JnS w' J V A B n calls' writes' e true bs) ∧ Fr (fun b => b = A ∨ b = B ∨ b = J) w w' := by
  have hsx := sx_le s
  refine (Settle_sx h h0 h1 h2 h3 he hz).mono ?_
  rintro e' w' ⟨rfl, ⟨c, v, a1, a2, a3, a4, a5⟩, hf⟩
  exact ⟨rfl, ⟨c, v, a1, by omega, a3, a4, a5⟩, hf⟩
theorem Add_ok {blk : List Value} (h : JnS w J V A B n calls writes e s bs) (h0 : 0 ≤ calls) (h1 : calls < 90000000) (h2 : 0 ≤ writes) (h3 : writes < 90000000) (he : e < n) (hn : n ≤ 400) (hz : (bs.drop (e * 128)).take 128 = zB) (hl : blk.length = 128) (hb1 : ∀ v ∈ blk, v.oneCell' = true) : Calls Tryz.prog 61 #[.pointer (some ⟨J, 0, none⟩), .agg blk.toArray] w fun e' w' => e' = .returned .nilIface ∧ (∃ calls' writes', calls ≤ calls' ∧ calls' ≤ calls + 4 ∧ writes ≤ writes' ∧ writes' ≤ writes + 2 ∧ JnS w' J V A B n calls' writes' ((e : Int) + 1) true (splice bs (e * 128) blk)) ∧ Fr (fun b => b = A ∨ b = B ∨ b = J) w w' := by
  have hsx := sx_le s
  refine (Add_sx h h0 h1 h2 h3 he hn hz hl hb1).mono ?_
  rintro e' w' ⟨rfl, ⟨c, v, a1, a2, a3, a4, a5⟩, hf⟩
  exact ⟨rfl, ⟨c, v, a1, by omega, a3, a4, a5⟩, hf⟩
end
end Go.Proofs.YteebjgfalllbjaaGreatDoor
