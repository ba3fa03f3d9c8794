import Derived.Test.YthnmpgnaahkgkaaGreatDoorOk2
namespace Go.Proofs.YthnmpgnaahkgkaaGreatDoor
open Go.RowKit
theorem pdisk_info : (Tryz.prog.info? 37).map (fun i => (i.zero, i.size, i.bytes)) = some (some (.pointer none), 1, 8) := by kernel_rfl
theorem bool_info : (Tryz.prog.info? 4).map (fun i => (i.zero, i.size, i.bytes)) = some (some (.bool false), 1, 1) := by kernel_rfl
theorem build_disk (A Pp n : Nat) (w : World) : (Instr.build 46 #[(0, .pointer (some ⟨A, 0, none⟩)), (1, .pointer (some ⟨Pp, 0, none⟩)), (2, .int .i64 n), (3, .bool true)]).run Tryz.prog w = .ok (.agg (lc A Pp n true (.pointer none) 0)) w := by kernel_rfl
theorem box_disk (A Pp n : Nat) (w : World) : (Instr.box 46 (.agg (lc A Pp n true (.pointer none) 0))).run Tryz.prog w = .ok (.pointer (some ⟨w.heap.size, 0, none⟩)) (w.alloc (.cells (lc A Pp n true (.pointer none) 0) 46)) := rfl
section
variable {P : Program} {ρ : Operand → Value} {o : Oper} {w w' : World} {v : Value}
theorem exec_build (t : TypeId) (ps : Array (Nat × Operand)) (ho : o.op = .build t ps) (vs : Array (Nat × Value)) (hvs : (ps.map fun (i, x) => (i, ρ x)) = vs) (hr : (Instr.build t vs).run P w = .ok v w') : (execOp ρ o).run P w = .ok (.value v) w' := by
  simp only [execOp, ho, hvs, Sem.run_bind, hr, Result.andThen_ok, Sem.run_pure]
theorem exec_box (t : TypeId) (x : Operand) (ho : o.op = .box t x) {u : Value} (hx : ρ x = u) (hr : (Instr.box t u).run P w = .ok v w') : (execOp ρ o).run P w = .ok (.value v) w' := by
  simp only [execOp, ho, hx, Sem.run_bind, hr, Result.andThen_ok, Sem.run_pure]
end

/-- Two lists of the script's world grow by a disk: what is known then. -/
theorem Inv.disk {w w5 : World} {b0 W0 s : Nat} {kv rv sv dv fv : Value} {k r st : Nat} {kxs rxs sxs fxs : List Value} {qs : List DR} {q : DR}
    (hI : WI w5 b0 W0 kv rv sv dv fv k r st qs.length kxs rxs sxs (qs.map DR.D) fxs) (hk : k ≤ s) (hr : r ≤ s) (hst : st ≤ s) (hm : qs.length ≤ s) (hDs : ∀ q ∈ qs, DI w5 b0 s q) (hPw : qs.Pairwise Apart) (hq : DI w5 b0 s q) (hap : ∀ p ∈ qs, Apart p q) (hB : Below b0 w w5) (hb : b0 ≤ w5.heap.size)
    {wn wm : World} {gn cap gm cam : Nat}
    (hon : wn.ownsRow b0 37 1 (.slice (some ⟨gn, 0, none⟩) (qs.length + 1) cap) (qs.length + 1) ((qs.map DR.D).map (fun D => Value.pointer (some ⟨D, 0, none⟩)) ++ [.pointer (some ⟨q.D, 0, none⟩)])) (hg1 : (w5.alloc (.cells #[.pointer (some ⟨q.D, 0, none⟩)] 37)).grownBy wn dv.ownBlock)
    (hom : wm.ownsRow b0 4 1 (.slice (some ⟨gm, 0, none⟩) (qs.length + 1) cam) (qs.length + 1) (fxs ++ [.bool false])) (hg2 : ((wn.setCell ⟨W0, 3, none⟩ (.slice (some ⟨gn, 0, none⟩) (qs.length + 1) cap)).alloc (.cells #[.bool false] 4)).grownBy wm fv.ownBlock) :
    wm.cell? ⟨W0, 4, none⟩ = some fv ∧ wm.frozen? ⟨W0, 4, none⟩ = false ∧ Hid (OwnPost w b0 W0 s (.returned (.bool true)) (wm.setCell ⟨W0, 4, none⟩ (.slice (some ⟨gm, 0, none⟩) (qs.length + 1) cam))) := by
  have own_ty : ∀ {w : World} {e size n : Nat} {v : Value} {xs : List Value}, w.ownsRow b0 e size v n xs → ∀ b c t, w.heap[b]? = some (.cells c t (0, 0)) → v.ownBlock = some b → t = e := by
    intro w e size n v xs h b c t hb hv
    rcases h.2 with ⟨rfl, _⟩ | ⟨g, cap', cur, rfl, _, hg, _⟩
    · simp [Value.ownBlock] at hv
    · simp only [Value.ownBlock, Option.some.injEq] at hv
      subst hv
      rw [hb] at hg
      simp at hg
      exact hg.2
  have hF1 : Fr (fun b => dv.ownBlock = some b) w5 wn := (((Fr.refl _ _).alloc _)).grown hg1 (fun b _ h => h)
  have hd_ty := own_ty hI.hd
  have hf_ty := own_ty hI.hf
  have ne1 : ∀ {e : Nat}, e ≠ 37 → ∀ b c, w5.heap[b]? = some (.cells c e (0, 0)) → ¬ dv.ownBlock = some b := fun he b c hb hv => he (hd_ty b c _ hb hv)
  have hWn : wn.heap[W0]? = some (.cells #[kv, rv, sv, dv, fv] 34 (0, 0)) := hF1.keep hI.hw (ne1 (by decide) _ _ hI.hw)
  have hIs : WI (wn.setCell ⟨W0, 3, none⟩ (.slice (some ⟨gn, 0, none⟩) (qs.length + 1) cap)) b0 W0 kv rv sv (.slice (some ⟨gn, 0, none⟩) (qs.length + 1) cap) fv k r st qs.length kxs rxs sxs (qs.map DR.D) fxs → True := fun _ => trivial
  have hF2 : Fr (fun b => b = W0 ∨ dv.ownBlock = some b) w5 (wn.setCell ⟨W0, 3, none⟩ (.slice (some ⟨gn, 0, none⟩) (qs.length + 1) cap)) := Fr.setCell (S := fun b => b = W0 ∨ dv.ownBlock = some b) (hF1.mono (fun _ _ h => Or.inr h)) ⟨W0, 3, none⟩ (fun _ => Or.inl rfl) _
  have hF3 : Fr (fun b => b = W0 ∨ dv.ownBlock = some b ∨ fv.ownBlock = some b) w5 wm := Fr.grown (S := fun b => b = W0 ∨ dv.ownBlock = some b ∨ fv.ownBlock = some b) ((hF2.mono (fun b _ h => by rcases h with h | h; exact .inl h; exact .inr (.inl h))).alloc _) hg2 (fun b _ h => Or.inr (Or.inr h))
  have ne3 : ∀ {e : Nat}, e ≠ 37 → e ≠ 4 → e ≠ 34 → ∀ b c, w5.heap[b]? = some (.cells c e (0, 0)) → ¬ (b = W0 ∨ dv.ownBlock = some b ∨ fv.ownBlock = some b) := by
    rintro e he1 he2 he3 b c hb (rfl | hv | hv)
    · rw [hI.hw] at hb; simp at hb; exact he3 hb.2.symm
    · exact he1 (hd_ty b c _ hb hv)
    · exact he2 (hf_ty b c _ hb hv)
  have hWs : (wn.setCell ⟨W0, 3, none⟩ (.slice (some ⟨gn, 0, none⟩) (qs.length + 1) cap)).heap[W0]? = some (.cells #[kv, rv, sv, .slice (some ⟨gn, 0, none⟩) (qs.length + 1) cap, fv] 34 (0, 0)) := heap_setCell_at wn W0 3 _ _ _ hWn
  have hos : (wn.setCell ⟨W0, 3, none⟩ (.slice (some ⟨gn, 0, none⟩) (qs.length + 1) cap)).ownsRow b0 37 1 (.slice (some ⟨gn, 0, none⟩) (qs.length + 1) cap) (qs.length + 1) ((qs.map DR.D).map (fun D => Value.pointer (some ⟨D, 0, none⟩)) ++ [.pointer (some ⟨q.D, 0, none⟩)]) := own_set hWn (by decide) hon
  have hfs : (wn.setCell ⟨W0, 3, none⟩ (.slice (some ⟨gn, 0, none⟩) (qs.length + 1) cap)).ownsRow b0 4 1 fv qs.length fxs := own_fr hI.hf hF2 (by
    rintro b c hb hv (rfl | hd)
    · rw [hI.hw] at hb; simp at hb
    · have := hd_ty b c _ hb hd; simp at this)
  have hf_ty2 := own_ty hfs
  have hF4 : Fr (fun b => fv.ownBlock = some b) (wn.setCell ⟨W0, 3, none⟩ (.slice (some ⟨gn, 0, none⟩) (qs.length + 1) cap)) wm := Fr.grown (S := fun b => fv.ownBlock = some b) ((Fr.refl _ _).alloc _) hg2 (fun b _ h => h)
  have hWm : wm.heap[W0]? = some (.cells #[kv, rv, sv, .slice (some ⟨gn, 0, none⟩) (qs.length + 1) cap, fv] 34 (0, 0)) := hF4.keep hWs (fun hv => by have := hf_ty2 _ _ _ hWs hv; simp at this)
  have hdm : wm.ownsRow b0 37 1 (.slice (some ⟨gn, 0, none⟩) (qs.length + 1) cap) (qs.length + 1) ((qs.map DR.D).map (fun D => Value.pointer (some ⟨D, 0, none⟩)) ++ [.pointer (some ⟨q.D, 0, none⟩)]) := own_fr hos hF4 (fun b c hb _ hv => by have := hf_ty2 _ _ _ hb hv; simp at this)
  refine ⟨by rw [cell_of_row wm W0 4 _ _ _ hWm]; rfl, frozen_of_row wm W0 4 _ _ hWm, qs ++ [q], rfl, ⟨kv, rv, sv, .slice (some ⟨gn, 0, none⟩) (qs.length + 1) cap, .slice (some ⟨gm, 0, none⟩) (qs.length + 1) cam, k, r, st, kxs, rxs, sxs, fxs ++ [.bool false], ?_, by omega, by omega, by omega, by simp; omega, ?_, ?_⟩, ?_⟩
  · have el : (qs ++ [q]).length = qs.length + 1 := by simp
    have em : (qs ++ [q]).map DR.D = qs.map DR.D ++ [q.D] := by simp
    rw [el, em]
    refine ⟨heap_setCell_at wm W0 4 _ _ _ hWm, own_set hWm (by decide) (own_fr hI.hk hF3 (fun b c hb _ => ne3 (by decide) (by decide) (by decide) b c hb)), own_set hWm (by decide) (own_fr hI.hr hF3 (fun b c hb _ => ne3 (by decide) (by decide) (by decide) b c hb)), own_set hWm (by decide) (own_fr hI.hs hF3 (fun b c hb _ => ne3 (by decide) (by decide) (by decide) b c hb)), ?_, own_set hWm (by decide) hom, hI.ne, hI.ro, hI.so, hI.w0⟩
    rw [List.map_append]
    exact own_set hWm (by decide) hdm
  · intro p hp
    have hp5 : DI w5 b0 s p := by
      rcases List.mem_append.1 hp with hp | hp
      · exact hDs p hp
      · rw [List.mem_singleton.1 hp]; exact hq
    refine ((hp5.fr hF3 ?_).setW hWm _ _).mono (by omega)
    intro b c t hb ht
    rcases ht with ⟨rfl, _⟩ | ⟨rfl, _⟩ | ⟨rfl, _⟩ | rfl <;> exact ne3 (by decide) (by decide) (by decide) b c hb
  · rw [List.pairwise_append]
    exact ⟨hPw, List.pairwise_singleton _ _, fun p hp q' hq' => by rw [List.mem_singleton.1 hq']; exact hap p hp⟩
  · refine (hB.trans (hF3.below hb ?_)).setCell (p := ⟨W0, 4, none⟩) hI.w0 _
    rintro b (rfl | hv | hv)
    · exact hI.w0
    · exact (hI.hd.lt b hv).1
    · exact (hI.hf.lt b hv).1

set_option maxRecDepth 100000 in
set_option maxHeartbeats 4000000 in
theorem owner_disk {w : World} {b0 W0 s : Nat} {qs : List DR} (h : Inv w b0 W0 s qs) (hs : s < 100000) (X a b : Int) (S T : ByteArray) :
    Calls Tryz.prog 11 #[.pointer (some ⟨W0, 0, none⟩), .agg (opv 6 X a b S T)] w fun e w' => OwnPost w b0 W0 s e w' := by
  have hsz := h.size
  obtain ⟨W1, HW1⟩ : ∃ W, Hid (W = w.alloc (.cells (opv 6 X a b S T) 27)) := ⟨_, rfl⟩
  obtain ⟨O, HO⟩ : ∃ O, Hid (O = w.heap.size) := ⟨_, rfl⟩
  have hbox : (Instr.box 27 (.agg (opv 6 X a b S T))).run Tryz.prog w = .ok (.pointer (some ⟨O, 0, none⟩)) W1 := by rw [HW1.out, HO.out]; rfl
  have hO0 : W1.cell? ⟨O, 0, none⟩ = some (.int .i64 6) := by rw [HW1.out, HO.out, cell_of_row _ w.heap.size 0 _ _ _ (heap_alloc_at _ _)]; rfl
  unfold opv at *
  go_enter Tryz.func11, Tryz.ntmps11
  go_wp2_with (first
    | (refine wpList_box 27 (.tmp 1) (v := .pointer (some ⟨O, 0, none⟩)) (w' := W1) rfl rfl ?_ ?_; exact hbox))
  have hlift : Tryz.prog.follows .mixedOrders = true := by kernel_rfl
  obtain ⟨W, HW⟩ : ∃ W, Hid (W = W1.drew) := ⟨_, rfl⟩
  have hFW : Fr (fun _ => False) w W := by rw [HW.out, HW1.out]; exact ((Fr.refl _ _).alloc _).drew
  obtain ⟨kv, rv, sv, dv, fv, k, r, st, kxs, rxs, sxs, fxs, hI, hk, hr, hst, hm, hDs, hPw⟩ := h.frz hFW (Nat.le_refl _)
  have hOW : W.heap[O]? = some (.cells #[.int .i64 6, .int .i64 X, .int .i64 a, .int .i64 b, .string S, .string T] 27 (0, 0)) := by rw [HW.out, HW1.out, HO.out]; exact heap_alloc_at _ _
  have hO2 : W.cell? ⟨O, 2, none⟩ = some (.int .i64 a) := by rw [cell_of_row W O 2 _ _ _ hOW]; rfl
  have hbW : b0 ≤ W.heap.size := Nat.le_trans hsz hFW.size
  let S : World → Prop := fun w' => w'.cell? ⟨O, 2, none⟩ = some (.int .i64 a) ∧ w'.cell? ⟨W0, 1, none⟩ = some rv
  have hS : S W := ⟨hO2, hI.c1⟩
  have hSf : ∀ w', Fr (fun _ => False) W w' → S w' := fun w' hf => ⟨hf.cell hO2 id, hf.cell hI.c1 id⟩
  refine wp_region_held (S := S) hlift ?_
  change wpAnyH _ _ _ _ S _ _ _ (World.drew _)
  rw [← HW.out]
  refine wpAnyH_take (S := S) (i := 0) (oi := ⟨some 66, .fieldAddr 27 (.tmp 3) 2, _, _, _, none⟩) (v := .pointer (some ⟨O, 2, none⟩)) rfl (by kernel_rfl) (by kernel_rfl) (by kernel_rfl) (fun _ _ _ h => h) (Or.inl ⟨rfl, fun _ _ => by kernel_rfl⟩) hS ?_
  simp only [Act.put, List.setIfInBounds_toArray, List.set_cons_zero, List.set_cons_succ]
  refine wpAnyH_take (S := S) (i := 1) (oi := ⟨some 67, .load 3 (.tmp 66), _, _, _, none⟩) (v := .int .i64 a) rfl (by kernel_rfl) (by kernel_rfl) (by kernel_rfl) (fun _ _ _ h => h) (Or.inl ⟨rfl, fun w' hs => exec_load 3 (.tmp 66) rfl ⟨O, 2, none⟩ rfl (run_loadAt_one hs.1 Tryz.underlying3 rfl)⟩) hS ?_
  simp only [Act.put, List.setIfInBounds_toArray, List.set_cons_zero, List.set_cons_succ]
  refine wpAnyH_take (S := S) (i := 3) (oi := ⟨some 69, .move (.tmp 0), _, _, _, none⟩) (v := .pointer (some ⟨W0, 0, none⟩)) rfl (by kernel_rfl) (by kernel_rfl) (by kernel_rfl) (fun _ _ _ h => h) (Or.inl ⟨rfl, fun _ _ => rfl⟩) hS ?_
  simp only [Act.put, List.setIfInBounds_toArray, List.set_cons_zero, List.set_cons_succ]
  refine wpAnyH_take (S := S) (i := 4) (oi := ⟨some 70, .nilCheck (.tmp 69), _, _, _, none⟩) (v := .pointer (some ⟨W0, 0, none⟩)) rfl (by kernel_rfl) (by kernel_rfl) (by kernel_rfl) (fun _ _ _ h => h) (Or.inl ⟨rfl, fun _ _ => rfl⟩) hS ?_
  simp only [Act.put, List.setIfInBounds_toArray, List.set_cons_zero, List.set_cons_succ]
  refine wpAnyH_take (S := S) (i := 5) (oi := ⟨some 71, .fieldAddr 34 (.tmp 70) 1, _, _, _, none⟩) (v := .pointer (some ⟨W0, 1, none⟩)) rfl (by kernel_rfl) (by kernel_rfl) (by kernel_rfl) (fun _ _ _ h => h) (Or.inl ⟨rfl, fun _ _ => by kernel_rfl⟩) hS ?_
  simp only [Act.put, List.setIfInBounds_toArray, List.set_cons_zero, List.set_cons_succ]
  refine wpAnyH_take (S := S) (i := 6) (oi := ⟨some 72, .load 24 (.tmp 71), _, _, _, none⟩) (v := rv) rfl (by kernel_rfl) (by kernel_rfl) (by kernel_rfl) (fun _ _ _ h => h) (Or.inl ⟨rfl, fun w' hs => exec_load 24 (.tmp 71) rfl ⟨W0, 1, none⟩ rfl (run_loadAt_one hs.2 Tryz.underlying24 rfl)⟩) hS ?_
  simp only [Act.put, List.setIfInBounds_toArray, List.set_cons_zero, List.set_cons_succ]
  refine wpAnyH_take (S := S) (i := 8) (oi := ⟨some 74, .fieldAddr 27 (.tmp 3) 2, _, _, _, none⟩) (v := .pointer (some ⟨O, 2, none⟩)) rfl (by kernel_rfl) (by kernel_rfl) (by kernel_rfl) (fun _ _ _ h => h) (Or.inl ⟨rfl, fun _ _ => by kernel_rfl⟩) hS ?_
  simp only [Act.put, List.setIfInBounds_toArray, List.set_cons_zero, List.set_cons_succ]
  refine wpAnyH_take (S := S) (i := 9) (oi := ⟨some 75, .load 3 (.tmp 74), _, _, _, none⟩) (v := .int .i64 a) rfl (by kernel_rfl) (by kernel_rfl) (by kernel_rfl) (fun _ _ _ h => h) (Or.inl ⟨rfl, fun w' hs => exec_load 3 (.tmp 74) rfl ⟨O, 2, none⟩ rfl (run_loadAt_one hs.1 Tryz.underlying3 rfl)⟩) hS ?_
  simp only [Act.put, List.setIfInBounds_toArray, List.set_cons_zero, List.set_cons_succ]
  refine wpAnyH_all (rs := [2]) (by kernel_rfl) (by simp) ?_
  intro i2 hi2
  obtain rfl : i2 = 2 := by simpa using hi2
  refine wpOp_call (o := ⟨some 68, .call { callee := .value (.func 22), args := #[.tmp 67], argTypes := _ }, _, _, _, none⟩) (f := 22) (args := #[.int .i64 a]) rfl rfl (by kernel_rfl) ?_
  refine (NewDisk_ok a W).mono ?_
  rintro e w2 ⟨A, B, rfl, hA, hB, hd2, hr2, hf2⟩
  refine ⟨_, rfl, hSf w2 hf2, ?_⟩
  simp only [Act.put, List.setIfInBounds_toArray, List.set_cons_zero, List.set_cons_succ]
  refine wpAnyH_all (rs := [7]) (by kernel_rfl) (by simp) ?_
  intro i7 hi7
  obtain rfl : i7 = 7 := by simpa using hi7
  refine wpOp_call (o := ⟨some 73, .call { callee := .value (.func 23), args := #[.tmp 72], argTypes := _ }, _, _, _, none⟩) (f := 23) (args := #[rv]) rfl rfl (by kernel_rfl) ?_
  refine (NewPartner_ok (hI.frz hf2).hr hI.ro (by omega)).mono ?_
  rintro e w3 ⟨Pp, lv, rfl, hP, hp3, hf3⟩
  have hf23 : Fr (fun _ => False) W w3 := hf2.trans hf3 (fun _ _ h => h)
  refine ⟨_, rfl, hSf w3 hf23, ?_⟩
  simp only [Act.put, List.setIfInBounds_toArray, List.set_cons_zero, List.set_cons_succ]
  refine wpAnyH_all (rs := [10]) (by kernel_rfl) (by simp) ?_
  intro i10 hi10
  obtain rfl : i10 = 10 := by simpa using hi10
  refine wpOp_call (o := ⟨some 76, .call { callee := .value (.func 24), args := #[.tmp 75], argTypes := _ }, _, _, _, none⟩) (f := 24) (args := #[.int .i64 a]) rfl rfl (by kernel_rfl) ?_
  refine (blocks_ok a w3).mono ?_
  rintro e w' ⟨rfl, rfl⟩
  have hS3 : S w' := hSf w' hf23
  refine ⟨_, rfl, hS3, ?_⟩
  simp only [Act.put, List.setIfInBounds_toArray, List.set_cons_zero, List.set_cons_succ]
  refine wpAnyH_take (S := S) (i := 11) (oi := ⟨some 77, .build 46 #[(0, .tmp 68), (1, .tmp 73), (2, .tmp 76), (3, .const (.bool true))], _, _, _, none⟩) (v := .agg (lc A Pp (nblk a) true (.pointer none) 0)) rfl (by kernel_rfl) (by kernel_rfl) (by kernel_rfl) (fun _ _ _ h => h) (Or.inl ⟨rfl, fun w' _ => exec_build 46 _ rfl #[(0, .pointer (some ⟨A, 0, none⟩)), (1, .pointer (some ⟨Pp, 0, none⟩)), (2, .int .i64 (nblk a)), (3, .bool true)] (by simp [Act.eval]) (build_disk A Pp (nblk a) w')⟩) hS3 ?_
  simp only [Act.put, List.setIfInBounds_toArray, List.set_cons_zero, List.set_cons_succ]
  refine wpAnyH_all (rs := [12]) (by kernel_rfl) (by simp) ?_
  intro i12 hi12
  obtain rfl : i12 = 12 := by simpa using hi12
  have hf4 : Fr (fun _ => False) W (w'.alloc (.cells (lc A Pp (nblk a) true (.pointer none) 0) 46)) := hf23.alloc _
  have hS4 : S (w'.alloc (.cells (lc A Pp (nblk a) true (.pointer none) 0) 46)) := hSf _ hf4
  refine wpOp_value (o := ⟨some 78, .box 46 (.tmp 77), _, _, _, none⟩) rfl rfl (exec_box 46 (.tmp 77) rfl rfl (box_disk A Pp (nblk a) w')) ⟨hS4, ?_⟩
  simp only [Act.put, List.setIfInBounds_toArray, List.set_cons_zero, List.set_cons_succ]
  refine wpAnyH_take (S := S) (i := 13) (oi := ⟨some 6, .assign (.tmp 78), _, _, _, none⟩) (v := .pointer (some ⟨w'.heap.size, 0, none⟩)) rfl (by kernel_rfl) (by kernel_rfl) (by kernel_rfl) (fun _ _ _ h => h) (Or.inl ⟨rfl, fun _ _ => rfl⟩) hS4 ?_
  simp only [Act.put, List.setIfInBounds_toArray, List.set_cons_zero, List.set_cons_succ]
  refine wpAnyH_done (by kernel_rfl) ?_ _
  obtain ⟨W5, HW5⟩ : ∃ W5, Hid (W5 = w'.alloc (.cells (lc A Pp (nblk a) true (.pointer none) 0) 46)) := ⟨_, rfl⟩
  obtain ⟨D, HD⟩ : ∃ D, Hid (D = w'.heap.size) := ⟨_, rfl⟩
  have hl5 : LawAt W5 D A Pp (nblk a) true (.pointer none) 0 := by rw [HW5.out, HD.out]; exact heap_alloc_at _ _
  have hF35 : Fr (fun _ => False) w' W5 := by rw [HW5.out]; exact (Fr.refl _ _).alloc _
  have hF5 : Fr (fun _ => False) W W5 := hf23.trans hF35 (fun _ _ h => h)
  have hWh : Whole W5 D A B Pp (nblk a) true (.pointer none) 0 0 0 (List.replicate (nblk a * 128) (.int .u8 0)) :=
    ⟨hl5, ⟨lv, hF35.keep hp3 id⟩, (hd2.fr hf3 id).fr hF35 id, hF35.keep (hf3.keep hr2.1 id) id, hr2.2⟩
  have hDl : W.heap.size ≤ D := by rw [HD.out]; exact hf23.size
  have hq : DI W5 b0 s ⟨D, A, B, Pp, nblk a, true⟩ := by
    refine ⟨_, _, _, _, _, hWh, fun h8 _ => ?_, by omega, by omega, by omega, by omega, by simp; omega, by simp; omega, by simp; omega, nblk_lt a⟩
    simp only [if_true, zB, List.take_replicate]
    congr 1
    simp only at h8
    omega
  have hI5 := hI.frz hF5
  have hDs5 : ∀ q ∈ qs, DI W5 b0 s q := fun q hq => (hDs q hq).fr hF5 (fun _ _ _ _ _ => id)
  have hap : ∀ p ∈ qs, Apart p ⟨D, A, B, Pp, nblk a, true⟩ := by
    intro p hp
    obtain ⟨_, _, _, _, _, hw, _⟩ := hDs p hp
    have l1 := lt_of_heap hw.l
    have l2 := lt_of_heap hw.d
    have l3 := lt_of_heap hw.r.1
    exact ⟨by simp; omega, by simp; omega, by simp; omega⟩
  have hB5 : Below b0 w W5 := (frz_below hFW hsz).trans (frz_below hF5 hbW)
  have hb5 : b0 ≤ W5.heap.size := Nat.le_trans hbW hF5.size
  have c3 := hI5.c3
  have hod := hI5.hd
  have hof := hI5.hf
  have hw5 := hI5.hw
  have HFin : Hid (∀ {wn wm : World} {gn cap gm cam : Nat}, wn.ownsRow b0 37 1 (.slice (some ⟨gn, 0, none⟩) (qs.length + 1) cap) (qs.length + 1) ((qs.map DR.D).map (fun D => Value.pointer (some ⟨D, 0, none⟩)) ++ [.pointer (some ⟨D, 0, none⟩)]) → (W5.alloc (.cells #[.pointer (some ⟨D, 0, none⟩)] 37)).grownBy wn dv.ownBlock →
      wm.ownsRow b0 4 1 (.slice (some ⟨gm, 0, none⟩) (qs.length + 1) cam) (qs.length + 1) (fxs ++ [.bool false]) → ((wn.setCell ⟨W0, 3, none⟩ (.slice (some ⟨gn, 0, none⟩) (qs.length + 1) cap)).alloc (.cells #[.bool false] 4)).grownBy wm fv.ownBlock →
      wm.cell? ⟨W0, 4, none⟩ = some fv ∧ wm.frozen? ⟨W0, 4, none⟩ = false ∧ Hid (OwnPost w b0 W0 s (.returned (.bool true)) (wm.setCell ⟨W0, 4, none⟩ (.slice (some ⟨gm, 0, none⟩) (qs.length + 1) cam)))) := fun x1 x2 x3 x4 => Inv.disk (q := ⟨D, A, B, Pp, nblk a, true⟩) hI5 hk hr hst hm hDs5 hPw hq hap hB5 hb5 x1 x2 x3 x4
  clear hq hI5 hDs5 hap hB5 hWh hl5 hF35 hF5 hS hSf hS3 hS4 hf4 hd2 hr2 hf2 hf3 hf23 hp3 hI hDs hPw hO2 hOW hO0 hbox h
  rw [← HW5.out, ← HD.out]
  obtain ⟨ip, hpi0, hpz0, hpz1, hpz2⟩ := info_parts pdisk_info
  obtain ⟨ib, hbi0, hbz0, hbz1, hbz2⟩ := info_parts bool_info
  have afterA : ∀ (gn cap : Nat) (wn : World), (W5.alloc (.cells #[.pointer (some ⟨D, 0, none⟩)] 37)).grownBy wn dv.ownBlock → wn.cell? ⟨W0, 3, none⟩ = some dv ∧ wn.frozen? ⟨W0, 3, none⟩ = false ∧ wn.cell? ⟨W0, 4, none⟩ = some fv ∧
      Hid (((wn.setCell ⟨W0, 3, none⟩ (.slice (some ⟨gn, 0, none⟩) (qs.length + 1) cap)).alloc (.cells #[.bool false] 4)).ownsRow b0 4 1 fv qs.length fxs) ∧ b0 ≤ ((wn.setCell ⟨W0, 3, none⟩ (.slice (some ⟨gn, 0, none⟩) (qs.length + 1) cap)).alloc (.cells #[.bool false] 4)).heap.size := by
    intro gn cap wn hg1
    have hty : ∀ b c t, W5.heap[b]? = some (.cells c t (0, 0)) → dv.ownBlock = some b → t = 37 := by
      intro b c t hb hv
      rcases hod.2 with ⟨rfl, _⟩ | ⟨g, cap', cur, rfl, _, hg, _⟩
      · simp [Value.ownBlock] at hv
      · simp only [Value.ownBlock, Option.some.injEq] at hv
        subst hv
        rw [hb] at hg
        simp at hg
        exact hg.2
    have hF1 : Fr (fun b => dv.ownBlock = some b) W5 wn := (((Fr.refl _ _).alloc _)).grown hg1 (fun b _ h => h)
    have hWn : wn.heap[W0]? = some (.cells #[kv, rv, sv, dv, fv] 34 (0, 0)) := hF1.keep hw5 (fun hv => by have := hty _ _ _ hw5 hv; simp at this)
    refine ⟨by rw [cell_of_row wn W0 3 _ _ _ hWn]; rfl, frozen_of_row wn W0 3 _ _ hWn, by rw [cell_of_row wn W0 4 _ _ _ hWn]; rfl, ?_, ?_⟩
    · exact (own_set hWn (by decide) (own_fr hof hF1 (fun b c hb _ hv => by have := hty _ _ _ hb hv; simp at this))).alloc _
    · have := hF1.size; simp; omega
  have HA : Hid (∀ (gn cap : Nat) (wn : World), (W5.alloc (.cells #[.pointer (some ⟨D, 0, none⟩)] 37)).grownBy wn dv.ownBlock → wn.cell? ⟨W0, 3, none⟩ = some dv ∧ wn.frozen? ⟨W0, 3, none⟩ = false ∧ wn.cell? ⟨W0, 4, none⟩ = some fv ∧
      Hid (((wn.setCell ⟨W0, 3, none⟩ (.slice (some ⟨gn, 0, none⟩) (qs.length + 1) cap)).alloc (.cells #[.bool false] 4)).ownsRow b0 4 1 fv qs.length fxs) ∧ b0 ≤ ((wn.setCell ⟨W0, 3, none⟩ (.slice (some ⟨gn, 0, none⟩) (qs.length + 1) cap)).alloc (.cells #[.bool false] 4)).heap.size) := afterA
  have HD5 : Hid ((W5.alloc (.cells #[.pointer (some ⟨D, 0, none⟩)] 37)).ownsRow b0 37 1 dv qs.length ((qs.map DR.D).map (fun D => Value.pointer (some ⟨D, 0, none⟩)))) := hod.alloc _
  clear afterA hod hof hw5
  go_wp2_with (first
    | (at_builtin; refine wpList_append_lies _ rfl (.tmp 83) (.tmp 85) 31 rfl b0 37 ip (.pointer none) 1 8 Tryz.underlying31 hpi0 hpz0 hpz1 hpz2 rfl (by decide) dv qs.length ((qs.map DR.D).map (fun D => Value.pointer (some ⟨D, 0, none⟩))) rfl HD5.out ⟨W5.heap.size, 0, none⟩ 1 1 [.pointer (some ⟨D, 0, none⟩)] rfl rfl ?_ ?_ (by decide) ?_ ?_ ?_ _ rfl ?_; exact World.news_of_block (cs := #[.pointer (some ⟨D, 0, none⟩)]) (heap_alloc_at W5 _); (simp [Value.oneCell']); (unfold maxLen; omega); omega; (simp; omega); intro gn cap wn hon hgrow hat hlt; obtain ⟨a3, a3f, a4, HB1, HB2⟩ := HA.out gn cap wn hgrow)
    | (at_builtin; refine wpList_append_lies _ rfl (.tmp 93) (.tmp 94) 32 rfl b0 4 ib (.bool false) 1 1 Tryz.underlying32 hbi0 hbz0 hbz1 hbz2 rfl (by decide) fv qs.length fxs rfl HB1.out ⟨wn.heap.size, 0, none⟩ 1 1 [.bool false] rfl rfl ?_ ?_ (by decide) ?_ ?_ HB2 _ rfl ?_; exact World.news_of_block (cs := #[.bool false]) (by simpa using heap_alloc_at (wn.setCell ⟨W0, 3, none⟩ (.slice (some ⟨gn, 0, none⟩) (qs.length + 1) cap)) (.cells #[.bool false] 4)); (simp [Value.oneCell']); (unfold maxLen; omega); omega; intro gm cam wm hom hgm hatm hltm; obtain ⟨z1, z2, z3⟩ := HFin.out hon hgrow hom hgm))
  go_ret
  exact z3.out
end Go.Proofs.YthnmpgnaahkgkaaGreatDoor
