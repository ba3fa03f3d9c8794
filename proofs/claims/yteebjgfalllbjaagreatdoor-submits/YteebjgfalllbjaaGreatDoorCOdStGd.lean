import Derived.Test.YteebjgfalllbjaaGreatDoorCWiOkOk2
namespace Go.Proofs.YteebjgfalllbjaaGreatDoor
open Go.RowKit
variable {G : Prg}
theorem pdisk_info : (Tryz.prog.info? 105).map (fun i => (i.zero, i.size, i.bytes)) = some (some (.pointer none), 1, 8) := by kernel_rfl
theorem bool_info : (Tryz.prog.info? 4).map (fun i => (i.zero, i.size, i.bytes)) = some (some (.bool false), 1, 1) := by kernel_rfl
theorem build_disk (A Pp n : Nat) (w : World) : (Instr.build 111 #[(0, .pointer (some ⟨A, 0, none⟩)), (1, .pointer (some ⟨Pp, 0, none⟩)), (2, .int .i64 n), (3, .bool true)]).run Tryz.prog w = .ok (.agg (lc A Pp n true (.pointer none) 0 0 (.slice none 0 0))) w := by kernel_rfl
theorem box_disk (A Pp n : Nat) (w : World) : (Instr.box 111 (.agg (lc A Pp n true (.pointer none) 0 0 (.slice none 0 0)))).run Tryz.prog w = .ok (.pointer (some ⟨w.heap.size, 0, none⟩)) (w.alloc (.cells (lc A Pp n true (.pointer none) 0 0 (.slice none 0 0)) 111)) := rfl
section
variable {P : Program} {ρ : Operand → Value} {o : Oper} {w w' : World} {v : Value}
theorem exec_build (t : TypeId) (ps : Array (Nat × Operand)) (ho : o.op = .build t ps) (vs : Array (Nat × Value)) (hvs : (ps.map fun (i, x) => (i, ρ x)) = vs) (hr : (Instr.build t vs).run P w = .ok v w') : (execOp ρ o).run P w = .ok (.value v) w' := by
  simp only [execOp, ho, hvs, Sem.run_bind, hr, Result.andThen_ok, Sem.run_pure]
theorem exec_box (t : TypeId) (x : Operand) (ho : o.op = .box t x) {u : Value} (hx : ρ x = u) (hr : (Instr.box t u).run P w = .ok v w') : (execOp ρ o).run P w = .ok (.value v) w' := by
  simp only [execOp, ho, hx, Sem.run_bind, hr, Result.andThen_ok, Sem.run_pure]
end

/-- Two lists of the script's world grow by a disk: what is known then. -/
theorem Inv.disk {w w5 : World} {b0 W0 s : Nat} {kv rv sv dv fv : Value} {k r st : Nat} {kxs rxs fxs : List Value} {sts : List SS} {qs : List DR} {q : DR}
    (hI : WI w5 b0 W0 kv rv sv dv fv k r st qs.length kxs rxs (scells sts) (qs.map DR.D) fxs) (hk : k ≤ s) (hr : r ≤ s) (hsn : sts.length = st) (hst : st ≤ s) (hm : qs.length ≤ s) (hDs : ∀ q ∈ qs, DI G w5 b0 s q) (hPw : qs.Pairwise Apart) (hq : DI G w5 b0 s q) (hap : ∀ p ∈ qs, Apart p q) (hB : Below b0 w w5) (hb : b0 ≤ w5.heap.size)
    {wn wm : World} {gn cap gm cam : Nat}
    (hon : wn.ownsRow b0 105 1 (.slice (some ⟨gn, 0, none⟩) (qs.length + 1) cap) (qs.length + 1) ((qs.map DR.D).map (fun D => Value.pointer (some ⟨D, 0, none⟩)) ++ [.pointer (some ⟨q.D, 0, none⟩)])) (hg1 : (w5.alloc (.cells #[.pointer (some ⟨q.D, 0, none⟩)] 105)).grownBy wn dv.ownBlock)
    (hom : wm.ownsRow b0 4 1 (.slice (some ⟨gm, 0, none⟩) (qs.length + 1) cam) (qs.length + 1) (fxs ++ [.bool false])) (hg2 : ((wn.setCell ⟨W0, 3, none⟩ (.slice (some ⟨gn, 0, none⟩) (qs.length + 1) cap)).alloc (.cells #[.bool false] 4)).grownBy wm fv.ownBlock) :
    wm.cell? ⟨W0, 4, none⟩ = some fv ∧ wm.frozen? ⟨W0, 4, none⟩ = false ∧ Hid (OwnPost G w b0 W0 s (.returned (.bool true)) (wm.setCell ⟨W0, 4, none⟩ (.slice (some ⟨gm, 0, none⟩) (qs.length + 1) cam))) := by
  have own_ty : ∀ {w : World} {e size n : Nat} {v : Value} {xs : List Value}, w.ownsRow b0 e size v n xs → ∀ b c t, w.heap[b]? = some (.cells c t (0, 0)) → v.ownBlock = some b → t = e := by
    intro w e size n v xs h b c t hb hv
    rcases h.2 with ⟨rfl, _⟩ | ⟨g, cap', cur, rfl, _, hg, _⟩
    · simp [Value.ownBlock] at hv
    · simp only [Value.ownBlock, Option.some.injEq] at hv
      subst hv
      rw [hb] at hg
      simp at hg
      exact hg.2
  have hF1 : Fr (fun b => dv.ownBlock = some b) w5 wn := (((Fr.refl _ _).alloc _)).grown hg1 (fun b _ h => h)
  have hd_ty := own_ty hI.hd
  have hf_ty := own_ty hI.hf
  have ne1 : ∀ {e : Nat}, e ≠ 105 → ∀ b c, w5.heap[b]? = some (.cells c e (0, 0)) → ¬ dv.ownBlock = some b := fun he b c hb hv => he (hd_ty b c _ hb hv)
  have hWn : wn.heap[W0]? = some (.cells #[kv, rv, sv, dv, fv] 80 (0, 0)) := hF1.keep hI.hw (ne1 (by decide) _ _ hI.hw)
  have hIs : WI (wn.setCell ⟨W0, 3, none⟩ (.slice (some ⟨gn, 0, none⟩) (qs.length + 1) cap)) b0 W0 kv rv sv (.slice (some ⟨gn, 0, none⟩) (qs.length + 1) cap) fv k r st qs.length kxs rxs (scells sts) (qs.map DR.D) fxs → True := fun _ => trivial
  have hF2 : Fr (fun b => b = W0 ∨ dv.ownBlock = some b) w5 (wn.setCell ⟨W0, 3, none⟩ (.slice (some ⟨gn, 0, none⟩) (qs.length + 1) cap)) := Fr.setCell (S := fun b => b = W0 ∨ dv.ownBlock = some b) (hF1.mono (fun _ _ h => Or.inr h)) ⟨W0, 3, none⟩ (fun _ => Or.inl rfl) _
  have hF3 : Fr (fun b => b = W0 ∨ dv.ownBlock = some b ∨ fv.ownBlock = some b) w5 wm := Fr.grown (S := fun b => b = W0 ∨ dv.ownBlock = some b ∨ fv.ownBlock = some b) ((hF2.mono (fun b _ h => by rcases h with h | h; exact .inl h; exact .inr (.inl h))).alloc _) hg2 (fun b _ h => Or.inr (Or.inr h))
  have ne3 : ∀ {e : Nat}, e ≠ 105 → e ≠ 4 → e ≠ 80 → ∀ b c, w5.heap[b]? = some (.cells c e (0, 0)) → ¬ (b = W0 ∨ dv.ownBlock = some b ∨ fv.ownBlock = some b) := by
    rintro e he1 he2 he3 b c hb (rfl | hv | hv)
    · rw [hI.hw] at hb; simp at hb; exact he3 hb.2.symm
    · exact he1 (hd_ty b c _ hb hv)
    · exact he2 (hf_ty b c _ hb hv)
  have hWs : (wn.setCell ⟨W0, 3, none⟩ (.slice (some ⟨gn, 0, none⟩) (qs.length + 1) cap)).heap[W0]? = some (.cells #[kv, rv, sv, .slice (some ⟨gn, 0, none⟩) (qs.length + 1) cap, fv] 80 (0, 0)) := heap_setCell_at wn W0 3 _ _ _ hWn
  have hos : (wn.setCell ⟨W0, 3, none⟩ (.slice (some ⟨gn, 0, none⟩) (qs.length + 1) cap)).ownsRow b0 105 1 (.slice (some ⟨gn, 0, none⟩) (qs.length + 1) cap) (qs.length + 1) ((qs.map DR.D).map (fun D => Value.pointer (some ⟨D, 0, none⟩)) ++ [.pointer (some ⟨q.D, 0, none⟩)]) := own_set hWn (by decide) hon
  have hfs : (wn.setCell ⟨W0, 3, none⟩ (.slice (some ⟨gn, 0, none⟩) (qs.length + 1) cap)).ownsRow b0 4 1 fv qs.length fxs := own_fr hI.hf hF2 (by
    rintro b c hb hv (rfl | hd)
    · rw [hI.hw] at hb; simp at hb
    · have := hd_ty b c _ hb hd; simp at this)
  have hf_ty2 := own_ty hfs
  have hF4 : Fr (fun b => fv.ownBlock = some b) (wn.setCell ⟨W0, 3, none⟩ (.slice (some ⟨gn, 0, none⟩) (qs.length + 1) cap)) wm := Fr.grown (S := fun b => fv.ownBlock = some b) ((Fr.refl _ _).alloc _) hg2 (fun b _ h => h)
  have hWm : wm.heap[W0]? = some (.cells #[kv, rv, sv, .slice (some ⟨gn, 0, none⟩) (qs.length + 1) cap, fv] 80 (0, 0)) := hF4.keep hWs (fun hv => by have := hf_ty2 _ _ _ hWs hv; simp at this)
  have hdm : wm.ownsRow b0 105 1 (.slice (some ⟨gn, 0, none⟩) (qs.length + 1) cap) (qs.length + 1) ((qs.map DR.D).map (fun D => Value.pointer (some ⟨D, 0, none⟩)) ++ [.pointer (some ⟨q.D, 0, none⟩)]) := own_fr hos hF4 (fun b c hb _ hv => by have := hf_ty2 _ _ _ hb hv; simp at this)
  refine ⟨by rw [cell_of_row wm W0 4 _ _ _ hWm]; rfl, frozen_of_row wm W0 4 _ _ hWm, qs ++ [q], rfl, ⟨kv, rv, sv, .slice (some ⟨gn, 0, none⟩) (qs.length + 1) cap, .slice (some ⟨gm, 0, none⟩) (qs.length + 1) cam, k, r, st, kxs, rxs, sts, fxs ++ [.bool false], ?_, hsn, by omega, by omega, by omega, by simp; omega, ?_, ?_⟩, ?_⟩
  · have el : (qs ++ [q]).length = qs.length + 1 := by simp
    have em : (qs ++ [q]).map DR.D = qs.map DR.D ++ [q.D] := by simp
    rw [el, em]
    refine ⟨heap_setCell_at wm W0 4 _ _ _ hWm, own_set hWm (by decide) (own_fr hI.hk hF3 (fun b c hb _ => ne3 (by decide) (by decide) (by decide) b c hb)), own_set hWm (by decide) (own_fr hI.hr hF3 (fun b c hb _ => ne3 (by decide) (by decide) (by decide) b c hb)), own_set hWm (by decide) (own_fr hI.hs hF3 (fun b c hb _ => ne3 (by decide) (by decide) (by decide) b c hb)), ?_, own_set hWm (by decide) hom, hI.ne, hI.ro, hI.so, hI.w0⟩
    rw [List.map_append]
    exact own_set hWm (by decide) hdm
  · intro p hp
    have hp5 : DI G w5 b0 s p := by
      rcases List.mem_append.1 hp with hp | hp
      · exact hDs p hp
      · rw [List.mem_singleton.1 hp]; exact hq
    refine ((hp5.fr hF3 ?_).setW hWm _ _).mono (by omega)
    intro b c t hb ht
    rcases ht with ⟨rfl, _⟩ | ⟨rfl, _⟩ | ⟨rfl, _⟩ | ht
    · exact ne3 (by decide) (by decide) (by decide) b c hb
    · exact ne3 (by decide) (by decide) (by decide) b c hb
    · exact ne3 (by decide) (by decide) (by decide) b c hb
    · exact ne3 ht.ne.2.2.1 ht.ne.2.2.2.1 ht.ne.1 b c hb
  · rw [List.pairwise_append]
    exact ⟨hPw, List.pairwise_singleton _ _, fun p hp q' hq' => by rw [List.mem_singleton.1 hq']; exact hap p hp⟩
  · refine (hB.trans (hF3.below hb ?_)).setCell (p := ⟨W0, 4, none⟩) hI.w0 _
    rintro b (rfl | hv | hv)
    · exact hI.w0
    · exact (hI.hd.lt b hv).1
    · exact (hI.hf.lt b hv).1

set_option maxRecDepth 100000 in
set_option maxHeartbeats 4000000 in
theorem owner_disk {w : World} {b0 W0 s : Nat} {qs : List DR} (h : Inv G w b0 W0 s qs) (hs : s < 100000) (X a b : Int) (S T : ByteArray) :
    Calls Tryz.prog 49 #[.pointer (some ⟨W0, 0, none⟩), .agg (opv 6 X a b S T)] w fun e w' => OwnPost G w b0 W0 s e w' := by
  have hsz := h.size
  obtain ⟨W1, HW1⟩ : ∃ W, Hid (W = w.alloc (.cells (opv 6 X a b S T) 74)) := ⟨_, rfl⟩
  obtain ⟨O, HO⟩ : ∃ O, Hid (O = w.heap.size) := ⟨_, rfl⟩
  have hbox : (Instr.box 74 (.agg (opv 6 X a b S T))).run Tryz.prog w = .ok (.pointer (some ⟨O, 0, none⟩)) W1 := by rw [HW1.out, HO.out]; rfl
  have hO0 : W1.cell? ⟨O, 0, none⟩ = some (.int .i64 6) := by rw [HW1.out, HO.out, cell_of_row _ w.heap.size 0 _ _ _ (heap_alloc_at _ _)]; rfl
  unfold opv at *
  go_enter Tryz.func49, Tryz.ntmps49
  go_wp2_with (first
    | (refine wpList_box 74 (.tmp 1) (v := .pointer (some ⟨O, 0, none⟩)) (w' := W1) rfl rfl ?_ ?_; exact hbox))
  have hlift : Tryz.prog.follows .mixedOrders = true := by kernel_rfl
  obtain ⟨W, HW⟩ : ∃ W, Hid (W = W1.drew) := ⟨_, rfl⟩
  have hFW : Fr (fun _ => False) w W := by rw [HW.out, HW1.out]; exact ((Fr.refl _ _).alloc _).drew
  obtain ⟨kv, rv, sv, dv, fv, k, r, st, kxs, rxs, sts, fxs, hI, hsn, hk, hr, hst, hm, hDs, hPw⟩ := h.frz hFW (Nat.le_refl _)
  have hOW : W.heap[O]? = some (.cells #[.int .i64 6, .int .i64 X, .int .i64 a, .int .i64 b, .string S, .string T] 74 (0, 0)) := by rw [HW.out, HW1.out, HO.out]; exact heap_alloc_at _ _
  have hO2 : W.cell? ⟨O, 2, none⟩ = some (.int .i64 a) := by rw [cell_of_row W O 2 _ _ _ hOW]; rfl
  have hbW : b0 ≤ W.heap.size := Nat.le_trans hsz hFW.size
  let S : World → Prop := fun w' => w'.cell? ⟨O, 2, none⟩ = some (.int .i64 a) ∧ w'.cell? ⟨W0, 1, none⟩ = some rv
  have hS : S W := ⟨hO2, hI.c1⟩
  have hSf : ∀ w', Fr (fun _ => False) W w' → S w' := fun w' hf => ⟨hf.cell hO2 id, hf.cell hI.c1 id⟩
  refine wp_region_held (S := S) hlift ?_
  change wpAnyH _ _ _ _ S _ _ _ (World.drew _)
  rw [← HW.out]
  refine wpAnyH_take (S := S) (i := 0) (oi := ⟨some 66, .fieldAddr 74 (.tmp 3) 2, _, _, _, none⟩) (v := .pointer (some ⟨O, 2, none⟩)) rfl (by kernel_rfl) (by kernel_rfl) (by kernel_rfl) (fun _ _ _ h => h) (Or.inl ⟨rfl, fun _ _ => by kernel_rfl⟩) hS ?_
  simp only [Act.put, List.setIfInBounds_toArray, List.set_cons_zero, List.set_cons_succ]
  refine wpAnyH_take (S := S) (i := 1) (oi := ⟨some 67, .load 3 (.tmp 66), _, _, _, none⟩) (v := .int .i64 a) rfl (by kernel_rfl) (by kernel_rfl) (by kernel_rfl) (fun _ _ _ h => h) (Or.inl ⟨rfl, fun w' hs => exec_load 3 (.tmp 66) rfl ⟨O, 2, none⟩ rfl (run_loadAt_one hs.1 Tryz.underlying3 rfl)⟩) hS ?_
  simp only [Act.put, List.setIfInBounds_toArray, List.set_cons_zero, List.set_cons_succ]
  refine wpAnyH_take (S := S) (i := 3) (oi := ⟨some 69, .move (.tmp 0), _, _, _, none⟩) (v := .pointer (some ⟨W0, 0, none⟩)) rfl (by kernel_rfl) (by kernel_rfl) (by kernel_rfl) (fun _ _ _ h => h) (Or.inl ⟨rfl, fun _ _ => rfl⟩) hS ?_
  simp only [Act.put, List.setIfInBounds_toArray, List.set_cons_zero, List.set_cons_succ]
  refine wpAnyH_take (S := S) (i := 4) (oi := ⟨some 70, .nilCheck (.tmp 69), _, _, _, none⟩) (v := .pointer (some ⟨W0, 0, none⟩)) rfl (by kernel_rfl) (by kernel_rfl) (by kernel_rfl) (fun _ _ _ h => h) (Or.inl ⟨rfl, fun _ _ => rfl⟩) hS ?_
  simp only [Act.put, List.setIfInBounds_toArray, List.set_cons_zero, List.set_cons_succ]
  refine wpAnyH_take (S := S) (i := 5) (oi := ⟨some 71, .fieldAddr 80 (.tmp 70) 1, _, _, _, none⟩) (v := .pointer (some ⟨W0, 1, none⟩)) rfl (by kernel_rfl) (by kernel_rfl) (by kernel_rfl) (fun _ _ _ h => h) (Or.inl ⟨rfl, fun _ _ => by kernel_rfl⟩) hS ?_
  simp only [Act.put, List.setIfInBounds_toArray, List.set_cons_zero, List.set_cons_succ]
  refine wpAnyH_take (S := S) (i := 6) (oi := ⟨some 72, .load 24 (.tmp 71), _, _, _, none⟩) (v := rv) rfl (by kernel_rfl) (by kernel_rfl) (by kernel_rfl) (fun _ _ _ h => h) (Or.inl ⟨rfl, fun w' hs => exec_load 24 (.tmp 71) rfl ⟨W0, 1, none⟩ rfl (run_loadAt_one hs.2 Tryz.underlying24 rfl)⟩) hS ?_
  simp only [Act.put, List.setIfInBounds_toArray, List.set_cons_zero, List.set_cons_succ]
  refine wpAnyH_take (S := S) (i := 8) (oi := ⟨some 74, .fieldAddr 74 (.tmp 3) 2, _, _, _, none⟩) (v := .pointer (some ⟨O, 2, none⟩)) rfl (by kernel_rfl) (by kernel_rfl) (by kernel_rfl) (fun _ _ _ h => h) (Or.inl ⟨rfl, fun _ _ => by kernel_rfl⟩) hS ?_
  simp only [Act.put, List.setIfInBounds_toArray, List.set_cons_zero, List.set_cons_succ]
  refine wpAnyH_take (S := S) (i := 9) (oi := ⟨some 75, .load 3 (.tmp 74), _, _, _, none⟩) (v := .int .i64 a) rfl (by kernel_rfl) (by kernel_rfl) (by kernel_rfl) (fun _ _ _ h => h) (Or.inl ⟨rfl, fun w' hs => exec_load 3 (.tmp 74) rfl ⟨O, 2, none⟩ rfl (run_loadAt_one hs.1 Tryz.underlying3 rfl)⟩) hS ?_
  simp only [Act.put, List.setIfInBounds_toArray, List.set_cons_zero, List.set_cons_succ]
  refine wpAnyH_all (rs := [2]) (by kernel_rfl) (by simp) ?_
  intro i2 hi2
  obtain rfl : i2 = 2 := by simpa using hi2
  refine wpOp_call (o := ⟨some 68, .call { callee := .value (.func 39), args := #[.tmp 67], argTypes := _ }, _, _, _, none⟩) (f := 39) (args := #[.int .i64 a]) rfl rfl (by kernel_rfl) ?_
  refine (NewDisk_ok a W).mono ?_
  rintro e w2 ⟨A, B, rfl, hA, hB, hd2, hr2, hf2⟩
  refine ⟨_, rfl, hSf w2 hf2, ?_⟩
  simp only [Act.put, List.setIfInBounds_toArray, List.set_cons_zero, List.set_cons_succ]
  refine wpAnyH_all (rs := [7]) (by kernel_rfl) (by simp) ?_
  intro i7 hi7
  obtain rfl : i7 = 7 := by simpa using hi7
  refine wpOp_call (o := ⟨some 73, .call { callee := .value (.func 18), args := #[.tmp 72], argTypes := _ }, _, _, _, none⟩) (f := 18) (args := #[rv]) rfl rfl (by kernel_rfl) ?_
  refine (NewPartner_ok (hI.frz hf2).hr hI.ro (by omega)).mono ?_
  rintro e w3 ⟨Pp, lv, rfl, hP, hp3, hf3⟩
  have hf23 : Fr (fun _ => False) W w3 := hf2.trans hf3 (fun _ _ h => h)
  refine ⟨_, rfl, hSf w3 hf23, ?_⟩
  simp only [Act.put, List.setIfInBounds_toArray, List.set_cons_zero, List.set_cons_succ]
  refine wpAnyH_all (rs := [10]) (by kernel_rfl) (by simp) ?_
  intro i10 hi10
  obtain rfl : i10 = 10 := by simpa using hi10
  refine wpOp_call (o := ⟨some 76, .call { callee := .value (.func 79), args := #[.tmp 75], argTypes := _ }, _, _, _, none⟩) (f := 79) (args := #[.int .i64 a]) rfl rfl (by kernel_rfl) ?_
  refine (blocks_ok a w3).mono ?_
  rintro e w' ⟨rfl, rfl⟩
  have hS3 : S w' := hSf w' hf23
  refine ⟨_, rfl, hS3, ?_⟩
  simp only [Act.put, List.setIfInBounds_toArray, List.set_cons_zero, List.set_cons_succ]
  refine wpAnyH_take (S := S) (i := 11) (oi := ⟨some 77, .build 111 #[(0, .tmp 68), (1, .tmp 73), (2, .tmp 76), (3, .const (.bool true))], _, _, _, none⟩) (v := .agg (lc A Pp (nblk a) true (.pointer none) 0 0 (.slice none 0 0))) rfl (by kernel_rfl) (by kernel_rfl) (by kernel_rfl) (fun _ _ _ h => h) (Or.inl ⟨rfl, fun w' _ => exec_build 111 _ rfl #[(0, .pointer (some ⟨A, 0, none⟩)), (1, .pointer (some ⟨Pp, 0, none⟩)), (2, .int .i64 (nblk a)), (3, .bool true)] (by simp [Act.eval]) (build_disk A Pp (nblk a) w')⟩) hS3 ?_
  simp only [Act.put, List.setIfInBounds_toArray, List.set_cons_zero, List.set_cons_succ]
  refine wpAnyH_all (rs := [12]) (by kernel_rfl) (by simp) ?_
  intro i12 hi12
  obtain rfl : i12 = 12 := by simpa using hi12
  have hf4 : Fr (fun _ => False) W (w'.alloc (.cells (lc A Pp (nblk a) true (.pointer none) 0 0 (.slice none 0 0)) 111)) := hf23.alloc _
  have hS4 : S (w'.alloc (.cells (lc A Pp (nblk a) true (.pointer none) 0 0 (.slice none 0 0)) 111)) := hSf _ hf4
  refine wpOp_value (o := ⟨some 78, .box 111 (.tmp 77), _, _, _, none⟩) rfl rfl (exec_box 111 (.tmp 77) rfl rfl (box_disk A Pp (nblk a) w')) ⟨hS4, ?_⟩
  simp only [Act.put, List.setIfInBounds_toArray, List.set_cons_zero, List.set_cons_succ]
  refine wpAnyH_take (S := S) (i := 13) (oi := ⟨some 6, .assign (.tmp 78), _, _, _, none⟩) (v := .pointer (some ⟨w'.heap.size, 0, none⟩)) rfl (by kernel_rfl) (by kernel_rfl) (by kernel_rfl) (fun _ _ _ h => h) (Or.inl ⟨rfl, fun _ _ => rfl⟩) hS4 ?_
  simp only [Act.put, List.setIfInBounds_toArray, List.set_cons_zero, List.set_cons_succ]
  refine wpAnyH_done (by kernel_rfl) ?_ _
  obtain ⟨W5, HW5⟩ : ∃ W5, Hid (W5 = w'.alloc (.cells (lc A Pp (nblk a) true (.pointer none) 0 0 (.slice none 0 0)) 111)) := ⟨_, rfl⟩
  obtain ⟨D, HD⟩ : ∃ D, Hid (D = w'.heap.size) := ⟨_, rfl⟩
  have hl5 : LawAt W5 D A Pp (nblk a) true (.pointer none) 0 0 (.slice none 0 0) := by rw [HW5.out, HD.out]; exact heap_alloc_at _ _
  have hF35 : Fr (fun _ => False) w' W5 := by rw [HW5.out]; exact (Fr.refl _ _).alloc _
  have hF5 : Fr (fun _ => False) W W5 := hf23.trans hF35 (fun _ _ h => h)
  have hDl : W.heap.size ≤ D := by rw [HD.out]; exact hf23.size
  have hd5 := (hd2.fr hf3 id).fr hF35 id
  have hr5 : RowsAt W5 B (nblk a) (List.replicate (nblk a * 128) (.int .u8 0)) := ⟨hF35.keep (hf3.keep hr2.1 id) id, hr2.2⟩
  have hp5 := hF35.keep hp3 id
  have hq : DI G W5 b0 s ⟨D, A, B, Pp, nblk a, true, none, 0, 0, .slice none 0 0, [], fun _ => False⟩ :=
    ⟨hl5, ⟨none, 0, 0, _, _, _, hp5⟩, ⟨0, 0, _, hd5, hr5, by omega, by omega, by omega, by omega, G.new W5 A B Pp (nblk a)⟩, ⟨World.ownsRow_nil _ _ _ _, (fun r hr => absurd hr (by simp)), (fun r hr => absurd hr (by simp)), (fun r hr => absurd hr (by simp))⟩, Nat.zero_le _, (fun r hr => absurd hr (by simp)), List.Pairwise.nil, (fun b hb => hb.elim), ⟨by simp; omega, by simp; omega, by simp; omega, by have := hf2.size; simp; omega⟩, nblk_lt a⟩
  have hI5 := hI.frz hF5
  have hDs5 : ∀ q ∈ qs, DI G W5 b0 s q := fun q hq => (hDs q hq).fr hF5 (fun _ _ _ _ _ => id)
  have hap : ∀ p ∈ qs, Apart p ⟨D, A, B, Pp, nblk a, true, none, 0, 0, .slice none 0 0, [], fun _ => False⟩ := by
    intro p hp
    obtain ⟨_, _, _, hw1, hw2, _⟩ := (hDs p hp).d
    obtain ⟨_, _, _, _, _, _, hw3⟩ := (hDs p hp).p
    have l1 := lt_of_heap (hDs p hp).l
    have l2 : p.A < W.heap.size := lt_of_heap hw1
    have l3 : p.B < W.heap.size := lt_of_heap hw2.1
    have l4 := lt_of_heap hw3
    have l5 := hf2.size
    exact ⟨by simp; omega, by simp; omega, by simp; omega, by simp; omega, fun b _ h => h⟩
  have hB5 : Below b0 w W5 := (frz_below hFW hsz).trans (frz_below hF5 hbW)
  have hb5 : b0 ≤ W5.heap.size := Nat.le_trans hbW hF5.size
  have c3 := hI5.c3
  have hod := hI5.hd
  have hof := hI5.hf
  have hw5 := hI5.hw
  have HFin : Hid (∀ {wn wm : World} {gn cap gm cam : Nat}, wn.ownsRow b0 105 1 (.slice (some ⟨gn, 0, none⟩) (qs.length + 1) cap) (qs.length + 1) ((qs.map DR.D).map (fun D => Value.pointer (some ⟨D, 0, none⟩)) ++ [.pointer (some ⟨D, 0, none⟩)]) → (W5.alloc (.cells #[.pointer (some ⟨D, 0, none⟩)] 105)).grownBy wn dv.ownBlock →
      wm.ownsRow b0 4 1 (.slice (some ⟨gm, 0, none⟩) (qs.length + 1) cam) (qs.length + 1) (fxs ++ [.bool false]) → ((wn.setCell ⟨W0, 3, none⟩ (.slice (some ⟨gn, 0, none⟩) (qs.length + 1) cap)).alloc (.cells #[.bool false] 4)).grownBy wm fv.ownBlock →
      wm.cell? ⟨W0, 4, none⟩ = some fv ∧ wm.frozen? ⟨W0, 4, none⟩ = false ∧ Hid (OwnPost G w b0 W0 s (.returned (.bool true)) (wm.setCell ⟨W0, 4, none⟩ (.slice (some ⟨gm, 0, none⟩) (qs.length + 1) cam)))) := fun x1 x2 x3 x4 => Inv.disk (q := ⟨D, A, B, Pp, nblk a, true, none, 0, 0, .slice none 0 0, [], fun _ => False⟩) hI5 hk hr hsn hst hm hDs5 hPw hq hap hB5 hb5 x1 x2 x3 x4
  clear hq hI5 hDs5 hap hB5 hl5 hd5 hr5 hp5 hF35 hF5 hS hSf hS3 hS4 hf4 hd2 hr2 hf2 hf3 hf23 hp3 hI hDs hPw hO2 hOW hO0 hbox h
  rw [← HW5.out, ← HD.out]
  obtain ⟨ip, hpi0, hpz0, hpz1, hpz2⟩ := info_parts pdisk_info
  obtain ⟨ib, hbi0, hbz0, hbz1, hbz2⟩ := info_parts bool_info
  have afterA : ∀ (gn cap : Nat) (wn : World), (W5.alloc (.cells #[.pointer (some ⟨D, 0, none⟩)] 105)).grownBy wn dv.ownBlock → wn.cell? ⟨W0, 3, none⟩ = some dv ∧ wn.frozen? ⟨W0, 3, none⟩ = false ∧ wn.cell? ⟨W0, 4, none⟩ = some fv ∧
      Hid (((wn.setCell ⟨W0, 3, none⟩ (.slice (some ⟨gn, 0, none⟩) (qs.length + 1) cap)).alloc (.cells #[.bool false] 4)).ownsRow b0 4 1 fv qs.length fxs) ∧ b0 ≤ ((wn.setCell ⟨W0, 3, none⟩ (.slice (some ⟨gn, 0, none⟩) (qs.length + 1) cap)).alloc (.cells #[.bool false] 4)).heap.size := by
    intro gn cap wn hg1
    have hty : ∀ b c t, W5.heap[b]? = some (.cells c t (0, 0)) → dv.ownBlock = some b → t = 105 := by
      intro b c t hb hv
      rcases hod.2 with ⟨rfl, _⟩ | ⟨g, cap', cur, rfl, _, hg, _⟩
      · simp [Value.ownBlock] at hv
      · simp only [Value.ownBlock, Option.some.injEq] at hv
        subst hv
        rw [hb] at hg
        simp at hg
        exact hg.2
    have hF1 : Fr (fun b => dv.ownBlock = some b) W5 wn := (((Fr.refl _ _).alloc _)).grown hg1 (fun b _ h => h)
    have hWn : wn.heap[W0]? = some (.cells #[kv, rv, sv, dv, fv] 80 (0, 0)) := hF1.keep hw5 (fun hv => by have := hty _ _ _ hw5 hv; simp at this)
    refine ⟨by rw [cell_of_row wn W0 3 _ _ _ hWn]; rfl, frozen_of_row wn W0 3 _ _ hWn, by rw [cell_of_row wn W0 4 _ _ _ hWn]; rfl, ?_, ?_⟩
    · exact (own_set hWn (by decide) (own_fr hof hF1 (fun b c hb _ hv => by have := hty _ _ _ hb hv; simp at this))).alloc _
    · have := hF1.size; simp; omega
  have HA : Hid (∀ (gn cap : Nat) (wn : World), (W5.alloc (.cells #[.pointer (some ⟨D, 0, none⟩)] 105)).grownBy wn dv.ownBlock → wn.cell? ⟨W0, 3, none⟩ = some dv ∧ wn.frozen? ⟨W0, 3, none⟩ = false ∧ wn.cell? ⟨W0, 4, none⟩ = some fv ∧
      Hid (((wn.setCell ⟨W0, 3, none⟩ (.slice (some ⟨gn, 0, none⟩) (qs.length + 1) cap)).alloc (.cells #[.bool false] 4)).ownsRow b0 4 1 fv qs.length fxs) ∧ b0 ≤ ((wn.setCell ⟨W0, 3, none⟩ (.slice (some ⟨gn, 0, none⟩) (qs.length + 1) cap)).alloc (.cells #[.bool false] 4)).heap.size) := afterA
  have HD5 : Hid ((W5.alloc (.cells #[.pointer (some ⟨D, 0, none⟩)] 105)).ownsRow b0 105 1 dv qs.length ((qs.map DR.D).map (fun D => Value.pointer (some ⟨D, 0, none⟩)))) := hod.alloc _
  clear afterA hod hof hw5
  go_wp2_with (first
    | (at_builtin; refine wpList_append_lies _ rfl (.tmp 83) (.tmp 85) 77 rfl b0 105 ip (.pointer none) 1 8 Tryz.underlying77 hpi0 hpz0 hpz1 hpz2 rfl (by decide) dv qs.length ((qs.map DR.D).map (fun D => Value.pointer (some ⟨D, 0, none⟩))) rfl HD5.out ⟨W5.heap.size, 0, none⟩ 1 1 [.pointer (some ⟨D, 0, none⟩)] rfl rfl ?_ ?_ (by decide) ?_ ?_ ?_ _ rfl ?_; exact World.news_of_block (cs := #[.pointer (some ⟨D, 0, none⟩)]) (heap_alloc_at W5 _); (simp [Value.oneCell']); (unfold maxLen; omega); omega; (simp; omega); intro gn cap wn hon hgrow hat hlt; obtain ⟨a3, a3f, a4, HB1, HB2⟩ := HA.out gn cap wn hgrow)
    | (at_builtin; refine wpList_append_lies _ rfl (.tmp 93) (.tmp 94) 78 rfl b0 4 ib (.bool false) 1 1 Tryz.underlying78 hbi0 hbz0 hbz1 hbz2 rfl (by decide) fv qs.length fxs rfl HB1.out ⟨wn.heap.size, 0, none⟩ 1 1 [.bool false] rfl rfl ?_ ?_ (by decide) ?_ ?_ HB2 _ rfl ?_; exact World.news_of_block (cs := #[.bool false]) (by simpa using heap_alloc_at (wn.setCell ⟨W0, 3, none⟩ (.slice (some ⟨gn, 0, none⟩) (qs.length + 1) cap)) (.cells #[.bool false] 4)); (simp [Value.oneCell']); (unfold maxLen; omega); omega; intro gm cam wm hom hgm hatm hltm; obtain ⟨z1, z2, z3⟩ := HFin.out hon hgrow hom hgm))
  go_ret
  exact z3.out
end Go.Proofs.YteebjgfalllbjaaGreatDoor
namespace Go.Proofs.YteebjgfalllbjaaGreatDoor
open Go.RowKit
variable {G : Prg}

theorem owner_own {w : World} {b0 W0 s : Nat} {qs : List DR} (h : Inv G w b0 W0 s qs) (hs : s < 100000) (K X a b : Int) (S T : ByteArray) (h1 : 1 ≤ K) (h2 : K ≤ 6) :
    Calls Tryz.prog 49 #[.pointer (some ⟨W0, 0, none⟩), .agg (opv K X a b S T)] w fun e w' => OwnPost G w b0 W0 s e w' := by
  rcases (show K = 1 ∨ K = 2 ∨ K = 3 ∨ K = 4 ∨ K = 5 ∨ K = 6 by omega) with rfl | rfl | rfl | rfl | rfl | rfl
  · exact owner_keep h hs X a b S T
  · exact owner_none h X a b S T
  · exact owner_reply h hs X a b S T
  · exact owner_step h hs X a b S T
  · exact owner_clear h X a b S T
  · exact owner_disk h hs X a b S T

/-- The blocks that a step on a disk may turn. -/
def Foot (q : DR) (b : Nat) : Prop := b = q.D ∨ b = q.A ∨ b = q.B ∨ b = q.Pp ∨ q.F b
theorem Foot.ty {w : World} {b0 s : Nat} {q : DR} (h : DI G w b0 s q) {b : Nat} {c : Array Value} {t : TypeId} (hb : w.heap[b]? = some (.cells c t (0, 0))) (hS : Foot q b) : (t = 111 ∧ b = q.D) ∨ (t = 96 ∧ b = q.A) ∨ (t = 97 ∧ b = q.B) ∨ (t = 48 ∧ b = q.Pp) ∨ (q.F b ∧ EngT t) := by
  obtain ⟨calls, writes, bs, hd, hr, _⟩ := h.d
  have hd : DiskAt w q.A q.B q.n (.slice none 0 0) calls writes := hd
  have hr : RowsAt w q.B q.n bs := hr
  obtain ⟨_, _, _, _, _, _, hp⟩ := h.p
  rcases hS with rfl | rfl | rfl | rfl | hF
  · rw [h.l] at hb; simp at hb; exact .inl ⟨hb.2.symm, rfl⟩
  · rw [hd] at hb; simp at hb; exact .inr (.inl ⟨hb.2.symm, rfl⟩)
  · rw [hr.1] at hb; simp at hb; exact .inr (.inr (.inl ⟨hb.2.symm, rfl⟩))
  · rw [hp] at hb; simp at hb; exact .inr (.inr (.inr (.inl ⟨hb.2.symm, rfl⟩)))
  · obtain ⟨_, c', t', hc, ht⟩ := h.f b hF
    rw [hc] at hb; simp at hb
    exact .inr (.inr (.inr (.inr ⟨hF, hb.2 ▸ ht⟩)))
theorem Foot.lo {w : World} {b0 s : Nat} {q : DR} (h : DI G w b0 s q) {b : Nat} (hS : Foot q b) : b0 ≤ b := by
  rcases hS with rfl | rfl | rfl | rfl | hF
  · exact h.b.1
  · exact h.b.2.1
  · exact h.b.2.2.1
  · exact h.b.2.2.2
  · exact (h.f b hF).1
theorem Foot.apart {w : World} {b0 s : Nat} {p q : DR} (hq : DI G w b0 s q) (ha : Apart p q ∨ Apart q p) {b : Nat} {c : Array Value} {t : TypeId} (hb : w.heap[b]? = some (.cells c t (0, 0)))
    (ht : (t = 111 ∧ b = p.D) ∨ (t = 96 ∧ b = p.A) ∨ (t = 97 ∧ b = p.B) ∨ Rest p t b) : ¬ Foot q b := by
  intro hS
  have a1 : p.D ≠ q.D := by rcases ha with h | h; exact h.1; exact fun e => h.1 e.symm
  have a2 : p.A ≠ q.A := by rcases ha with h | h; exact h.2.1; exact fun e => h.2.1 e.symm
  have a3 : p.B ≠ q.B := by rcases ha with h | h; exact h.2.2.1; exact fun e => h.2.2.1 e.symm
  have a4 : p.Pp ≠ q.Pp := by rcases ha with h | h; exact h.2.2.2.1; exact fun e => h.2.2.2.1 e.symm
  have a5 : ∀ b, p.F b → ¬ q.F b := by rcases ha with h | h; exact h.2.2.2.2; exact fun b h1 h2 => h.2.2.2.2 b h2 h1
  have hty := Foot.ty hq hb hS
  unfold EngT at hty
  rcases ht with ⟨rfl, rfl⟩ | ⟨rfl, rfl⟩ | ⟨rfl, rfl⟩ | ⟨rfl, rfl⟩ | rfl | rfl | rfl | ⟨hF, hE⟩
  · simp at hty; exact a1 hty
  · simp at hty; exact a2 hty
  · simp at hty; exact a3 hty
  · simp at hty; exact a4 hty
  · simp at hty
  · simp at hty
  · simp at hty
  · unfold EngT at hE
    rcases hty with ⟨rfl, _⟩ | ⟨rfl, _⟩ | ⟨rfl, _⟩ | ⟨rfl, _⟩ | ⟨h2, _⟩
    · simp at hE
    · simp at hE
    · simp at hE
    · simp at hE
    · exact a5 b hF h2

/-- One disk of the script has turned, its own blocks alone. -/
theorem Inv.upd {w w' : World} {b0 W0 s : Nat} {qs : List DR} (h : Inv G w b0 W0 s qs) (i : Nat) (q q' : DR) (hi : qs[i]? = some q) (hq : q'.D = q.D ∧ q'.A = q.A ∧ q'.B = q.B ∧ q'.Pp = q.Pp) (hF : ∀ b, q'.F b → q.F b ∨ w.heap.size ≤ b) (hd : DI G w' b0 (s + 1) q') (hf : Fr (Foot q) w w') : Inv G w' b0 W0 (s + 1) (qs.set i q') ∧ Below b0 w w' := by
  have hsz := h.size
  obtain ⟨kv, rv, sv, dv, fv, k, r, st, kxs, rxs, sts, fxs, hI, hsn, hk, hr, hst, hm, hDs, hPw⟩ := h
  have hil : i < qs.length := (List.getElem?_eq_some_iff.1 hi).1
  have hiq : qs[i] = q := (List.getElem?_eq_some_iff.1 hi).2
  have hDq := hDs q (List.mem_of_getElem? hi)
  have hIw := hI.fr hf (fun b c t hb ht hS => by
    have hty := Foot.ty hDq hb hS
    unfold EngT at hty
    rcases ht with rfl | rfl | rfl | rfl | rfl <;> simp at hty)
  have hap : ∀ j (hj : j < qs.length), j ≠ i → Apart qs[j] q ∨ Apart q qs[j] := by
    intro j hj hji
    rw [List.pairwise_iff_getElem] at hPw
    rcases Nat.lt_or_gt_of_ne hji with hlt | hlt
    · left; have := hPw j i hj hil hlt; rwa [hiq] at this
    · right; have := hPw i j hil hj hlt; rwa [hiq] at this
  have hold : ∀ p ∈ qs, ∀ b, p.F b → b < w.heap.size := fun p hp b hb => by
    obtain ⟨_, c, t, hc, _⟩ := (hDs p hp).f b hb
    exact lt_of_heap hc
  have hA1 : ∀ p ∈ qs, Apart p q → Apart p q' := fun p hp ha => ⟨by rw [hq.1]; exact ha.1, by rw [hq.2.1]; exact ha.2.1, by rw [hq.2.2.1]; exact ha.2.2.1, by rw [hq.2.2.2]; exact ha.2.2.2.1, fun b hb hb' => by
    rcases hF b hb' with h | h
    · exact ha.2.2.2.2 b hb h
    · have := hold p hp b hb; omega⟩
  have hA2 : ∀ p ∈ qs, Apart q p → Apart q' p := fun p hp ha => ⟨by rw [hq.1]; exact ha.1, by rw [hq.2.1]; exact ha.2.1, by rw [hq.2.2.1]; exact ha.2.2.1, by rw [hq.2.2.2]; exact ha.2.2.2.1, fun b hb' hb => by
    rcases hF b hb' with h | h
    · exact ha.2.2.2.2 b h hb
    · have := hold p hp b hb; omega⟩
  refine ⟨⟨kv, rv, sv, dv, fv, k, r, st, kxs, rxs, sts, fxs, ?_, hsn, by omega, by omega, by omega, by simp; omega, ?_, ?_⟩, hf.below hsz (fun b hb => Foot.lo hDq hb)⟩
  · have em : (qs.set i q').map DR.D = qs.map DR.D := by
      rw [List.map_set, hq.1, ← hiq]
      apply List.ext_getElem?
      intro j
      rw [List.getElem?_set]
      split
      · rename_i e; subst e; simp [hil]
      · rfl
    rw [em, List.length_set]; exact hIw
  · intro p hp
    obtain ⟨j, hj, rfl⟩ := List.mem_iff_getElem.1 hp
    rw [List.length_set] at hj
    rw [List.getElem_set]
    split
    · exact hd
    · rename_i hij
      have hDj := hDs qs[j] (List.getElem_mem hj)
      exact (hDj.fr hf (fun b c t hb ht => Foot.apart hDq (hap j hj (fun e => hij e.symm)) hb ht)).mono (by omega)
  · rw [List.pairwise_iff_getElem] at hPw ⊢
    intro j1 j2 h1 h2 hlt
    rw [List.length_set] at h1 h2
    rw [List.getElem_set, List.getElem_set]
    have hp := hPw j1 j2 h1 h2 hlt
    split
    · rename_i e1
      split
      · omega
      · subst e1; rw [hiq] at hp; exact hA2 _ (List.getElem_mem h2) hp
    · split
      · rename_i e2; subst e2; rw [hiq] at hp; exact hA1 _ (List.getElem_mem h1) hp
      · exact hp
end Go.Proofs.YteebjgfalllbjaaGreatDoor
namespace Go.Proofs.YteebjgfalllbjaaGreatDoor
open Go.RowKit

def AS.zero (a : AS) : AS := ⟨a.id, a.st, a.S, 0, 0⟩
def AS.told (a : AS) : ST := ⟨a.id, a.S.1, a.S.2, a.st.length, a.tries, a.due⟩
def DK.shut (k : DK) : DK := ⟨k.A, k.B, k.Pp, k.n, k.nn, none, k.pause, k.clock, k.L, fun _ => False⟩
def DK.fmt (k : DK) : DK := ⟨k.A, k.B, k.Pp, k.n, false, none, 0, 0, [], fun _ => False⟩
def DK.opened (k : DK) (x : Option Addr) (p : Int) (F : Nat → Prop) : DK := ⟨k.A, k.B, k.Pp, k.n, false, x, p, 0, k.L.map AS.zero, F⟩
def DK.with (k : DK) (L : List AS) (F : Nat → Prop) : DK := ⟨k.A, k.B, k.Pp, k.n, k.nn, k.x, k.pause, k.clock, L, F⟩
/-- The engine's blocks are of its own types. -/
def FT (w : World) (lo : Nat) (F : Nat → Prop) : Prop := ∀ b, F b → lo ≤ b ∧ ∃ c t, w.heap[b]? = some (.cells c t (0, 0)) ∧ EngT t
/-- The sagas of a device are sagas, by rising ids. -/
def OkL (L : List AS) : Prop := L.Pairwise (fun a b => a.id < b.id) ∧ ∀ a ∈ L, a.S.1 ≠ 0 ∧ sagaOk a.id a.st = true
/-- A saga more. -/
def insA (a : AS) (L : List AS) : List AS := L.takeWhile (fun b => decide (b.id < a.id)) ++ a :: L.dropWhile (fun b => decide (b.id < a.id))
def StatA (L : List AS) (id : Int) (w : World) (e : Ending) (w' : World) : Prop := ∃ s v, e = .returned (.tuple #[.agg s.cs.toArray, v]) ∧ Fr (fun _ => False) w w' ∧ ((∃ a ∈ L, a.id = id ∧ s = a.told ∧ ErrAt w' v 0) ∨ ((∀ a ∈ L, a.id ≠ id) ∧ s = zST ∧ ErrAt w' v 9))
def needA (L : List AS) (k : Nat) : Nat := 4 + 2 * k + 2 + (L.map fun a => 2 * a.st.length + 2).sum
/-- What Submit answers, and what is there then. -/
def SubA (L : List AS) (id : Int) (st : List SS) (n : Nat) (k : Int) (L' : List AS) : Prop :=
  (sagaOk id st = false ∧ k = 1 ∧ L' = L) ∨ (sagaOk id st = true ∧ ∃ a ∈ L, a.id = id ∧ (k = if a.st = st then 0 else 2) ∧ L' = L) ∨
  (sagaOk id st = true ∧ (∀ a ∈ L, a.id ≠ id) ∧ ((k = 0 ∧ L' = insA ⟨id, st, (1, 1), 0, 0⟩ L) ∨ (k = 3 ∧ n < needA L st.length ∧ L' = L)))
/-- Format, Open and All answer as the document says, as long as nothing fails. -/
structure Good0 (G : Prg) : Prop where
  shut : ∀ {w : World} {k : DK} {bs : List Value}, G.Dev w k bs → G.Dev w k.shut bs
  fmt : ∀ {w : World} {s : Nat} {k : DK}, DevI G w s k → s < 90000 → k.n < 1000 → Calls Tryz.prog 40 #[.pointer (some ⟨k.A, 0, none⟩)] w fun e w' => FmtQ (fun w' => DevI G w' (s + 1) (if inB k.n then k.fmt else k.shut)) (fun b => b = k.A ∨ b = k.B) k.n w e w'
  opn : ∀ {w : World} {s : Nat} {k : DK} {calls writes : Int} (p : Int), DevI G w s k → DiskAt w k.A k.B k.n (.slice none 0 0) calls writes → s < 90000 → k.n < 1000 → OkL k.L → k.L.length ≤ s →
    Calls Tryz.prog 33 #[.pointer (some ⟨k.A, 0, none⟩), .int .i64 p, .pointer (some ⟨k.Pp, 0, none⟩)] w fun e w' => OpenQ (fun xo kk w' => if kk = 0 then ∃ F, FT w' w.heap.size F ∧ DevI G w' (s + 1) (k.opened xo p F) else DevI G w' (s + 1) k.shut) (fun b => b = k.A) k.A k.B k.n k.nn p writes w e w'
  all : ∀ {w : World} {s : Nat} {k : DK} {X : Addr} (most : Int), DevI G w s k → s < 90001 → k.x = some X → OkL k.L → k.L.length ≤ s → Calls Tryz.prog 35 #[.pointer (some X), .int .i64 most] w fun e w' => AllQ ((k.L.take most.toNat).map AS.told) w e w'
/-- .. and Submit and Status. -/
structure Good (G : Prg) : Prop extends Good0 G where
  sta : ∀ {w : World} {s : Nat} {k : DK} {X : Addr} (id : Int), DevI G w s k → s < 90001 → k.x = some X → OkL k.L → k.L.length ≤ s → Calls Tryz.prog 24 #[.pointer (some X), .int .i64 id] w fun e w' => StatA k.L id w e w'
  sub : ∀ {w : World} {s : Nat} {k : DK} {X : Addr} (id : Int) (st : List SS) (g : Nat), DevI G w s k → s < 90000 → k.n < 1000 → k.x = some X → OkL k.L → k.L.length ≤ s → st.length ≤ s → w.heap[g]? = some (.cells (scells (st ++ [bey, bey])).toArray 58 (0, 0)) →
    Calls Tryz.prog 21 #[.pointer (some X), .int .i64 id, .slice (some ⟨g, 0, none⟩) st.length (st.length + 2)] w fun e w' =>
      ∃ v kk L' F', e = .returned v ∧ ErrAt w' v kk ∧ SubA k.L id st k.n kk L' ∧ (∀ b, F' b → k.F b ∨ w.heap.size ≤ b) ∧ FT w' 0 F' ∧ DevI G w' (s + 1) (k.with L' F') ∧ Fr (fun b => b = k.A ∨ b = k.B ∨ k.F b) w w'
variable {G : Prg}
theorem DevI.fr {S : Nat → Prop} {w w' : World} {s : Nat} {k : DK} (h : DevI G w s k) (hf : Fr S w w') (hA : ¬ S k.A) (hB : ¬ S k.B) (hF : ∀ b, k.F b → ¬ S b) : DevI G w' s k := by
  obtain ⟨calls, writes, bs, h1, h2, h3, h4, h5, h6, h7⟩ := h
  exact ⟨calls, writes, bs, h1.fr hf hA, ⟨hf.keep h2.1 hB, h2.2⟩, h3, h4, h5, h6, G.fr h7 hf hF⟩
theorem DevI.mono {w : World} {s s' : Nat} {k : DK} (h : DevI G w s k) (hs : s ≤ s') : DevI G w s' k := by
  obtain ⟨calls, writes, bs, h1, h2, h3, h4, h5, h6, h7⟩ := h
  exact ⟨calls, writes, bs, h1, h2, h3, by omega, h5, by omega, h7⟩

/-- A step on a disk: what is known of it then. -/
def DPost (G : Prg) (w : World) (b0 s : Nat) (q : DR) (e : Ending) (w' : World) : Prop := e = .returned (.bool true) ∧ ∃ q', (q'.D = q.D ∧ q'.A = q.A ∧ q'.B = q.B ∧ q'.Pp = q.Pp) ∧ (∀ b, q'.F b → q.F b ∨ w.heap.size ≤ b) ∧ DI G w' b0 (s + 1) q' ∧ Fr (Foot q) w w'
theorem DI.ne {w : World} {b0 s : Nat} {q : DR} (h : DI G w b0 s q) : q.A ≠ q.D ∧ q.B ≠ q.D ∧ q.Pp ≠ q.D ∧ q.A ≠ q.B ∧ q.Pp ≠ q.A ∧ q.Pp ≠ q.B ∧ (∀ b, q.F b → b ≠ q.D ∧ b ≠ q.A ∧ b ≠ q.B ∧ b ≠ q.Pp) := by
  obtain ⟨calls, writes, bs, hd, hr, _⟩ := h.d
  have hd : DiskAt w q.A q.B q.n (.slice none 0 0) calls writes := hd
  have hr : RowsAt w q.B q.n bs := hr
  obtain ⟨_, _, _, _, _, _, hp⟩ := h.p
  refine ⟨?_, ?_, ?_, ?_, ?_, ?_, ?_⟩
  · intro e; have := h.l; rw [← e] at this; have := this.symm.trans hd; simp at this
  · intro e; have := h.l; rw [← e] at this; have := this.symm.trans hr.1; simp at this
  · intro e; have := h.l; rw [← e] at this; have := this.symm.trans hp; simp at this
  · intro e; rw [e] at hd; have := hd.symm.trans hr.1; simp at this
  · intro e; rw [e] at hp; have := hp.symm.trans hd; simp at this
  · intro e; rw [e] at hp; have := hp.symm.trans hr.1; simp at this
  · intro b hb
    obtain ⟨_, c, t, hc, ht⟩ := h.f b hb
    unfold EngT at ht
    refine ⟨?_, ?_, ?_, ?_⟩ <;> intro e <;> subst e
    · have := hc.symm.trans h.l; simp at this; rw [this.2] at ht; simp at ht
    · have := hc.symm.trans hd; simp at this; rw [this.2] at ht; simp at ht
    · have := hc.symm.trans hr.1; simp at this; rw [this.2] at ht; simp at ht
    · have := hc.symm.trans hp; simp at this; rw [this.2] at ht; simp at ht
/-- The script's lists lie in none of a disk's own blocks. -/
theorem DI.lists {w : World} {b0 s : Nat} {q : DR} (h : DI G w b0 s q) {S : Nat → Prop} (hS : ∀ b, b < w.heap.size → S b → Foot q b) : ∀ b c t, w.heap[b]? = some (.cells c t (0, 0)) → t = 223 ∨ t = 165 ∨ t = 220 → ¬ S b := by
  intro b c t hb ht hSb
  have hty := Foot.ty h hb (hS b (lt_of_heap hb) hSb)
  unfold EngT at hty
  rcases ht with rfl | rfl | rfl <;> simp at hty
set_option maxRecDepth 100000 in
theorem formatted_any (gd : Good0 G) {w : World} {b0 s : Nat} {q : DR} (h : DI G w b0 s q) (hs : s < 90000) (hG : GOk w) (hg : 0 < b0) : Calls Tryz.prog 52 #[.pointer (some ⟨q.D, 0, none⟩)] w fun e w' => DPost G w b0 s q e w' := by
  obtain ⟨nAD, nBD, nPD, nAB, nPA, nPB, nF⟩ := h.ne
  obtain ⟨calls, writes, bs, hd, hr, _⟩ := h.d
  have hd : DiskAt w q.A q.B q.n (.slice none 0 0) calls writes := hd
  have hr : RowsAt w q.B q.n bs := hr
  have hb := h.b
  refine (formatted_gen (Post := fun w' => DevI G w' (s + 1) (if inB q.n then q.k.fmt else q.k.shut) ∧ Fr (fun b => b = q.D ∨ b = q.A ∨ b = q.B) w w') (S := fun b => b = q.A ∨ b = q.B) h.l hd nAD hG (by omega) (by omega) (by rintro (e | e); exact nAD e.symm; exact nBD e.symm) (fun w1 hf1 => ?_)).mono ?_
  · have h1 : DevI G w1 s q.k := h.d.fr hf1 nAD nBD (fun b hb e => (nF b hb).1 e)
    refine (gd.fmt h1 hs h.n).mono ?_
    rintro e w' ⟨v, rfl, hv, hp, hf⟩
    exact ⟨v, rfl, hv, ⟨hp, (hf1.mono (fun _ _ h => .inl h)).trans (hf.mono (fun _ _ h => .inr h)) (fun b _ h => h)⟩, hf⟩
  · rintro e w' ⟨rfl, wS, ⟨hp, hfS⟩, hfD, hcase, hsz⟩
    obtain ⟨lo, lm, lcap, pe, pl, pa, hpp⟩ := h.p
    have hF3 : Fr (fun b => b = q.D ∨ b = q.A ∨ b = q.B) w w' := hfS.trans hfD (fun b _ h => .inl h)
    have hsub : ∀ b, b < w.heap.size → (b = q.D ∨ b = q.A ∨ b = q.B) → Foot q b := fun b _ h => by
      rcases h with h | h | h
      · exact .inl h
      · exact .inr (.inl h)
      · exact .inr (.inr (.inl h))
    have hFw : Fr (Foot q) w w' := hF3.mono hsub
    have hpart : w'.heap[q.Pp]? = some (.cells #[.slice lo lm lcap, pe, pl, pa] 48 (0, 0)) := hF3.keep hpp (by rintro (e | e | e); exact nPD e; exact nPA e; exact nPB e)
    rcases hcase with ⟨hi, hl⟩ | ⟨hi, hl⟩
    · rw [hi] at hp
      refine ⟨rfl, ⟨q.D, q.A, q.B, q.Pp, q.n, false, none, 0, 0, .slice none 0 0, [], fun _ => False⟩, ⟨rfl, rfl, rfl, rfl⟩, (fun b h => h.elim), ⟨hl, ⟨_, _, _, _, _, _, hpart⟩, ?_, ⟨World.ownsRow_nil _ _ _ _, (fun r hr => absurd hr (by simp)), (fun r hr => absurd hr (by simp)), (fun r hr => absurd hr (by simp))⟩, Nat.zero_le _, (fun r hr => absurd hr (by simp)), List.Pairwise.nil, (fun b hb => hb.elim), hb, h.n⟩, hFw⟩
      exact DevI.fr hp hfD nAD nBD (fun b h => h.elim)
    · rw [hi] at hp
      refine ⟨rfl, ⟨q.D, q.A, q.B, q.Pp, q.n, q.nn, none, q.pause, q.clock, q.Lv, q.L, fun _ => False⟩, ⟨rfl, rfl, rfl, rfl⟩, (fun b h => h.elim), ⟨hl, ⟨_, _, _, _, _, _, hpart⟩, ?_, ?_, Nat.le_succ_of_le h.ln, h.ls, h.lo, (fun b hb => hb.elim), hb, h.n⟩, hFw⟩
      · exact DevI.fr hp hfD nAD nBD (fun b h => h.elim)
      · exact h.a.fr hF3 (h.lists hsub)
end Go.Proofs.YteebjgfalllbjaaGreatDoor
