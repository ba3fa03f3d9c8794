import Derived.Test.YteebjgfalllbjaaGreatDoorCVsMbFo
import Derived.Test.YteebjgfalllbjaaGreatDoorCSeSuSa
namespace Go.Proofs.YteebjgfalllbjaaGreatDoor
open Go.RowKit
/-- A call is loaded whole. -/
theorem loadC {w : World} {g : Nat} {c : CL} {t : TypeId} (h : w.heap[g]? = some (.cells c.cs.toArray t (0, 0))) : (Instr.loadAt 50 (.pointer (some ⟨g, 0, none⟩))).run Tryz.prog w = .ok (.agg c.cs.toArray) w :=
  run_loadAt_mid w g 0 50 c.cs _ (fun j v hv => (cell_of_row w g (0 + j) _ _ _ h).trans (by simpa using hv)) Tryz.underlying50 rfl call_size
/-- An operation whose call panics. -/
theorem wpOp_panics {P : Program} {ops : Array Oper} {Q : Exit → Act → World → Prop} {a : Act} {w : World} {i : Nat} {o : Oper} {K : Act → World → Prop} {f : FuncId} {args : Array Value} (hi : ops[i]? = some o) (hgd : o.guard = none) (hr : (execOp a.eval o).run P w = .ok (.enter f args) w)
    (h : Calls P f args w fun e w2 => ∃ c, e = .panicked c ∧ Q (.panic c) a w2) : wpOp P ops Q i K a w := by
  unfold wpOp
  have hw : Region.wanted o (yielded ops a.tmps) = true := by simp [Region.wanted, hgd]
  simp only [hi, hw, if_true, Oper.wp, hr, Oper.upon]
  refine .inl (h.mono fun e w2 he => ?_)
  obtain ⟨c, rfl, hk⟩ := he
  exact hk
theorem reply1_idle (p : Addr) (w : World) :
    CallsD Tryz.prog 149 #[.pointer (some p)] .returning w fun e u' w' => e = .returned (.tuple #[]) ∧ u' = .returning ∧ w' = w := by
  refine callsD_of_wpS Tryz.func149 rfl fun c₀ cs hu => ?_
  apply wpS_seq
  apply wpS_region
  simp [wpOpsS, go_sem, recoverD, hu, Tryz.ntmps149, Exit.thenS]
  refine wpS_cond (t := false) (by simp [Act.eval, Array.replicate]) ?_
  simp only [Bool.false_eq_true, if_false]
  refine wpS_of_wp (wp_skip ?_)
  cases c₀
  simp_all [bodyPostS, results, Tryz.results149]
theorem reply1_panics (p : Addr) (x : Int) (u : TypeId) (pv : Value) (older : List PanicEntry) (w : World) (hc : w.cell? p = some (.int .i64 x)) (hz : w.frozen? p = false) :
    CallsD Tryz.prog 149 #[.pointer (some p)] (.panicking ({ v := .iface u pv, recovered := false } :: older)) w fun e u' w' =>
      e = .returned (.tuple #[]) ∧ u' = .panicking ({ v := .iface u pv, recovered := true } :: older) ∧ w' = w.setCell p (.int .i64 1) := by
  refine callsD_of_wpS Tryz.func149 rfl fun c₀ cs hu => ?_
  apply wpS_seq
  apply wpS_region
  simp [wpOpsS, go_sem, recoverD, hu, Tryz.ntmps149, Exit.thenS]
  refine wpS_cond (t := true) (by simp [Act.eval, Array.replicate]) ?_
  simp only [if_true]
  apply wpS_region
  simp [wpOpsS, go_sem, hc, hz, bodyPostS, results, Tryz.results149]
theorem leaves_tmps {P : Program} {fn : Func} {t1 t2 : Array Value} {R : Ending → World → Prop} (h : results fn t1 = results fn t2) : ∀ (ds : List Deferred) (u : FrameMode) (w : World), Leaves P fn t1 R ds u w = Leaves P fn t2 R ds u w := by
  intro ds
  induction ds with
  | nil => intro u w; cases u <;> simp only [Leaves, h]
  | cons d ds ih => intro u w; simp only [Leaves, ih]
theorem reply_put {R : Ending → World → Prop} {K : Act → World → Prop} {c : List PanicEntry} {a : Act} {w : World} {v : Value} (i : Nat) (hi : i ≠ 4) (h : Exit.then K (bodyPostD Tryz.prog Tryz.f104 R) (.panic c) (a.put (some i) v) w) : Exit.then K (bodyPostD Tryz.prog Tryz.f104 R) (.panic c) a w := by
  have e : results Tryz.f104 (a.tmps.setIfInBounds i v) = results Tryz.f104 a.tmps := by
    have : (a.tmps.setIfInBounds i v)[4]? = a.tmps[4]? := by rw [Array.getElem?_setIfInBounds, if_neg hi]
    simp only [results, Tryz.results104]
    simp [this]
  have h' : Leaves Tryz.prog Tryz.f104 (a.tmps.setIfInBounds i v) R a.defers (.panicking c) w := h
  rw [leaves_tmps e] at h'
  exact h'
theorem pFails1_ok (c : CL) (w : World) : Calls Tryz.prog 120 #[.agg c.cs.toArray] w fun e w' => ∃ pv, e = .panicked [{ v := .iface 9 pv, recovered := false }] ∧ Fr (fun _ => False) w w' := by
  obtain ⟨c1, c2, c3, c4⟩ := c
  unfold CL.cs
  go_enter Tryz.func120, Tryz.ntmps120
  go_wp2
  exact ⟨rfl, _, rfl, (Fr.refl _ _).alloc _⟩
section
variable {w : World} {X J R Pp : Nat} {clock pause : Int} {cv : Value}
set_option maxRecDepth 100000 in
set_option maxHeartbeats 4000000 in
theorem reply_ask (c : CL) (he : EngAt w X J R clock pause (.func (.func 47) #[.pointer (some ⟨Pp, 0, none⟩)] #[])) {F : Nat → Prop} {Q : Int → World → Prop} (HA : ∀ W, Fr (fun _ => False) w W → w.heap.size + 2 ≤ W.heap.size → Calls Tryz.prog 47 #[.pointer (some ⟨Pp, 0, none⟩), .agg c.cs.toArray] W fun e w' => ∃ k, e = .returned (.int .i64 k) ∧ Fr F W w' ∧ Q k w') (hFX : ¬ F X) (hFs : ∀ b, F b → b < w.heap.size) (HQ : ∀ k W W', Q k W → Fr (fun b => b = w.heap.size + 1) W W' → Q k W') : Calls Tryz.prog 104 #[.pointer (some ⟨X, 0, none⟩), .agg c.cs.toArray] w fun e w' => ∃ k, e = .returned (.int .i64 k) ∧ Fr F w w' ∧ Q k w' := by
  have hlift : Tryz.prog.follows .mixedOrders = true := by kernel_rfl
  have hmf : ∀ (fn : Fn) (first cap : Array Value) (w : World), (Instr.makeFunc fn first cap).run Tryz.prog w = .ok (.func fn first cap) w := fun _ _ _ _ => rfl
  obtain ⟨c1, c2, c3, c4⟩ := c
  simp only [CL.cs] at HA
  have hfa : Fr (fun _ => False) w ((w.alloc (.cells ([.int .i64 c1, .int .i64 c2, .bool c3, .string c4] : List Value).toArray 50)).alloc (.cells #[.int .i64 0] 3)) := ((Fr.refl _ _).alloc _).alloc _
  have hr0 : (((w.alloc (.cells ([.int .i64 c1, .int .i64 c2, .bool c3, .string c4] : List Value).toArray 50)).alloc (.cells #[.int .i64 0] 3))).heap[w.heap.size]? = some (.cells ([.int .i64 c1, .int .i64 c2, .bool c3, .string c4] : List Value).toArray 50 (0, 0)) := by
    rw [heap_alloc_lt _ _ _ (by simp)]; exact heap_alloc_at _ _
  have hr1 : (((w.alloc (.cells ([.int .i64 c1, .int .i64 c2, .bool c3, .string c4] : List Value).toArray 50)).alloc (.cells #[.int .i64 0] 3))).heap[w.heap.size + 1]? = some (.cells #[.int .i64 0] 3 (0, 0)) := heap_alloc2_new w _ _
  have HS : ∀ w', Fr (fun _ => False) ((w.alloc (.cells ([.int .i64 c1, .int .i64 c2, .bool c3, .string c4] : List Value).toArray 50)).alloc (.cells #[.int .i64 0] 3)) w' → EngAt w' X J R clock pause (.func (.func 47) #[.pointer (some ⟨Pp, 0, none⟩)] #[]) ∧ w'.heap[w.heap.size]? = some (.cells ([.int .i64 c1, .int .i64 c2, .bool c3, .string c4] : List Value).toArray 50 (0, 0)) := fun w' hf => ⟨hf.keep (hfa.keep he (fun h => h)) (fun h => h), hf.keep hr0 (fun h => h)⟩
  unfold CL.cs
  go_enter_defers Tryz.func104, Tryz.ntmps104
  go_wp2_with fail
  obtain ⟨W, HW⟩ : ∃ W, Hid (W = ((w.alloc (.cells ([.int .i64 c1, .int .i64 c2, .bool c3, .string c4] : List Value).toArray 50)).alloc (.cells #[.int .i64 0] 3)).drew) := ⟨_, rfl⟩
  have hfW : Fr (fun _ => False) ((w.alloc (.cells ([.int .i64 c1, .int .i64 c2, .bool c3, .string c4] : List Value).toArray 50)).alloc (.cells #[.int .i64 0] 3)) W := by rw [HW.out]; exact (Fr.refl _ _).drew
  let S : World → Prop := fun w' => EngAt w' X J R clock pause (.func (.func 47) #[.pointer (some ⟨Pp, 0, none⟩)] #[]) ∧ w'.heap[w.heap.size]? = some (.cells ([.int .i64 c1, .int .i64 c2, .bool c3, .string c4] : List Value).toArray 50 (0, 0))
  have hS : S W := HS W hfW
  refine wp_region_held (S := S) hlift ?_
  change wpAnyH _ _ _ _ S _ _ _ (World.drew _)
  rw [← HW.out]
  clear HW
  refine wpAnyH_take (S := S) (i := 0) (oi := ⟨some 6, .move (.tmp 0), _, _, _, none⟩) (v := .pointer (some ⟨X, 0, none⟩)) rfl (by kernel_rfl) (by kernel_rfl) (by kernel_rfl) (fun _ _ _ h => reply_put 6 (by decide) h) (Or.inl ⟨rfl, fun _ _ => rfl⟩) hS ?_
  simp only [Act.put, List.setIfInBounds_toArray, List.set_cons_zero, List.set_cons_succ]
  refine wpAnyH_take (S := S) (i := 1) (oi := ⟨some 7, .nilCheck (.tmp 6), _, _, _, none⟩) (v := .pointer (some ⟨X, 0, none⟩)) rfl (by kernel_rfl) (by kernel_rfl) (by kernel_rfl) (fun _ _ _ h => reply_put 7 (by decide) h) (Or.inl ⟨rfl, fun _ _ => by kernel_rfl⟩) hS ?_
  simp only [Act.put, List.setIfInBounds_toArray, List.set_cons_zero, List.set_cons_succ]
  refine wpAnyH_take (S := S) (i := 2) (oi := ⟨some 8, .fieldAddr 91 (.tmp 7) 5, _, _, _, none⟩) (v := .pointer (some ⟨X, 5, none⟩)) rfl (by kernel_rfl) (by kernel_rfl) (by kernel_rfl) (fun _ _ _ h => reply_put 8 (by decide) h) (Or.inl ⟨rfl, fun _ _ => by kernel_rfl⟩) hS ?_
  simp only [Act.put, List.setIfInBounds_toArray, List.set_cons_zero, List.set_cons_succ]
  refine wpAnyH_take (S := S) (i := 3) (oi := ⟨some 9, .load 89 (.tmp 8), _, _, _, none⟩) (v := (.func (.func 47) #[.pointer (some ⟨Pp, 0, none⟩)] #[])) rfl (by kernel_rfl) (by kernel_rfl) (by kernel_rfl) (fun _ _ _ h => reply_put 9 (by decide) h) (Or.inl ⟨rfl, fun w' hs => exec_load 89 (.tmp 8) rfl ⟨X, 5, none⟩ rfl (run_loadAt_one ((cell_of_row _ X 5 _ _ _ hs.1).trans rfl) Tryz.underlying89 rfl)⟩) hS ?_
  simp only [Act.put, List.setIfInBounds_toArray, List.set_cons_zero, List.set_cons_succ]
  refine wpAnyH_take (S := S) (i := 4) (oi := ⟨some 10, .load 50 (.tmp 3), _, _, _, none⟩) (v := .agg ([.int .i64 c1, .int .i64 c2, .bool c3, .string c4] : List Value).toArray) rfl (by kernel_rfl) (by kernel_rfl) (by kernel_rfl) (fun _ _ _ h => reply_put 10 (by decide) h) (Or.inl ⟨rfl, fun w' hs => exec_load 50 (.tmp 3) rfl ⟨w.heap.size, 0, none⟩ rfl (loadC (c := ⟨c1, c2, c3, c4⟩) hs.2)⟩) hS ?_
  simp only [Act.put, List.setIfInBounds_toArray, List.set_cons_zero, List.set_cons_succ]
  refine wpAnyH_all (rs := [5]) (by kernel_rfl) (by simp) ?_
  intro i5 hi5
  obtain rfl : i5 = 5 := by simpa using hi5
  refine wpOp_call (o := ⟨some 11, .call { callee := .value (.tmp 9), args := #[.tmp 10], argTypes := _ }, _, _, _, none⟩) (f := 47) (args := #[.pointer (some ⟨Pp, 0, none⟩), .agg ([.int .i64 c1, .int .i64 c2, .bool c3, .string c4] : List Value).toArray]) rfl rfl (by kernel_rfl) ?_
  refine (HA W (hfa.trans hfW (fun _ _ h => h)) (by have := hfW.size; simp at this; omega)).mono ?_
  rintro e1 w2 ⟨k, rfl, hf2, hQ⟩
  have nF0 : ¬ F w.heap.size := fun h => by have := hFs _ h; omega
  have nF1 : ¬ F (w.heap.size + 1) := fun h => by have := hFs _ h; omega
  have hS2 : S w2 := ⟨hf2.keep hS.1 hFX, hf2.keep hS.2 nF0⟩
  refine ⟨_, rfl, hS2, ?_⟩
  simp only [Act.put, List.setIfInBounds_toArray, List.set_cons_zero, List.set_cons_succ]
  refine wpAnyH_all (rs := [6]) (by kernel_rfl) (by simp) ?_
  intro i6 hi6
  obtain rfl : i6 = 6 := by simpa using hi6
  have hb2 := hf2.keep (hfW.keep hr1 (fun h => h)) nF1
  have hst := run_storeAt_one (P := Tryz.prog) (w := w2) (a := ⟨w.heap.size + 1, 0, none⟩) (t := 3) (v := .int .i64 k) ((cell_of_row _ _ 0 _ _ _ hb2).trans rfl) (frozen_of_row _ _ 0 _ _ hb2) (by kernel_rfl) rfl
  have hbE := heap_setCell_at w2 (w.heap.size + 1) 0 _ _ (.int .i64 k) hb2
  have hsE : Fr (fun b => b = w.heap.size + 1) w2 (w2.setCell ⟨w.heap.size + 1, 0, none⟩ (.int .i64 k)) := Fr.set1 _ _ _ _
  have hXl : X ≠ w.heap.size + 1 := by have := lt_of_heap he; omega
  have hSE : S (w2.setCell ⟨w.heap.size + 1, 0, none⟩ (.int .i64 k)) := ⟨hsE.keep hS2.1 hXl, hsE.keep hS2.2 (by omega)⟩
  refine wpOp_skip (o := ⟨none, .store 3 (.tmp 4) (.tmp 11), _, _, _, none⟩) (w' := w2.setCell ⟨w.heap.size + 1, 0, none⟩ (.int .i64 k)) rfl rfl (exec_store 3 _ _ rfl ⟨w.heap.size + 1, 0, none⟩ _ rfl rfl hst) ⟨hSE, ?_⟩
  simp only [Act.put]
  refine wpAnyH_done (by kernel_rfl) ?_ _
  have cE : (w2.setCell ⟨w.heap.size + 1, 0, none⟩ (.int .i64 k)).cell? ⟨w.heap.size + 1, 0, none⟩ = some (.int .i64 k) := (cell_of_row _ _ 0 _ _ _ hbE).trans rfl
  have HE : Hid (Fr F w (w2.setCell ⟨w.heap.size + 1, 0, none⟩ (.int .i64 k)) ∧ Q k (w2.setCell ⟨w.heap.size + 1, 0, none⟩ (.int .i64 k))) := ⟨((((hfa.trans hfW (fun _ _ h => h)).mono (fun _ _ h => h.elim)).trans hf2 (fun _ _ h => h))).setCell _ (fun h => by simp at h; omega) _, HQ k _ _ hQ hsE⟩
  clear hSE hsE hbE hst hb2 hS2 hQ hf2 hS hfW HS
  go_wp2
  refine leaves_cons (f := 149) (args := #[.pointer (some ⟨w.heap.size + 1, 0, none⟩)]) (by simp) (by simp [go_sem]) ?_
  refine (reply1_idle ⟨w.heap.size + 1, 0, none⟩ _).mono ?_
  rintro e1 u' w'' ⟨rfl, rfl, rfl⟩
  simp [Leaves, settle, results, Tryz.results104, go_sem, cE]
  exact HE.out
set_option maxRecDepth 100000 in
set_option maxHeartbeats 4000000 in
theorem reply_fails (c : CL) (he : EngAt w X J R clock pause (.func (.func 120) #[] #[])) : Calls Tryz.prog 104 #[.pointer (some ⟨X, 0, none⟩), .agg c.cs.toArray] w fun e w' => e = .returned (.int .i64 1) ∧ Fr (fun _ => False) w w' := by
  have hlift : Tryz.prog.follows .mixedOrders = true := by kernel_rfl
  have hmf : ∀ (fn : Fn) (first cap : Array Value) (w : World), (Instr.makeFunc fn first cap).run Tryz.prog w = .ok (.func fn first cap) w := fun _ _ _ _ => rfl
  obtain ⟨c1, c2, c3, c4⟩ := c
  have hfa : Fr (fun _ => False) w ((w.alloc (.cells ([.int .i64 c1, .int .i64 c2, .bool c3, .string c4] : List Value).toArray 50)).alloc (.cells #[.int .i64 0] 3)) := ((Fr.refl _ _).alloc _).alloc _
  have hr0 : (((w.alloc (.cells ([.int .i64 c1, .int .i64 c2, .bool c3, .string c4] : List Value).toArray 50)).alloc (.cells #[.int .i64 0] 3))).heap[w.heap.size]? = some (.cells ([.int .i64 c1, .int .i64 c2, .bool c3, .string c4] : List Value).toArray 50 (0, 0)) := by
    rw [heap_alloc_lt _ _ _ (by simp)]; exact heap_alloc_at _ _
  have hr1 : (((w.alloc (.cells ([.int .i64 c1, .int .i64 c2, .bool c3, .string c4] : List Value).toArray 50)).alloc (.cells #[.int .i64 0] 3))).heap[w.heap.size + 1]? = some (.cells #[.int .i64 0] 3 (0, 0)) := heap_alloc2_new w _ _
  have HS : ∀ w', Fr (fun _ => False) ((w.alloc (.cells ([.int .i64 c1, .int .i64 c2, .bool c3, .string c4] : List Value).toArray 50)).alloc (.cells #[.int .i64 0] 3)) w' → EngAt w' X J R clock pause (.func (.func 120) #[] #[]) ∧ w'.heap[w.heap.size]? = some (.cells ([.int .i64 c1, .int .i64 c2, .bool c3, .string c4] : List Value).toArray 50 (0, 0)) := fun w' hf => ⟨hf.keep (hfa.keep he (fun h => h)) (fun h => h), hf.keep hr0 (fun h => h)⟩
  unfold CL.cs
  go_enter_defers Tryz.func104, Tryz.ntmps104
  go_wp2_with fail
  obtain ⟨W, HW⟩ : ∃ W, Hid (W = ((w.alloc (.cells ([.int .i64 c1, .int .i64 c2, .bool c3, .string c4] : List Value).toArray 50)).alloc (.cells #[.int .i64 0] 3)).drew) := ⟨_, rfl⟩
  have hfW : Fr (fun _ => False) ((w.alloc (.cells ([.int .i64 c1, .int .i64 c2, .bool c3, .string c4] : List Value).toArray 50)).alloc (.cells #[.int .i64 0] 3)) W := by rw [HW.out]; exact (Fr.refl _ _).drew
  let S : World → Prop := fun w' => EngAt w' X J R clock pause (.func (.func 120) #[] #[]) ∧ w'.heap[w.heap.size]? = some (.cells ([.int .i64 c1, .int .i64 c2, .bool c3, .string c4] : List Value).toArray 50 (0, 0))
  have hS : S W := HS W hfW
  refine wp_region_held (S := S) hlift ?_
  change wpAnyH _ _ _ _ S _ _ _ (World.drew _)
  rw [← HW.out]
  clear HW
  refine wpAnyH_take (S := S) (i := 0) (oi := ⟨some 6, .move (.tmp 0), _, _, _, none⟩) (v := .pointer (some ⟨X, 0, none⟩)) rfl (by kernel_rfl) (by kernel_rfl) (by kernel_rfl) (fun _ _ _ h => reply_put 6 (by decide) h) (Or.inl ⟨rfl, fun _ _ => rfl⟩) hS ?_
  simp only [Act.put, List.setIfInBounds_toArray, List.set_cons_zero, List.set_cons_succ]
  refine wpAnyH_take (S := S) (i := 1) (oi := ⟨some 7, .nilCheck (.tmp 6), _, _, _, none⟩) (v := .pointer (some ⟨X, 0, none⟩)) rfl (by kernel_rfl) (by kernel_rfl) (by kernel_rfl) (fun _ _ _ h => reply_put 7 (by decide) h) (Or.inl ⟨rfl, fun _ _ => by kernel_rfl⟩) hS ?_
  simp only [Act.put, List.setIfInBounds_toArray, List.set_cons_zero, List.set_cons_succ]
  refine wpAnyH_take (S := S) (i := 2) (oi := ⟨some 8, .fieldAddr 91 (.tmp 7) 5, _, _, _, none⟩) (v := .pointer (some ⟨X, 5, none⟩)) rfl (by kernel_rfl) (by kernel_rfl) (by kernel_rfl) (fun _ _ _ h => reply_put 8 (by decide) h) (Or.inl ⟨rfl, fun _ _ => by kernel_rfl⟩) hS ?_
  simp only [Act.put, List.setIfInBounds_toArray, List.set_cons_zero, List.set_cons_succ]
  refine wpAnyH_take (S := S) (i := 3) (oi := ⟨some 9, .load 89 (.tmp 8), _, _, _, none⟩) (v := (.func (.func 120) #[] #[])) rfl (by kernel_rfl) (by kernel_rfl) (by kernel_rfl) (fun _ _ _ h => reply_put 9 (by decide) h) (Or.inl ⟨rfl, fun w' hs => exec_load 89 (.tmp 8) rfl ⟨X, 5, none⟩ rfl (run_loadAt_one ((cell_of_row _ X 5 _ _ _ hs.1).trans rfl) Tryz.underlying89 rfl)⟩) hS ?_
  simp only [Act.put, List.setIfInBounds_toArray, List.set_cons_zero, List.set_cons_succ]
  refine wpAnyH_take (S := S) (i := 4) (oi := ⟨some 10, .load 50 (.tmp 3), _, _, _, none⟩) (v := .agg ([.int .i64 c1, .int .i64 c2, .bool c3, .string c4] : List Value).toArray) rfl (by kernel_rfl) (by kernel_rfl) (by kernel_rfl) (fun _ _ _ h => reply_put 10 (by decide) h) (Or.inl ⟨rfl, fun w' hs => exec_load 50 (.tmp 3) rfl ⟨w.heap.size, 0, none⟩ rfl (loadC (c := ⟨c1, c2, c3, c4⟩) hs.2)⟩) hS ?_
  simp only [Act.put, List.setIfInBounds_toArray, List.set_cons_zero, List.set_cons_succ]
  refine wpAnyH_all (rs := [5]) (by kernel_rfl) (by simp) ?_
  intro i5 hi5
  obtain rfl : i5 = 5 := by simpa using hi5
  refine wpOp_panics (o := ⟨some 11, .call { callee := .value (.tmp 9), args := #[.tmp 10], argTypes := _ }, _, _, _, none⟩) (f := 120) (args := #[.agg ([.int .i64 c1, .int .i64 c2, .bool c3, .string c4] : List Value).toArray]) rfl rfl (by kernel_rfl) ?_
  refine (pFails1_ok ⟨c1, c2, c3, c4⟩ W).mono ?_
  rintro e1 w2 ⟨pv, rfl, hf2⟩
  refine ⟨_, rfl, ?_⟩
  have hb2 := hf2.keep (hfW.keep hr1 (fun h => h)) (fun h => h)
  have HF : Hid (Fr (fun _ => False) w w2) := (hfa.trans hfW (fun _ _ h => h)).trans hf2 (fun _ _ h => h)
  clear hS hfW HS hf2
  refine leaves_cons (f := 149) (args := #[.pointer (some ⟨w.heap.size + 1, 0, none⟩)]) (by simp) (by simp [go_sem]) ?_
  refine (reply1_panics ⟨w.heap.size + 1, 0, none⟩ 0 9 pv [] w2 ((cell_of_row _ _ 0 _ _ _ hb2).trans rfl) (frozen_of_row _ _ 0 _ _ hb2)).mono ?_
  rintro e1 u' w'' ⟨rfl, rfl, rfl⟩
  have cE : (w2.setCell ⟨w.heap.size + 1, 0, none⟩ (.int .i64 1)).cell? ⟨w.heap.size + 1, 0, none⟩ = some (.int .i64 1) := (cell_of_row _ _ 0 _ _ _ (heap_setCell_at w2 (w.heap.size + 1) 0 _ _ (.int .i64 1) hb2)).trans rfl
  simp [Leaves, settle, results, Tryz.results104, go_sem, cE]
  exact HF.out.setCell _ (fun h => by simp at h; omega) _
end
end Go.Proofs.YteebjgfalllbjaaGreatDoor
namespace Go.Proofs.YteebjgfalllbjaaGreatDoor
open Go.RowKit
set_option maxRecDepth 100000 in
theorem neq_call (c : CL) (w : World) : (binOp .neq 50 (.agg c.cs.toArray) (.agg c.cs.toArray)).run Tryz.prog w = .ok (.bool false) w := by
  obtain ⟨c1, c2, c3, c4⟩ := c
  unfold CL.cs
  go_simp
section
variable {w : World} {X J R V A B n base e : Nat} {room clock pause calls writes : Int} {ev cv : Value} {es : List (Nat × AS)} {s : Bool} {bs : List Value}
set_option maxRecDepth 100000 in
set_option maxHeartbeats 4000000 in
/-- ask, by what its calls do. -/
theorem ask_gen (c : CL) {P : World → Prop} {Q1 : World → Prop} {Q2 : Nat → World → Prop} {F1 F2 : Nat → Prop} (he : EngAt w X J R clock pause cv) (n1 : ∀ b, F1 b → b ≠ X ∧ b < w.heap.size) (n2 : ∀ b, F2 b → b ≠ X ∧ b < w.heap.size)
    (HSE : ∀ W, Fr (fun _ => False) w W → Calls Tryz.prog 91 #[.pointer (some ⟨J, 0, none⟩)] W fun e' w' => e' = .returned .nilIface ∧ Fr F1 W w' ∧ Q1 w')
    (HRE : ∀ W, Q1 W → EngAt W X J R clock pause cv → w.heap.size ≤ W.heap.size → Calls Tryz.prog 104 #[.pointer (some ⟨X, 0, none⟩), .agg c.cs.toArray] W fun e' w' => ∃ r : Nat, e' = .returned (.int .i64 r) ∧ Fr F2 W w' ∧ Q2 r w')
    (HR3 : ∀ (r : Nat) W, Q2 r W → RollAt W R base room ev es)
    (HNX : ∀ W, RollAt W R base room ev es → Calls Tryz.prog 65 #[.pointer (some ⟨R, 0, none⟩), .int .i64 c.saga, .int .i64 clock] W fun e' w' => ∃ t, e' = .returned (.tuple #[.agg c.cs.toArray, .bool t]) ∧ Fr (fun _ => False) W w')
    (HFO : ∀ (r : Nat) W W', Q2 r W → EngAt W' X J R clock pause cv → Fr (fun _ => False) W W' → Calls Tryz.prog 105 #[.pointer (some ⟨X, 0, none⟩), .agg #[.int .i64 c.saga, .int .i64 r]] W' fun e' w' => e' = .returned .nilIface ∧ P w') :
    Calls Tryz.prog 66 #[.pointer (some ⟨X, 0, none⟩), .agg c.cs.toArray] w fun e' w' => e' = .returned .nilIface ∧ P w' := by
  have hlift : Tryz.prog.follows .mixedOrders = true := by kernel_rfl
  have hneq := neq_call c
  have hfa : Fr (fun _ => False) w (w.alloc (.cells c.cs.toArray 50)) := (Fr.refl _ _).alloc _
  have hC0 := heap_alloc_at w (.cells c.cs.toArray 50)
  have hE0 : EngAt (w.alloc (.cells c.cs.toArray 50)) X J R clock pause cv := hfa.keep he (fun h => h)
  have x0 : (w.alloc (.cells c.cs.toArray 50)).cell? ⟨X, 0, none⟩ = some (.pointer (some ⟨J, 0, none⟩)) := (cell_of_row _ X 0 _ _ _ hE0).trans rfl
  go_enter Tryz.func66, Tryz.ntmps66
  go_wp2_with fail
  refine (HSE _ hfa).mono ?_
  rintro e1 w1 ⟨rfl, hf1, hq1⟩
  have hE1 : EngAt w1 X J R clock pause cv := hf1.keep hE0 (fun h => (n1 _ h).1 rfl)
  have hC1 := hf1.keep hC0 (fun h => by have := (n1 _ h).2; omega)
  have hsz1 : w.heap.size ≤ w1.heap.size := by have := lt_of_heap hC1; omega
  go_wp2_with fail
  refine (checked_nil ⟨X, 0, none⟩ w1).mono ?_
  rintro e1 w1' ⟨rfl, e7⟩
  rw [e7]
  clear e7 w1' hf1 hE0 x0 HSE
  have hrg : w1.rangeAt w.heap.size 0 c.cs := fun j v hv => (cell_of_row w1 _ (0 + j) _ _ _ hC1).trans (by simpa using hv)
  go_wp2_with (first | (refine wpList_load_mid rfl 50 (.tmp 3) rfl w.heap.size 0 ?_ _ _ hrg Tryz.underlying50 rfl ?_ ?_; rfl; exact call_size))
  refine (HRE w1 hq1 hE1 hsz1).mono ?_
  rintro e1 w3 ⟨r, rfl, hf3, hq3⟩
  have hE3 : EngAt w3 X J R clock pause cv := hf3.keep hE1 (fun h => (n2 _ h).1 rfl)
  have hC3 := hf3.keep hC1 (fun h => by have := (n2 _ h).2; omega)
  have x2 : w3.cell? ⟨X, 2, none⟩ = some (.bool false) := (cell_of_row _ X 2 _ _ _ hE3).trans rfl
  have h3 := HR3 r w3 hq3
  have HFO := fun W' hf => HFO r w3 W' hq3 (hf.keep hE3 (fun h => h)) hf
  clear hrg HRE HR3 hq1 hE1 hC1 hf3 hq3
  go_wp2_with fail
  obtain ⟨W, HW⟩ : ∃ W, Hid (W = w3.drew) := ⟨_, rfl⟩
  have hfW : Fr (fun _ => False) w3 W := by rw [HW.out]; exact (Fr.refl _ _).drew
  let S : World → Prop := fun w' => EngAt w' X J R clock pause cv ∧ w'.heap[w.heap.size]? = some (.cells c.cs.toArray 50 (0, 0))
  have hS : S W := ⟨hfW.keep hE3 (fun h => h), hfW.keep hC3 (fun h => h)⟩
  refine wp_region_held (S := S) hlift ?_
  change wpAnyH _ _ _ _ S _ _ _ (World.drew _)
  rw [← HW.out]
  clear HW
  refine wpAnyH_take (S := S) (i := 0) (oi := ⟨some 28, .move (.tmp 0), _, _, _, none⟩) (v := .pointer (some ⟨X, 0, none⟩)) rfl (by kernel_rfl) (by kernel_rfl) (by kernel_rfl) (fun _ _ _ h => h) (Or.inl ⟨rfl, fun _ _ => rfl⟩) hS ?_
  simp only [Act.put, List.setIfInBounds_toArray, List.set_cons_zero, List.set_cons_succ]
  refine wpAnyH_take (S := S) (i := 1) (oi := ⟨some 29, .nilCheck (.tmp 28), _, _, _, none⟩) (v := .pointer (some ⟨X, 0, none⟩)) rfl (by kernel_rfl) (by kernel_rfl) (by kernel_rfl) (fun _ _ _ h => h) (Or.inl ⟨rfl, fun _ _ => by kernel_rfl⟩) hS ?_
  simp only [Act.put, List.setIfInBounds_toArray, List.set_cons_zero, List.set_cons_succ]
  refine wpAnyH_take (S := S) (i := 2) (oi := ⟨some 30, .fieldAddr 91 (.tmp 29) 1, _, _, _, none⟩) (v := .pointer (some ⟨X, 1, none⟩)) rfl (by kernel_rfl) (by kernel_rfl) (by kernel_rfl) (fun _ _ _ h => h) (Or.inl ⟨rfl, fun _ _ => by kernel_rfl⟩) hS ?_
  simp only [Act.put, List.setIfInBounds_toArray, List.set_cons_zero, List.set_cons_succ]
  refine wpAnyH_take (S := S) (i := 3) (oi := ⟨some 31, .load 88 (.tmp 30), _, _, _, none⟩) (v := .pointer (some ⟨R, 0, none⟩)) rfl (by kernel_rfl) (by kernel_rfl) (by kernel_rfl) (fun _ _ _ h => h) (Or.inl ⟨rfl, fun w' hs => exec_load 88 (.tmp 30) rfl ⟨X, 1, none⟩ rfl (run_loadAt_one ((cell_of_row _ X 1 _ _ _ hs.1).trans rfl) Tryz.underlying88 rfl)⟩) hS ?_
  simp only [Act.put, List.setIfInBounds_toArray, List.set_cons_zero, List.set_cons_succ]
  refine wpAnyH_take (S := S) (i := 4) (oi := ⟨some 32, .fieldAddr 50 (.tmp 3) 0, _, _, _, none⟩) (v := .pointer (some ⟨w.heap.size, 0, none⟩)) rfl (by kernel_rfl) (by kernel_rfl) (by kernel_rfl) (fun _ _ _ h => h) (Or.inl ⟨rfl, fun _ _ => by kernel_rfl⟩) hS ?_
  simp only [Act.put, List.setIfInBounds_toArray, List.set_cons_zero, List.set_cons_succ]
  refine wpAnyH_take (S := S) (i := 5) (oi := ⟨some 33, .load 3 (.tmp 32), _, _, _, none⟩) (v := .int .i64 c.saga) rfl (by kernel_rfl) (by kernel_rfl) (by kernel_rfl) (fun _ _ _ h => h) (Or.inl ⟨rfl, fun w' hs => exec_load 3 (.tmp 32) rfl ⟨w.heap.size, 0, none⟩ rfl (run_loadAt_one ((cell_of_row _ w.heap.size 0 _ _ _ hs.2).trans rfl) Tryz.underlying3 rfl)⟩) hS ?_
  simp only [Act.put, List.setIfInBounds_toArray, List.set_cons_zero, List.set_cons_succ]
  refine wpAnyH_take (S := S) (i := 6) (oi := ⟨some 34, .move (.tmp 0), _, _, _, none⟩) (v := .pointer (some ⟨X, 0, none⟩)) rfl (by kernel_rfl) (by kernel_rfl) (by kernel_rfl) (fun _ _ _ h => h) (Or.inl ⟨rfl, fun _ _ => rfl⟩) hS ?_
  simp only [Act.put, List.setIfInBounds_toArray, List.set_cons_zero, List.set_cons_succ]
  refine wpAnyH_take (S := S) (i := 7) (oi := ⟨some 35, .nilCheck (.tmp 34), _, _, _, none⟩) (v := .pointer (some ⟨X, 0, none⟩)) rfl (by kernel_rfl) (by kernel_rfl) (by kernel_rfl) (fun _ _ _ h => h) (Or.inl ⟨rfl, fun _ _ => by kernel_rfl⟩) hS ?_
  simp only [Act.put, List.setIfInBounds_toArray, List.set_cons_zero, List.set_cons_succ]
  refine wpAnyH_take (S := S) (i := 8) (oi := ⟨some 36, .fieldAddr 91 (.tmp 35) 3, _, _, _, none⟩) (v := .pointer (some ⟨X, 3, none⟩)) rfl (by kernel_rfl) (by kernel_rfl) (by kernel_rfl) (fun _ _ _ h => h) (Or.inl ⟨rfl, fun _ _ => by kernel_rfl⟩) hS ?_
  simp only [Act.put, List.setIfInBounds_toArray, List.set_cons_zero, List.set_cons_succ]
  refine wpAnyH_take (S := S) (i := 9) (oi := ⟨some 37, .load 3 (.tmp 36), _, _, _, none⟩) (v := .int .i64 clock) rfl (by kernel_rfl) (by kernel_rfl) (by kernel_rfl) (fun _ _ _ h => h) (Or.inl ⟨rfl, fun w' hs => exec_load 3 (.tmp 36) rfl ⟨X, 3, none⟩ rfl (run_loadAt_one ((cell_of_row _ X 3 _ _ _ hs.1).trans rfl) Tryz.underlying3 rfl)⟩) hS ?_
  simp only [Act.put, List.setIfInBounds_toArray, List.set_cons_zero, List.set_cons_succ]
  refine wpAnyH_all (rs := [10, 14]) (by kernel_rfl) (by simp) ?_
  intro iq hiq
  have hqq : iq = 10 ∨ iq = 14 := by simpa using hiq
  rcases hqq with rfl | rfl
  · refine wpOp_call (o := ⟨some 38, .call { callee := .value (.func 65), args := #[(.tmp 31), (.tmp 33), (.tmp 37)], argTypes := _ }, _, _, _, none⟩) (f := 65) (args := #[.pointer (some ⟨R, 0, none⟩), .int .i64 c.saga, .int .i64 clock]) rfl rfl (by kernel_rfl) ?_
    refine (HNX W (h3.frz hfW)).mono ?_
    rintro e1 w4 ⟨t, rfl, hfw4⟩
    have hw4 : Fr (fun _ => False) w3 w4 := hfW.trans hfw4 (fun _ _ h => h)
    have hSw4 : S w4 := ⟨hw4.keep hE3 (fun h => h), hw4.keep hC3 (fun h => h)⟩
    refine ⟨_, rfl, hSw4, ?_⟩
    simp only [Act.put, List.setIfInBounds_toArray, List.set_cons_zero, List.set_cons_succ]
    refine wpAnyH_take (S := S) (i := 11) (oi := ⟨some 27, .move (.tmp 38), _, _, _, none⟩) (v := .tuple #[.agg c.cs.toArray, .bool t]) rfl (by kernel_rfl) (by kernel_rfl) (by kernel_rfl) (fun _ _ _ h => h) (Or.inl ⟨rfl, fun _ _ => rfl⟩) hSw4 ?_
    simp only [Act.put, List.setIfInBounds_toArray, List.set_cons_zero, List.set_cons_succ]
    refine wpAnyH_take (S := S) (i := 12) (oi := ⟨some 39, .extract (.tmp 27) 0, _, _, _, none⟩) (v := .agg c.cs.toArray) rfl (by kernel_rfl) (by kernel_rfl) (by kernel_rfl) (fun _ _ _ h => h) (Or.inl ⟨rfl, fun _ _ => rfl⟩) hSw4 ?_
    simp only [Act.put, List.setIfInBounds_toArray, List.set_cons_zero, List.set_cons_succ]
    refine wpAnyH_take (S := S) (i := 13) (oi := ⟨some 40, .extract (.tmp 27) 1, _, _, _, none⟩) (v := .bool t) rfl (by kernel_rfl) (by kernel_rfl) (by kernel_rfl) (fun _ _ _ h => h) (Or.inl ⟨rfl, fun _ _ => rfl⟩) hSw4 ?_
    simp only [Act.put, List.setIfInBounds_toArray, List.set_cons_zero, List.set_cons_succ]
    refine wpAnyH_all (rs := [14]) (by kernel_rfl) (by simp) ?_
    intro i14 hi14
    obtain rfl : i14 = 14 := by simpa using hi14
    obtain ⟨w5, HWw5⟩ : ∃ w5, Hid (w5 = w4.alloc (.cells ([.int .i64 0, .int .i64 0, .bool false, .string ⟨#[]⟩] : List Value).toArray 50)) := ⟨_, rfl⟩
    have hrw5 : w5.heap[w4.heap.size]? = some (.cells ([.int .i64 0, .int .i64 0, .bool false, .string ⟨#[]⟩] : List Value).toArray 50 (0, 0)) := by rw [HWw5.out]; exact heap_alloc_at _ _
    have hfw5 : Fr (fun _ => False) w4 w5 := by rw [HWw5.out]; exact (Fr.refl _ _).alloc _
    have hw5 : Fr (fun _ => False) w3 w5 := hw4.trans hfw5 (fun _ _ h => h)
    have hSw5 : S w5 := ⟨hw5.keep hE3 (fun h => h), hw5.keep hC3 (fun h => h)⟩
    refine wpOp_value (o := ⟨some 7, .alloc 50, _, _, _, none⟩) (v := .pointer (some ⟨w4.heap.size, 0, none⟩)) (w' := w5) rfl rfl (by rw [HWw5.out]; exact exec_alloc_call _ _ rfl _) ⟨hSw5, ?_⟩
    simp only [Act.put, List.setIfInBounds_toArray, List.set_cons_zero, List.set_cons_succ]
    refine wpAnyH_all (rs := [15]) (by kernel_rfl) (by simp) ?_
    intro i15 hi15
    obtain rfl : i15 = 15 := by simpa using hi15
    have hst := run_storeC c (hrw5) rfl
    have hRE := setRow_heap w5 w4.heap.size _ c.cs.toArray 50 (0, 0) (hrw5)
    have hge : w3.heap.size ≤ w4.heap.size := hw4.size
    have hFE : Fr (fun _ => False) w3 (w5.setRow w4.heap.size c.cs.toArray) := hw5.setRow _ (fun h => by omega) _
    have hSE : S (w5.setRow w4.heap.size c.cs.toArray) := ⟨hFE.keep hE3 (fun h => h), hFE.keep hC3 (fun h => h)⟩
    refine wpOp_skip (o := ⟨none, .store 50 (.tmp 7) (.tmp 39), _, _, _, none⟩) (w' := w5.setRow w4.heap.size c.cs.toArray) rfl rfl (exec_store 50 _ _ rfl ⟨w4.heap.size, 0, none⟩ _ rfl rfl hst) ⟨hSE, ?_⟩
    simp only [Act.put]
    refine wpAnyH_take (S := S) (i := 16) (oi := ⟨some 8, .assign (.tmp 40), _, _, _, none⟩) (v := .bool t) rfl (by kernel_rfl) (by kernel_rfl) (by kernel_rfl) (fun _ _ _ h => h) (Or.inl ⟨rfl, fun _ _ => rfl⟩) hSE ?_
    simp only [Act.put, List.setIfInBounds_toArray, List.set_cons_zero, List.set_cons_succ]
    refine wpAnyH_done (by kernel_rfl) ?_ _
    obtain ⟨WE, HWE⟩ : ∃ WE, Hid (WE = w5.setRow w4.heap.size c.cs.toArray) := ⟨_, rfl⟩
    have HH := HFO WE (by rw [HWE.out]; exact hFE)
    have hE9 : EngAt WE X J R clock pause cv := by rw [HWE.out]; exact hSE.1
    have hC9 : WE.heap[w.heap.size]? = some (.cells c.cs.toArray 50 (0, 0)) := by rw [HWE.out]; exact hSE.2
    have hrg1 : WE.rangeAt w.heap.size 0 c.cs := fun j v hv => (cell_of_row WE _ (0 + j) _ _ _ hC9).trans (by simpa using hv)
    have hrg2 : WE.rangeAt w4.heap.size 0 c.cs := fun j v hv => (cell_of_row WE _ (0 + j) _ _ _ (by rw [HWE.out]; exact hRE)).trans (by simpa using hv)
    have d0 : WE.cell? ⟨w.heap.size, 0, none⟩ = some (.int .i64 c.saga) := (cell_of_row _ _ 0 _ _ _ hC9).trans rfl
    rw [← HWE.out]
    clear HWE hRE hst hFE hSE hE9 HFO HNX
    go_wp2_with (first | (refine wpList_load_mid rfl 50 (.tmp 3) rfl w.heap.size 0 ?_ _ _ hrg1 Tryz.underlying50 rfl ?_ ?_; rfl; exact call_size) | (refine wpList_load_mid rfl 50 (.tmp 7) rfl w4.heap.size 0 ?_ _ _ hrg2 Tryz.underlying50 rfl ?_ ?_; rfl; exact call_size))
    refine HH.mono ?_
    rintro e1 w9 ⟨rfl, hq9⟩
    have HQ9 : Hid (P w9) := hq9
    clear hq9 HH
    go_wp2
    go_ret
    exact ⟨rfl, HQ9.out⟩
  · obtain ⟨w4, HWw4⟩ : ∃ w4, Hid (w4 = W.alloc (.cells ([.int .i64 0, .int .i64 0, .bool false, .string ⟨#[]⟩] : List Value).toArray 50)) := ⟨_, rfl⟩
    have hrw4 : w4.heap[W.heap.size]? = some (.cells ([.int .i64 0, .int .i64 0, .bool false, .string ⟨#[]⟩] : List Value).toArray 50 (0, 0)) := by rw [HWw4.out]; exact heap_alloc_at _ _
    have hfw4 : Fr (fun _ => False) W w4 := by rw [HWw4.out]; exact (Fr.refl _ _).alloc _
    have hw4 : Fr (fun _ => False) w3 w4 := hfW.trans hfw4 (fun _ _ h => h)
    have hSw4 : S w4 := ⟨hw4.keep hE3 (fun h => h), hw4.keep hC3 (fun h => h)⟩
    refine wpOp_value (o := ⟨some 7, .alloc 50, _, _, _, none⟩) (v := .pointer (some ⟨W.heap.size, 0, none⟩)) (w' := w4) rfl rfl (by rw [HWw4.out]; exact exec_alloc_call _ _ rfl _) ⟨hSw4, ?_⟩
    simp only [Act.put, List.setIfInBounds_toArray, List.set_cons_zero, List.set_cons_succ]
    refine wpAnyH_all (rs := [10]) (by kernel_rfl) (by simp) ?_
    intro i11 hi11
    obtain rfl : i11 = 10 := by simpa using hi11
    refine wpOp_call (o := ⟨some 38, .call { callee := .value (.func 65), args := #[(.tmp 31), (.tmp 33), (.tmp 37)], argTypes := _ }, _, _, _, none⟩) (f := 65) (args := #[.pointer (some ⟨R, 0, none⟩), .int .i64 c.saga, .int .i64 clock]) rfl rfl (by kernel_rfl) ?_
    refine (HNX w4 (h3.frz hw4)).mono ?_
    rintro e1 w5 ⟨t, rfl, hfw5⟩
    have hw5 : Fr (fun _ => False) w3 w5 := hw4.trans hfw5 (fun _ _ h => h)
    have hSw5 : S w5 := ⟨hw5.keep hE3 (fun h => h), hw5.keep hC3 (fun h => h)⟩
    refine ⟨_, rfl, hSw5, ?_⟩
    simp only [Act.put, List.setIfInBounds_toArray, List.set_cons_zero, List.set_cons_succ]
    refine wpAnyH_take (S := S) (i := 11) (oi := ⟨some 27, .move (.tmp 38), _, _, _, none⟩) (v := .tuple #[.agg c.cs.toArray, .bool t]) rfl (by kernel_rfl) (by kernel_rfl) (by kernel_rfl) (fun _ _ _ h => h) (Or.inl ⟨rfl, fun _ _ => rfl⟩) hSw5 ?_
    simp only [Act.put, List.setIfInBounds_toArray, List.set_cons_zero, List.set_cons_succ]
    refine wpAnyH_take (S := S) (i := 12) (oi := ⟨some 39, .extract (.tmp 27) 0, _, _, _, none⟩) (v := .agg c.cs.toArray) rfl (by kernel_rfl) (by kernel_rfl) (by kernel_rfl) (fun _ _ _ h => h) (Or.inl ⟨rfl, fun _ _ => rfl⟩) hSw5 ?_
    simp only [Act.put, List.setIfInBounds_toArray, List.set_cons_zero, List.set_cons_succ]
    refine wpAnyH_take (S := S) (i := 13) (oi := ⟨some 40, .extract (.tmp 27) 1, _, _, _, none⟩) (v := .bool t) rfl (by kernel_rfl) (by kernel_rfl) (by kernel_rfl) (fun _ _ _ h => h) (Or.inl ⟨rfl, fun _ _ => rfl⟩) hSw5 ?_
    simp only [Act.put, List.setIfInBounds_toArray, List.set_cons_zero, List.set_cons_succ]
    refine wpAnyH_all (rs := [15]) (by kernel_rfl) (by simp) ?_
    intro i15 hi15
    obtain rfl : i15 = 15 := by simpa using hi15
    have hst := run_storeC c (hfw5.keep hrw4 (fun h => h)) rfl
    have hRE := setRow_heap w5 W.heap.size _ c.cs.toArray 50 (0, 0) (hfw5.keep hrw4 (fun h => h))
    have hge : w3.heap.size ≤ W.heap.size := hfW.size
    have hFE : Fr (fun _ => False) w3 (w5.setRow W.heap.size c.cs.toArray) := hw5.setRow _ (fun h => by omega) _
    have hSE : S (w5.setRow W.heap.size c.cs.toArray) := ⟨hFE.keep hE3 (fun h => h), hFE.keep hC3 (fun h => h)⟩
    refine wpOp_skip (o := ⟨none, .store 50 (.tmp 7) (.tmp 39), _, _, _, none⟩) (w' := w5.setRow W.heap.size c.cs.toArray) rfl rfl (exec_store 50 _ _ rfl ⟨W.heap.size, 0, none⟩ _ rfl rfl hst) ⟨hSE, ?_⟩
    simp only [Act.put]
    refine wpAnyH_take (S := S) (i := 16) (oi := ⟨some 8, .assign (.tmp 40), _, _, _, none⟩) (v := .bool t) rfl (by kernel_rfl) (by kernel_rfl) (by kernel_rfl) (fun _ _ _ h => h) (Or.inl ⟨rfl, fun _ _ => rfl⟩) hSE ?_
    simp only [Act.put, List.setIfInBounds_toArray, List.set_cons_zero, List.set_cons_succ]
    refine wpAnyH_done (by kernel_rfl) ?_ _
    obtain ⟨WE, HWE⟩ : ∃ WE, Hid (WE = w5.setRow W.heap.size c.cs.toArray) := ⟨_, rfl⟩
    have HH := HFO WE (by rw [HWE.out]; exact hFE)
    have hE9 : EngAt WE X J R clock pause cv := by rw [HWE.out]; exact hSE.1
    have hC9 : WE.heap[w.heap.size]? = some (.cells c.cs.toArray 50 (0, 0)) := by rw [HWE.out]; exact hSE.2
    have hrg1 : WE.rangeAt w.heap.size 0 c.cs := fun j v hv => (cell_of_row WE _ (0 + j) _ _ _ hC9).trans (by simpa using hv)
    have hrg2 : WE.rangeAt W.heap.size 0 c.cs := fun j v hv => (cell_of_row WE _ (0 + j) _ _ _ (by rw [HWE.out]; exact hRE)).trans (by simpa using hv)
    have d0 : WE.cell? ⟨w.heap.size, 0, none⟩ = some (.int .i64 c.saga) := (cell_of_row _ _ 0 _ _ _ hC9).trans rfl
    rw [← HWE.out]
    clear HWE hRE hst hFE hSE hE9 HFO HNX
    go_wp2_with (first | (refine wpList_load_mid rfl 50 (.tmp 3) rfl w.heap.size 0 ?_ _ _ hrg1 Tryz.underlying50 rfl ?_ ?_; rfl; exact call_size) | (refine wpList_load_mid rfl 50 (.tmp 7) rfl W.heap.size 0 ?_ _ _ hrg2 Tryz.underlying50 rfl ?_ ?_; rfl; exact call_size))
    refine HH.mono ?_
    rintro e1 w9 ⟨rfl, hq9⟩
    have HQ9 : Hid (P w9) := hq9
    clear hq9 HH
    go_wp2
    go_ret
    exact ⟨rfl, HQ9.out⟩
end
end Go.Proofs.YteebjgfalllbjaaGreatDoor
namespace Go.Proofs.YteebjgfalllbjaaGreatDoor
open Go.RowKit
/-- A saga behind a reply. -/
def AS.after (a : AS) (r : Nat) (clock pause : Int) : AS := if a.moves r = true then a.go r else a.vain clock pause
/-- The record of a move. -/
def mvB (k r : Nat) : List Value := ldB 3 (bodyS k r [] 0) 4
/-- An engine: its block, its roll, its journal on its disk. -/
structure ES (w : World) (X J R V A B n base e : Nat) (room clock pause calls writes : Int) (ev cv : Value) (es : List (Nat × AS)) (s : Bool) (bs : List Value) : Prop where
  eng : EngAt w X J R clock pause cv
  roll : RollAt w R base room ev es
  jn : JnS w J V A B n calls writes e s bs
section
variable {w w' : World} {X J R V A B n base e : Nat} {room clock pause calls writes : Int} {ev cv : Value} {es : List (Nat × AS)} {s : Bool} {bs : List Value}
theorem ES.dis (h : ES w X J R V A B n base e room clock pause calls writes ev cv es s bs) : ∀ b, RollF R ev es b → b ≠ A ∧ b ≠ B ∧ b ≠ J ∧ b ≠ V ∧ b ≠ X := by
  intro b hb
  have nA := roll_ne h.roll h.jn.d (by decide)
  have nB := roll_ne h.roll h.jn.r.1 (by decide)
  have nJ := roll_ne h.roll h.jn.j (by decide)
  have nV := roll_ne h.roll h.jn.v (by decide)
  have nX := roll_ne h.roll h.eng (by decide)
  exact ⟨fun e => nA (e ▸ hb), fun e => nB (e ▸ hb), fun e => nJ (e ▸ hb), fun e => nV (e ▸ hb), fun e => nX (e ▸ hb)⟩
theorem ES.xne (h : ES w X J R V A B n base e room clock pause calls writes ev cv es s bs) : X ≠ A ∧ X ≠ B ∧ X ≠ J ∧ X ≠ V := by
  refine ⟨fun e => ?_, fun e => ?_, fun e => ?_, fun e => ?_⟩
  · have h1 := h.eng; unfold EngAt at h1; rw [e] at h1; have := h1.symm.trans h.jn.d; simp [dcells] at this
  · have h1 := h.eng; unfold EngAt at h1; rw [e] at h1; have := h1.symm.trans h.jn.r.1; simp at this
  · have h1 := h.eng; unfold EngAt at h1; rw [e] at h1; have := h1.symm.trans h.jn.j; simp at this
  · have h1 := h.eng; unfold EngAt at h1; rw [e] at h1; have := h1.symm.trans h.jn.v; simp at this
theorem ES.vne (h : ES w X J R V A B n base e room clock pause calls writes ev cv es s bs) : V ≠ A ∧ V ≠ B ∧ V ≠ J := by
  refine ⟨fun e => ?_, fun e => ?_, fun e => ?_⟩
  · have h1 := h.jn.v; unfold VolAt at h1; rw [e] at h1; have := h1.symm.trans h.jn.d; simp [dcells] at this
  · have h1 := h.jn.v; unfold VolAt at h1; rw [e] at h1; have := h1.symm.trans h.jn.r.1; simp at this
  · have h1 := h.jn.v; unfold VolAt at h1; rw [e] at h1; have := h1.symm.trans h.jn.j; simp at this
theorem JnS.fr {S : Nat → Prop} {e : Int} (h : JnS w J V A B n calls writes e s bs) (hf : Fr S w w') (hV : ¬ S V) (hA : ¬ S A) (hB : ¬ S B) (hJ : ¬ S J) : JnS w' J V A B n calls writes e s bs := ⟨h.v.fr hf hV, h.d.fr hf hA, ⟨hf.keep h.r.1 hB, h.r.2⟩, h.j.fr hf hJ⟩
theorem mapE_congr (hs : Sorted es) {p : Nat × AS} (hp : p ∈ es) {f g : AS → AS} (h : f p.2 = g p.2) : mapE es p.2.id f = mapE es p.2.id g := by
  refine List.map_congr_left fun q hq => ?_
  show (if q.2.id = p.2.id then (q.1, f q.2) else q) = (if q.2.id = p.2.id then (q.1, g q.2) else q)
  by_cases e : q.2.id = p.2.id
  · rw [if_pos e, if_pos e, sorted_uniq hs hq hp e, h]
  · rw [if_neg e, if_neg e]
theorem ask_ok (E : ES w X J R V A B n base e room clock pause calls writes ev cv es s bs) (hs : Sorted es) (hn : es.length ≤ 100000) {ck : Int} (hok : ∀ p ∈ es, p.2.Ok ck) (hck : ck ≤ 1000000) {p : Nat × AS} (hp : p ∈ es) (ho : p.2.open) {k : Nat} (hk : (k : Int) = p.2.id) (hk1 : k ≤ 1000)
    (h0 : 0 ≤ calls) (h1 : calls < 80000000) (h2 : 0 ≤ writes) (h3 : writes < 80000000) (hen : e < n) (hn4 : n ≤ 400) (hz : (bs.drop (e * 128)).take 128 = zB) (hp1 : 1 ≤ pause) (hp2 : pause ≤ 64) (hc0 : 0 ≤ clock) (hc1 : clock ≤ 1000000)
    {F : Nat → Prop} {Q : Nat → World → Prop} (hF : ∀ b, F b → b ≠ X ∧ b ≠ A ∧ b ≠ B ∧ b ≠ J ∧ b ≠ V ∧ ¬ RollF R ev es b ∧ b < w.heap.size)
    (HRE : ∀ W, Fr (fun b => b = A ∨ b = B ∨ b = J) w W → EngAt W X J R clock pause cv → Calls Tryz.prog 104 #[.pointer (some ⟨X, 0, none⟩), .agg p.2.asks.cs.toArray] W fun e' w' => ∃ r : Nat, e' = .returned (.int .i64 r) ∧ r ≤ 2 ∧ Fr F W w' ∧ Q r w')
    (HQ : ∀ (r : Nat) W W', Q r W → Fr (fun b => b = A ∨ b = B ∨ b = J ∨ b = p.1) W W' → Q r W') :
    Calls Tryz.prog 66 #[.pointer (some ⟨X, 0, none⟩), .agg p.2.asks.cs.toArray] w fun e' w' => e' = .returned .nilIface ∧ ∃ r : Nat, r ≤ 2 ∧ Q r w' ∧ ∃ calls' writes', calls ≤ calls' ∧ calls' ≤ calls + sx s + 2 ∧ writes ≤ writes' ∧ writes' ≤ writes + 3 ∧
      ES w' X J R V A B n base (if p.2.moves r = true then e + 1 else e) room clock pause calls' writes' ev cv (mapE es p.2.id (·.after r clock pause)) true (if p.2.moves r = true then splice bs (e * 128) (mvB k r) else bs) ∧ Fr (fun b => F b ∨ b = A ∨ b = B ∨ b = J ∨ b = p.1) w w' := by
  have hdis := E.dis
  have hx := E.xne
  have hv := E.vne
  have hsx := sx_le s
  have hpF : RollF R ev es p.1 := .inr (.inr ⟨p, hp, rfl⟩)
  have hpd := hdis _ hpF
  have hXl := lt_of_heap E.eng
  have hAl := lt_of_heap E.jn.d
  have hBl := lt_of_heap E.jn.r.1
  have hJl := lt_of_heap E.jn.j
  refine ask_gen (base := base) (room := room) (ev := ev) (es := es) p.2.asks (F1 := fun b => b = A ∨ b = B ∨ b = J) (F2 := F)
    (Q1 := fun W => (∃ calls' writes', calls ≤ calls' ∧ calls' ≤ calls + sx s ∧ writes ≤ writes' ∧ writes' ≤ writes + 1 ∧ JnS W J V A B n calls' writes' e true bs) ∧ Fr (fun b => b = A ∨ b = B ∨ b = J) w W)
    (Q2 := fun r W => r ≤ 2 ∧ Q r W ∧ (∃ calls' writes', calls ≤ calls' ∧ calls' ≤ calls + sx s ∧ writes ≤ writes' ∧ writes' ≤ writes + 1 ∧ JnS W J V A B n calls' writes' e true bs) ∧ RollAt W R base room ev es ∧ Fr (fun b => F b ∨ b = A ∨ b = B ∨ b = J) w W)
    E.eng (fun b h => by omega) (fun b h => ⟨(hF b h).1, (hF b h).2.2.2.2.2.2⟩) (fun W hf => ?_) (fun W hq hE hsz => ?_) (fun r W hq => hq.2.2.2.1) (fun W hR => ?_) (fun r W W' hq hE hf => ?_)
  · refine (Settle_sx (E.jn.frz hf) h0 (by omega) h2 (by omega) hen hz).mono ?_
    rintro e' w' ⟨rfl, hq, hf'⟩
    exact ⟨rfl, hf', hq, (hf.mono (fun _ _ h => h.elim)).trans hf' (fun _ _ h => h)⟩
  · obtain ⟨⟨c', v', q1, q2, q3, q4, q5⟩, hfW⟩ := hq
    refine (HRE W hfW hE).mono ?_
    rintro e' w' ⟨r, rfl, hr2, hf', hQ⟩
    have hRW : RollAt W R base room ev es := E.roll.fr hfW (fun b hb h => by have := hdis b hb; omega)
    refine ⟨r, rfl, hf', hr2, hQ, ⟨c', v', q1, q2, q3, q4, q5.fr hf' (fun h => (hF _ h).2.2.2.2.1 rfl) (fun h => (hF _ h).2.1 rfl) (fun h => (hF _ h).2.2.1 rfl) (fun h => (hF _ h).2.2.2.1 rfl)⟩, hRW.fr hf' (fun b hb h => (hF _ h).2.2.2.2.2.1 hb), (hfW.mono (fun _ _ h => .inr h)).trans hf' (fun _ _ h => .inl h)⟩
  · refine (rNext_ok hR hs hn hok p.2.id clock).mono ?_
    rintro e' w' ⟨hq, hf'⟩
    rcases hq with ⟨q, hq, hid, _, rfl⟩ | ⟨hno, _⟩
    · rw [sorted_uniq hs hq hp hid]
      exact ⟨_, rfl, hf'⟩
    · exact absurd ho (hno p hp rfl)
  · obtain ⟨hr2, hQ, ⟨c', v', q1, q2, q3, q4, q5⟩, hRW, hfW⟩ := hq
    have hR' := hRW.frz hf
    have q5' := q5.frz hf
    have hfW' : Fr (fun b => F b ∨ b = A ∨ b = B ∨ b = J) w W' := hfW.trans (hf.mono (fun _ _ h => h.elim)) (fun _ _ h => h)
    by_cases hm : p.2.moves r = true
    · refine (follow_go hE hR' hs hn hok hp r ho hm hr2 k hk hk1 q5' (by omega) (by omega) (by omega) (by omega) hen hn4 hz hdis).mono ?_
      rintro e' w' ⟨rfl, hR9, ⟨c9, v9, a1, a2, a3, a4, a5⟩, hf9⟩
      refine ⟨rfl, r, hr2, HQ r W w' hQ ((hf.mono (fun _ _ h => h.elim)).trans hf9 (fun _ _ h => h)), c9, v9, by omega, by simp [sx] at a2; omega, by omega, by omega, ⟨hf9.keep hE (by omega), ?_, ?_⟩, (hfW'.mono (fun _ _ h => by rcases h with h | h; exact .inl h; exact .inr (by omega))).trans hf9 (fun b _ h => .inr (by omega))⟩
      · have := mapE_congr hs hp (f := fun a => a.after r clock pause) (g := fun a => a.go r) (by simp [AS.after, hm])
        rw [this]; exact hR9
      · rw [if_pos hm, if_pos hm]; push_cast; exact a5
    · refine (follow_off hE hR' hs hn hok hck hp r (fun h => hm h.2) hp1 hp2 hc0 hc1 (by omega)).mono ?_
      rintro e' w' ⟨rfl, hR9, hf9⟩
      refine ⟨rfl, r, hr2, HQ r W w' hQ ((hf.mono (fun _ _ h => h.elim)).trans hf9 (fun _ _ h => .inr (.inr (.inr h)))), c', v', q1, by omega, q3, by omega, ⟨hf9.keep hE (by omega), ?_, ?_⟩, (hfW'.mono (fun _ _ h => by rcases h with h | h; exact .inl h; exact .inr (by omega))).trans hf9 (fun b _ h => .inr (by omega))⟩
      · have := mapE_congr hs hp (f := fun a => a.after r clock pause) (g := fun a => a.vain clock pause) (by simp [AS.after, hm])
        rw [this]; exact hR9
      · rw [if_neg hm, if_neg hm]
        exact q5'.fr hf9 (by omega) (by omega) (by omega) (by omega)
end
end Go.Proofs.YteebjgfalllbjaaGreatDoor
