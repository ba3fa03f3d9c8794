import Derived.Test.YteebjgfalllbjaaGreatDoorCOwnWiOk
namespace Go.Proofs.YteebjgfalllbjaaGreatDoor
open Go.RowKit
variable {G : Prg}

/-- A field of the script's world is set; what else is known stands. -/
theorem WI.setF {w : World} {b0 W0 : Nat} {kv rv sv dv fv : Value} {k r st m : Nat} {kxs rxs sxs : List Value} {ds : List Nat} {fxs : List Value} (h : WI w b0 W0 kv rv sv dv fv k r st m kxs rxs sxs ds fxs) (i : Nat) (v : Value) {kv' rv' sv' dv' fv' : Value} {k' r' st' m' : Nat} {kxs' rxs' sxs' : List Value} {ds' : List Nat} {fxs' : List Value}
    (e : (#[kv, rv, sv, dv, fv] : Array Value).setIfInBounds i v = #[kv', rv', sv', dv', fv'])
    (hk : w.ownsRow b0 3 1 kv' k' kxs') (hr : w.ownsRow b0 3 1 rv' r' rxs') (hs : w.ownsRow b0 165 2 sv' st' sxs') (hd : w.ownsRow b0 105 1 dv' m' (ds'.map fun D => Value.pointer (some ⟨D, 0, none⟩))) (hf : w.ownsRow b0 4 1 fv' m' fxs')
    (ne : ∀ b, kv'.ownBlock = some b → rv'.ownBlock ≠ some b) (ro : ∀ v ∈ rxs', v.oneCell' = true) (so : ∀ v ∈ sxs', v.oneCell' = true) :
    WI (w.setCell ⟨W0, i, none⟩ v) b0 W0 kv' rv' sv' dv' fv' k' r' st' m' kxs' rxs' sxs' ds' fxs' :=
  ⟨by rw [heap_setCell_at w W0 i _ _ _ h.hw, e], own_set h.hw (by decide) hk, own_set h.hw (by decide) hr, own_set h.hw (by decide) hs, own_set h.hw (by decide) hd, own_set h.hw (by decide) hf, ne, ro, so, h.w0⟩
theorem DI.setW {w : World} {b0 s W0 : Nat} {q : DR} {cs : Array Value} (h : DI G w b0 s q) (hw : w.heap[W0]? = some (.cells cs 80 (0, 0))) (i : Nat) (v : Value) : DI G (w.setCell ⟨W0, i, none⟩ v) b0 s q :=
  h.fr (Fr.set1 w W0 i v) (by
    rintro b c t hb ht rfl
    rw [hw] at hb
    simp at hb
    rcases ht with ⟨e, _⟩ | ⟨e, _⟩ | ⟨e, _⟩ | e
    · rw [e] at hb; exact absurd hb.2 (by decide)
    · rw [e] at hb; exact absurd hb.2 (by decide)
    · rw [e] at hb; exact absurd hb.2 (by decide)
    · exact e.ne.1 hb.2.symm)

set_option maxRecDepth 100000 in
set_option maxHeartbeats 1000000 in
theorem owner_none {w : World} {b0 W0 s : Nat} {qs : List DR} (h : Inv G w b0 W0 s qs) (X a b : Int) (S T : ByteArray) :
    Calls Tryz.prog 49 #[.pointer (some ⟨W0, 0, none⟩), .agg (opv 2 X a b S T)] w fun e w' => OwnPost G w b0 W0 s e w' := by
  have hsz := h.size
  have hF : Fr (fun _ => False) w (w.alloc (.cells (opv 2 X a b S T) 74)) := (Fr.refl _ _).alloc _
  obtain ⟨kv, rv, sv, dv, fv, k, r, st, kxs, rxs, sts, fxs, hI, hsn, hk, hr, hst, hm, hDs, hPw⟩ := h.frz hF (Nat.le_refl _)
  have hP : Hid (OwnPost G w b0 W0 s (.returned (.bool true)) ((w.alloc (.cells (opv 2 X a b S T) 74)).setCell ⟨W0, 0, none⟩ (.slice none 0 0))) := by
    refine ⟨qs, rfl, ⟨_, rv, sv, dv, fv, 0, r, st, [], rxs, sts, fxs, hI.setF 0 _ rfl (World.ownsRow_nil _ _ _ _) hI.hr hI.hs hI.hd hI.hf (fun b hb => by simp [Value.ownBlock] at hb) hI.ro hI.so, hsn, by omega, by omega, by omega, by omega, fun q hq => ((hDs q hq).setW hI.hw _ _).mono (by omega), ⟨hPw.pw, hPw.fx, hPw.rx, fun q hq b hb => ⟨fun e => by simp [Value.ownBlock] at e, (hPw.kr q hq b hb).2⟩⟩⟩, ?_⟩
    exact (frz_below hF hsz).setCell (p := ⟨W0, 0, none⟩) hI.w0 _
  have c0 := hI.c0
  have f0 := hI.fz 0
  clear hI hDs hPw h hF
  unfold opv at *
  go_enter Tryz.func49, Tryz.ntmps49
  go_wp2
  go_ret
  exact hP.out
set_option maxRecDepth 100000 in
set_option maxHeartbeats 1000000 in
theorem owner_clear {w : World} {b0 W0 s : Nat} {qs : List DR} (h : Inv G w b0 W0 s qs) (X a b : Int) (S T : ByteArray) :
    Calls Tryz.prog 49 #[.pointer (some ⟨W0, 0, none⟩), .agg (opv 5 X a b S T)] w fun e w' => OwnPost G w b0 W0 s e w' := by
  have hsz := h.size
  have hF : Fr (fun _ => False) w (w.alloc (.cells (opv 5 X a b S T) 74)) := (Fr.refl _ _).alloc _
  obtain ⟨kv, rv, sv, dv, fv, k, r, st, kxs, rxs, sts, fxs, hI, hsn, hk, hr, hst, hm, hDs, hPw⟩ := h.frz hF (Nat.le_refl _)
  have hP : Hid (OwnPost G w b0 W0 s (.returned (.bool true)) ((w.alloc (.cells (opv 5 X a b S T) 74)).setCell ⟨W0, 2, none⟩ (.slice none 0 0))) := by
    refine ⟨qs, rfl, ⟨kv, rv, _, dv, fv, k, r, 0, kxs, rxs, [], fxs, hI.setF 2 _ rfl hI.hk hI.hr (World.ownsRow_nil _ _ _ _) hI.hd hI.hf hI.ne hI.ro (fun v hv => by cases hv), rfl, by omega, by omega, by omega, by omega, fun q hq => ((hDs q hq).setW hI.hw _ _).mono (by omega), hPw⟩, ?_⟩
    exact (frz_below hF hsz).setCell (p := ⟨W0, 2, none⟩) hI.w0 _
  have c2 := hI.c2
  have f2 := hI.fz 2
  clear hI hDs hPw h hF
  unfold opv at *
  go_enter Tryz.func49, Tryz.ntmps49
  go_wp2
  go_ret
  exact hP.out

theorem own_base {w : World} {b b' e size n : Nat} {v : Value} {xs : List Value} (h : w.ownsRow b e size v n xs) (hb : b' ≤ b) : w.ownsRow b' e size v n xs := by
  refine ⟨h.1, ?_⟩
  rcases h.2 with hn | ⟨g, cap, cur, hv, hg, rest⟩
  · exact .inl hn
  · exact .inr ⟨g, cap, cur, hv, by omega, rest⟩
theorem own_form {w : World} {b e size n : Nat} {v : Value} {xs : List Value} (h : w.ownsRow b e size v n xs) : ∃ ao cc, v = .slice ao n cc := by
  rcases h.2 with ⟨rfl, rfl⟩ | ⟨g, cap, cur, rfl, _⟩
  · exact ⟨_, _, rfl⟩
  · exact ⟨_, _, rfl⟩
theorem step_info : (Tryz.prog.info? 165).map (fun i => (i.zero, i.size, i.bytes)) = some (some (.agg #[.string ⟨#[]⟩, .string ⟨#[]⟩]), 2, 32) := by kernel_rfl
set_option maxRecDepth 100000 in
set_option maxHeartbeats 2000000 in
theorem owner_step {w : World} {b0 W0 s : Nat} {qs : List DR} (h : Inv G w b0 W0 s qs) (hs : s < 100000) (X a b : Int) (S T : ByteArray) :
    Calls Tryz.prog 49 #[.pointer (some ⟨W0, 0, none⟩), .agg (opv 4 X a b S T)] w fun e w' => OwnPost G w b0 W0 s e w' := by
  have hsz := h.size
  obtain ⟨W, HW⟩ : ∃ W, Hid (W = w.alloc (.cells (opv 4 X a b S T) 74)) := ⟨_, rfl⟩
  have hF : Fr (fun _ => False) w W := by rw [HW.out]; exact (Fr.refl _ _).alloc _
  obtain ⟨O, HO⟩ : ∃ O, Hid (O = w.heap.size) := ⟨_, rfl⟩
  have hO : W.heap[O]? = some (.cells (opv 4 X a b S T) 74 (0, 0)) := by rw [HW.out, HO.out]; exact heap_alloc_at _ _
  obtain ⟨kv, rv, sv, dv, fv, k, r, st, kxs, rxs, sts, fxs, hI, hsn, hk, hr, hst, hm, hDs, hPw⟩ := h.frz hF (Nat.le_refl _)
  obtain ⟨sxs, HSX⟩ : ∃ sxs, Hid (sxs = scells sts) := ⟨_, rfl⟩
  rw [← HSX.out] at hI
  have hbW : b0 ≤ W.heap.size := Nat.le_trans hsz hF.size
  obtain ⟨inf, hi0, hz0, hz1, hz2⟩ := info_parts step_info
  -- behind the copy of the steps: v1 owns them, in w1
  have key : ∀ (v1 : Value) (w1 : World), w1.ownsRow b0 165 2 v1 st sxs → (∀ g, v1.ownBlock = some g → W.heap.size ≤ g) → Fr (fun _ => False) W w1 → ∀ (gn cap : Nat) (wn : World),
      wn.ownsRow b0 165 2 (.slice (some ⟨gn, 0, none⟩) (st + 1) cap) (st + 1) (sxs ++ [.string S, .string T]) → (w1.alloc (.cells #[.string S, .string T] 165)).grownBy wn v1.ownBlock →
      wn.cell? ⟨W0, 2, none⟩ = some sv ∧ wn.frozen? ⟨W0, 2, none⟩ = false ∧ Hid (OwnPost G w b0 W0 s (.returned (.bool true)) (wn.setCell ⟨W0, 2, none⟩ (.slice (some ⟨gn, 0, none⟩) (st + 1) cap))) := by
    intro v1 w1 ho1 hv1 hf1 gn cap wn hon hgrow
    have hfn : Fr (fun _ => False) W wn := (hf1.alloc _).grown hgrow (fun b hb e => by have := hv1 b e; omega)
    have hIn := hI.frz hfn
    refine ⟨hIn.c2, hIn.fz 2, qs, rfl, ⟨kv, rv, _, dv, fv, k, r, st + 1, kxs, rxs, sts ++ [(S, T)], fxs, hIn.setF 2 _ rfl hIn.hk hIn.hr (by rw [scells_append, ← HSX.out]; exact hon) hIn.hd hIn.hf hIn.ne hIn.ro ?_, by simp [hsn], by omega, by omega, by omega, by omega, fun q hq => (((hDs q hq).fr hfn (fun _ _ _ _ _ => id)).setW hIn.hw _ _).mono (by omega), hPw⟩, ?_⟩
    · intro v hv
      rw [scells_append, ← HSX.out] at hv
      rcases List.mem_append.1 hv with hv | hv
      · exact hI.so v hv
      · simp only [scells, stv, List.map_cons, List.map_nil, List.flatten_cons, List.flatten_nil, List.append_nil, List.mem_cons, List.not_mem_nil, or_false] at hv
        rcases hv with rfl | rfl <;> rfl
    · exact (((frz_below hF hsz).trans (frz_below hfn hbW))).setCell (p := ⟨W0, 2, none⟩) hI.w0 _
  have c2 := hI.c2
  have hso := hI.so
  have ho4 : ∀ w1, Fr (fun _ => False) W w1 → w1.cell? ⟨O, 4, none⟩ = some (.string S) ∧ w1.cell? ⟨O, 5, none⟩ = some (.string T) := fun w1 hf1 => ⟨hf1.cell (p := ⟨O, 4, none⟩) (by rw [cell_of_row W O 4 _ _ _ hO]; rfl) id, hf1.cell (p := ⟨O, 5, none⟩) (by rw [cell_of_row W O 5 _ _ _ hO]; rfl) id⟩
  have hOs := hI.hs
  have H4 : Hid (∀ w1, Fr (fun _ => False) W w1 → w1.cell? ⟨O, 4, none⟩ = some (.string S) ∧ w1.cell? ⟨O, 5, none⟩ = some (.string T)) := ho4
  have HOs : Hid (W.ownsRow b0 165 2 sv st sxs) := hOs
  clear hOs ho4 hI hDs hPw h hO
  have hbox : (Instr.box 74 (.agg (opv 4 X a b S T))).run Tryz.prog w = .ok (.pointer (some ⟨O, 0, none⟩)) W := by rw [HW.out, HO.out]; rfl
  have hO0 : W.cell? ⟨O, 0, none⟩ = some (.int .i64 4) := by rw [HW.out, HO.out, cell_of_row _ w.heap.size 0 _ _ _ (heap_alloc_at _ _)]; rfl
  have app2 : ∀ (v1 : Value) (w1 : World), w1.ownsRow W.heap.size 165 2 v1 st sxs → Fr (fun _ => False) W w1 → (w1.alloc (.cells #[.string S, .string T] 165)).ownsRow W.heap.size 165 2 v1 st sxs ∧ W.heap.size ≤ (w1.alloc (.cells #[.string S, .string T] 165)).heap.size := fun v1 w1 h1 hf1 => ⟨h1.alloc _, Nat.le_trans hf1.size (by simp)⟩
  have HA2 := app2
  clear app2
  unfold opv at *
  go_enter Tryz.func49, Tryz.ntmps49
  rcases HOs.out.2 with ⟨rfl, rfl⟩ | ⟨g, cap0, cur, rfl, hbg, hgg, hnc, hcm, hcs, ht⟩
  · have hx0 : sxs = [] := List.eq_nil_of_length_eq_zero (by simpa using HOs.out.1)
    subst hx0
    have o4 := (H4.out W (Fr.refl _ _)).1
    have o5 := (H4.out W (Fr.refl _ _)).2
    go_wp2_with (first
      | (refine wpList_box 74 (.tmp 1) (v := .pointer (some ⟨O, 0, none⟩)) (w' := W) rfl rfl ?_ ?_; exact hbox)
      | (at_builtin; refine wpList_append_lies _ rfl (.tmp 49) (.tmp 55) 76 rfl W.heap.size 165 inf (.agg #[.string ⟨#[]⟩, .string ⟨#[]⟩]) 2 32 Tryz.underlying76 hi0 hz0 hz1 hz2 rfl (by decide) (.slice none 0 0) 0 [] rfl (World.ownsRow_nil _ _ _ _) ⟨W.heap.size, 0, none⟩ 1 1 [.string S, .string T] rfl rfl ?_ ?_ (by decide) ?_ (by decide) ?_ _ rfl ?_; exact World.news_of_block (cs := #[.string S, .string T]) (heap_alloc_at W _); (simp [Value.oneCell']); (unfold maxLen; decide); (simp); intro gn cap wn hon hgrow hat hlt; obtain ⟨q1, q2, q3⟩ := key (.slice none 0 0) W (World.ownsRow_nil _ _ _ _) (fun g hg => by simp [Value.ownBlock] at hg) (Fr.refl _ _) gn cap wn (own_base hon hbW) hgrow))
    go_ret
    exact q3.out
  · have hc := HOs.out.cells (g := g) rfl
    have hlen := HOs.out.1
    go_wp2_with (first
      | (refine wpList_box 74 (.tmp 1) (v := .pointer (some ⟨O, 0, none⟩)) (w' := W) rfl rfl ?_ ?_; exact hbox)
      | (at_builtin; refine wpList_append_own W rfl (.tmp 42) (.tmp 46) 76 rfl W.heap.size 165 inf (.agg #[.string ⟨#[]⟩, .string ⟨#[]⟩]) 2 32 Tryz.underlying76 hi0 hz0 hz1 hz2 rfl (by decide) (.slice none 0 0) 0 [] rfl (World.ownsRow_nil _ _ _ _) ⟨g, 0, none⟩ st cap0 sxs rfl hlen hc hso ?_ ?_ (Nat.le_refl _) ?_; (unfold maxLen; omega); omega; intro v1 w1 hown1 hgrow1 _; simp only [Nat.zero_add, List.nil_append] at hown1; obtain ⟨ao, cc, rfl⟩ := own_form hown1; have hf1 : Fr (fun _ => False) W w1 := (Fr.refl _ _).grown hgrow1 (fun _ _ h => by cases h); have o4 := (H4.out w1 hf1).1; have o5 := (H4.out w1 hf1).2)
      | (at_builtin; refine wpList_append_lies _ rfl (.tmp 49) (.tmp 55) 76 rfl W.heap.size 165 inf (.agg #[.string ⟨#[]⟩, .string ⟨#[]⟩]) 2 32 Tryz.underlying76 hi0 hz0 hz1 hz2 rfl (by decide) (.slice ao st cc) st sxs rfl (HA2 _ _ hown1 hf1).1 ⟨w1.heap.size, 0, none⟩ 1 1 [.string S, .string T] rfl rfl ?_ ?_ (by decide) ?_ ?_ (HA2 _ _ hown1 hf1).2 _ rfl ?_; exact World.news_of_block (cs := #[.string S, .string T]) (heap_alloc_at w1 _); (simp [Value.oneCell']); (unfold maxLen; omega); omega; intro gn cap wn hon hgrow hat hlt; obtain ⟨q1, q2, q3⟩ := key (.slice ao st cc) w1 (own_base hown1 hbW) (fun g hg => (hown1.lt g hg).1) hf1 gn cap wn (own_base hon hbW) hgrow))
    go_ret
    exact q3.out
end Go.Proofs.YteebjgfalllbjaaGreatDoor
namespace Go.Proofs.YteebjgfalllbjaaGreatDoor
open Go.RowKit
variable {G : Prg}
theorem pdisk_info : (Tryz.prog.info? 105).map (fun i => (i.zero, i.size, i.bytes)) = some (some (.pointer none), 1, 8) := by kernel_rfl
theorem bool_info : (Tryz.prog.info? 4).map (fun i => (i.zero, i.size, i.bytes)) = some (some (.bool false), 1, 1) := by kernel_rfl
theorem build_disk (A Pp n : Nat) (w : World) : (Instr.build 111 #[(0, .pointer (some ⟨A, 0, none⟩)), (1, .pointer (some ⟨Pp, 0, none⟩)), (2, .int .i64 n), (3, .bool true)]).run Tryz.prog w = .ok (.agg (lc A Pp n true (.pointer none) 0 0 (.slice none 0 0))) w := by kernel_rfl
theorem box_disk (A Pp n : Nat) (w : World) : (Instr.box 111 (.agg (lc A Pp n true (.pointer none) 0 0 (.slice none 0 0)))).run Tryz.prog w = .ok (.pointer (some ⟨w.heap.size, 0, none⟩)) (w.alloc (.cells (lc A Pp n true (.pointer none) 0 0 (.slice none 0 0)) 111)) := rfl
section
variable {P : Program} {ρ : Operand → Value} {o : Oper} {w w' : World} {v : Value}
theorem exec_build (t : TypeId) (ps : Array (Nat × Operand)) (ho : o.op = .build t ps) (vs : Array (Nat × Value)) (hvs : (ps.map fun (i, x) => (i, ρ x)) = vs) (hr : (Instr.build t vs).run P w = .ok v w') : (execOp ρ o).run P w = .ok (.value v) w' := by
  simp only [execOp, ho, hvs, Sem.run_bind, hr, Result.andThen_ok, Sem.run_pure]
theorem exec_box (t : TypeId) (x : Operand) (ho : o.op = .box t x) {u : Value} (hx : ρ x = u) (hr : (Instr.box t u).run P w = .ok v w') : (execOp ρ o).run P w = .ok (.value v) w' := by
  simp only [execOp, ho, hx, Sem.run_bind, hr, Result.andThen_ok, Sem.run_pure]
end

/-- Two lists of the script's world grow by a disk: what is known then. -/
theorem Inv.disk {w w5 : World} {b0 W0 s : Nat} {kv rv sv dv fv : Value} {k r st : Nat} {kxs rxs fxs : List Value} {sts : List SS} {qs : List DR} {q : DR}
    (hI : WI w5 b0 W0 kv rv sv dv fv k r st qs.length kxs rxs (scells sts) (qs.map DR.D) fxs) (hk : k ≤ s) (hr : r ≤ s) (hsn : sts.length = st) (hst : st ≤ s) (hm : qs.length ≤ s) (hDs : ∀ q ∈ qs, DI G w5 b0 s q) (hPw : PwX kv rv rxs fxs qs (qs.map DR.fl)) (hq : DI G w5 b0 s q) (hqf : q.fl = false) (hqk : ∀ b, q.F b → kv.ownBlock ≠ some b ∧ rv.ownBlock ≠ some b) (hap : ∀ p ∈ qs, Apart p q) (hB : Below b0 w w5) (hb : b0 ≤ w5.heap.size)
    {wn wm : World} {gn cap gm cam : Nat}
    (hon : wn.ownsRow b0 105 1 (.slice (some ⟨gn, 0, none⟩) (qs.length + 1) cap) (qs.length + 1) ((qs.map DR.D).map (fun D => Value.pointer (some ⟨D, 0, none⟩)) ++ [.pointer (some ⟨q.D, 0, none⟩)])) (hg1 : (w5.alloc (.cells #[.pointer (some ⟨q.D, 0, none⟩)] 105)).grownBy wn dv.ownBlock)
    (hom : wm.ownsRow b0 4 1 (.slice (some ⟨gm, 0, none⟩) (qs.length + 1) cam) (qs.length + 1) (fxs ++ [.bool false])) (hg2 : ((wn.setCell ⟨W0, 3, none⟩ (.slice (some ⟨gn, 0, none⟩) (qs.length + 1) cap)).alloc (.cells #[.bool false] 4)).grownBy wm fv.ownBlock) :
    wm.cell? ⟨W0, 4, none⟩ = some fv ∧ wm.frozen? ⟨W0, 4, none⟩ = false ∧ Hid (OwnPost G w b0 W0 s (.returned (.bool true)) (wm.setCell ⟨W0, 4, none⟩ (.slice (some ⟨gm, 0, none⟩) (qs.length + 1) cam))) := by
  have own_ty : ∀ {w : World} {e size n : Nat} {v : Value} {xs : List Value}, w.ownsRow b0 e size v n xs → ∀ b c t, w.heap[b]? = some (.cells c t (0, 0)) → v.ownBlock = some b → t = e := by
    intro w e size n v xs h b c t hb hv
    rcases h.2 with ⟨rfl, _⟩ | ⟨g, cap', cur, rfl, _, hg, _⟩
    · simp [Value.ownBlock] at hv
    · simp only [Value.ownBlock, Option.some.injEq] at hv
      subst hv
      rw [hb] at hg
      simp at hg
      exact hg.2
  have hF1 : Fr (fun b => dv.ownBlock = some b) w5 wn := (((Fr.refl _ _).alloc _)).grown hg1 (fun b _ h => h)
  have hd_ty := own_ty hI.hd
  have hf_ty := own_ty hI.hf
  have ne1 : ∀ {e : Nat}, e ≠ 105 → ∀ b c, w5.heap[b]? = some (.cells c e (0, 0)) → ¬ dv.ownBlock = some b := fun he b c hb hv => he (hd_ty b c _ hb hv)
  have hWn : wn.heap[W0]? = some (.cells #[kv, rv, sv, dv, fv] 80 (0, 0)) := hF1.keep hI.hw (ne1 (by decide) _ _ hI.hw)
  have hIs : WI (wn.setCell ⟨W0, 3, none⟩ (.slice (some ⟨gn, 0, none⟩) (qs.length + 1) cap)) b0 W0 kv rv sv (.slice (some ⟨gn, 0, none⟩) (qs.length + 1) cap) fv k r st qs.length kxs rxs (scells sts) (qs.map DR.D) fxs → True := fun _ => trivial
  have hF2 : Fr (fun b => b = W0 ∨ dv.ownBlock = some b) w5 (wn.setCell ⟨W0, 3, none⟩ (.slice (some ⟨gn, 0, none⟩) (qs.length + 1) cap)) := Fr.setCell (S := fun b => b = W0 ∨ dv.ownBlock = some b) (hF1.mono (fun _ _ h => Or.inr h)) ⟨W0, 3, none⟩ (fun _ => Or.inl rfl) _
  have hF3 : Fr (fun b => b = W0 ∨ dv.ownBlock = some b ∨ fv.ownBlock = some b) w5 wm := Fr.grown (S := fun b => b = W0 ∨ dv.ownBlock = some b ∨ fv.ownBlock = some b) ((hF2.mono (fun b _ h => by rcases h with h | h; exact .inl h; exact .inr (.inl h))).alloc _) hg2 (fun b _ h => Or.inr (Or.inr h))
  have ne3 : ∀ {e : Nat}, e ≠ 105 → e ≠ 4 → e ≠ 80 → ∀ b c, w5.heap[b]? = some (.cells c e (0, 0)) → ¬ (b = W0 ∨ dv.ownBlock = some b ∨ fv.ownBlock = some b) := by
    rintro e he1 he2 he3 b c hb (rfl | hv | hv)
    · rw [hI.hw] at hb; simp at hb; exact he3 hb.2.symm
    · exact he1 (hd_ty b c _ hb hv)
    · exact he2 (hf_ty b c _ hb hv)
  have hWs : (wn.setCell ⟨W0, 3, none⟩ (.slice (some ⟨gn, 0, none⟩) (qs.length + 1) cap)).heap[W0]? = some (.cells #[kv, rv, sv, .slice (some ⟨gn, 0, none⟩) (qs.length + 1) cap, fv] 80 (0, 0)) := heap_setCell_at wn W0 3 _ _ _ hWn
  have hos : (wn.setCell ⟨W0, 3, none⟩ (.slice (some ⟨gn, 0, none⟩) (qs.length + 1) cap)).ownsRow b0 105 1 (.slice (some ⟨gn, 0, none⟩) (qs.length + 1) cap) (qs.length + 1) ((qs.map DR.D).map (fun D => Value.pointer (some ⟨D, 0, none⟩)) ++ [.pointer (some ⟨q.D, 0, none⟩)]) := own_set hWn (by decide) hon
  have hfs : (wn.setCell ⟨W0, 3, none⟩ (.slice (some ⟨gn, 0, none⟩) (qs.length + 1) cap)).ownsRow b0 4 1 fv qs.length fxs := own_fr hI.hf hF2 (by
    rintro b c hb hv (rfl | hd)
    · rw [hI.hw] at hb; simp at hb
    · have := hd_ty b c _ hb hd; simp at this)
  have hf_ty2 := own_ty hfs
  have hF4 : Fr (fun b => fv.ownBlock = some b) (wn.setCell ⟨W0, 3, none⟩ (.slice (some ⟨gn, 0, none⟩) (qs.length + 1) cap)) wm := Fr.grown (S := fun b => fv.ownBlock = some b) ((Fr.refl _ _).alloc _) hg2 (fun b _ h => h)
  have hWm : wm.heap[W0]? = some (.cells #[kv, rv, sv, .slice (some ⟨gn, 0, none⟩) (qs.length + 1) cap, fv] 80 (0, 0)) := hF4.keep hWs (fun hv => by have := hf_ty2 _ _ _ hWs hv; simp at this)
  have hdm : wm.ownsRow b0 105 1 (.slice (some ⟨gn, 0, none⟩) (qs.length + 1) cap) (qs.length + 1) ((qs.map DR.D).map (fun D => Value.pointer (some ⟨D, 0, none⟩)) ++ [.pointer (some ⟨q.D, 0, none⟩)]) := own_fr hos hF4 (fun b c hb _ hv => by have := hf_ty2 _ _ _ hb hv; simp at this)
  refine ⟨by rw [cell_of_row wm W0 4 _ _ _ hWm]; rfl, frozen_of_row wm W0 4 _ _ hWm, qs ++ [q], rfl, ⟨kv, rv, sv, .slice (some ⟨gn, 0, none⟩) (qs.length + 1) cap, .slice (some ⟨gm, 0, none⟩) (qs.length + 1) cam, k, r, st, kxs, rxs, sts, fxs ++ [.bool false], ?_, hsn, by omega, by omega, by omega, by simp; omega, ?_, ⟨?_, by rw [hPw.fx]; simp [hqf], hPw.rx, ?_⟩⟩, ?_⟩
  · have el : (qs ++ [q]).length = qs.length + 1 := by simp
    have em : (qs ++ [q]).map DR.D = qs.map DR.D ++ [q.D] := by simp
    rw [el, em]
    refine ⟨heap_setCell_at wm W0 4 _ _ _ hWm, own_set hWm (by decide) (own_fr hI.hk hF3 (fun b c hb _ => ne3 (by decide) (by decide) (by decide) b c hb)), own_set hWm (by decide) (own_fr hI.hr hF3 (fun b c hb _ => ne3 (by decide) (by decide) (by decide) b c hb)), own_set hWm (by decide) (own_fr hI.hs hF3 (fun b c hb _ => ne3 (by decide) (by decide) (by decide) b c hb)), ?_, own_set hWm (by decide) hom, hI.ne, hI.ro, hI.so, hI.w0⟩
    rw [List.map_append]
    exact own_set hWm (by decide) hdm
  · intro p hp
    have hp5 : DI G w5 b0 s p := by
      rcases List.mem_append.1 hp with hp | hp
      · exact hDs p hp
      · rw [List.mem_singleton.1 hp]; exact hq
    refine ((hp5.fr hF3 ?_).setW hWm _ _).mono (by omega)
    intro b c t hb ht
    rcases ht with ⟨rfl, _⟩ | ⟨rfl, _⟩ | ⟨rfl, _⟩ | ht
    · exact ne3 (by decide) (by decide) (by decide) b c hb
    · exact ne3 (by decide) (by decide) (by decide) b c hb
    · exact ne3 (by decide) (by decide) (by decide) b c hb
    · exact ne3 ht.ne.2.2.1 ht.ne.2.2.2.1 ht.ne.1 b c hb
  · rw [List.pairwise_append]
    exact ⟨hPw.pw, List.pairwise_singleton _ _, fun p hp q' hq' => by rw [List.mem_singleton.1 hq']; exact hap p hp⟩
  · intro p hp b hb
    rcases List.mem_append.1 hp with hp | hp
    · exact hPw.kr p hp b hb
    · rw [List.mem_singleton.1 hp] at hb; exact hqk b hb
  · refine (hB.trans (hF3.below hb ?_)).setCell (p := ⟨W0, 4, none⟩) hI.w0 _
    rintro b (rfl | hv | hv)
    · exact hI.w0
    · exact (hI.hd.lt b hv).1
    · exact (hI.hf.lt b hv).1

set_option maxRecDepth 100000 in
set_option maxHeartbeats 4000000 in
theorem owner_disk {w : World} {b0 W0 s : Nat} {qs : List DR} (h : Inv G w b0 W0 s qs) (hs : s < 100000) (X a b : Int) (S T : ByteArray) :
    Calls Tryz.prog 49 #[.pointer (some ⟨W0, 0, none⟩), .agg (opv 6 X a b S T)] w fun e w' => OwnPost G w b0 W0 s e w' := by
  have hsz := h.size
  obtain ⟨W1, HW1⟩ : ∃ W, Hid (W = w.alloc (.cells (opv 6 X a b S T) 74)) := ⟨_, rfl⟩
  obtain ⟨O, HO⟩ : ∃ O, Hid (O = w.heap.size) := ⟨_, rfl⟩
  have hbox : (Instr.box 74 (.agg (opv 6 X a b S T))).run Tryz.prog w = .ok (.pointer (some ⟨O, 0, none⟩)) W1 := by rw [HW1.out, HO.out]; rfl
  have hO0 : W1.cell? ⟨O, 0, none⟩ = some (.int .i64 6) := by rw [HW1.out, HO.out, cell_of_row _ w.heap.size 0 _ _ _ (heap_alloc_at _ _)]; rfl
  unfold opv at *
  go_enter Tryz.func49, Tryz.ntmps49
  go_wp2_with (first
    | (refine wpList_box 74 (.tmp 1) (v := .pointer (some ⟨O, 0, none⟩)) (w' := W1) rfl rfl ?_ ?_; exact hbox))
  have hlift : Tryz.prog.follows .mixedOrders = true := by kernel_rfl
  obtain ⟨W, HW⟩ : ∃ W, Hid (W = W1.drew) := ⟨_, rfl⟩
  have hFW : Fr (fun _ => False) w W := by rw [HW.out, HW1.out]; exact ((Fr.refl _ _).alloc _).drew
  obtain ⟨kv, rv, sv, dv, fv, k, r, st, kxs, rxs, sts, fxs, hI, hsn, hk, hr, hst, hm, hDs, hPw⟩ := h.frz hFW (Nat.le_refl _)
  have hOW : W.heap[O]? = some (.cells #[.int .i64 6, .int .i64 X, .int .i64 a, .int .i64 b, .string S, .string T] 74 (0, 0)) := by rw [HW.out, HW1.out, HO.out]; exact heap_alloc_at _ _
  have hO2 : W.cell? ⟨O, 2, none⟩ = some (.int .i64 a) := by rw [cell_of_row W O 2 _ _ _ hOW]; rfl
  have hbW : b0 ≤ W.heap.size := Nat.le_trans hsz hFW.size
  let S : World → Prop := fun w' => w'.cell? ⟨O, 2, none⟩ = some (.int .i64 a) ∧ w'.cell? ⟨W0, 1, none⟩ = some rv
  have hS : S W := ⟨hO2, hI.c1⟩
  have hSf : ∀ w', Fr (fun _ => False) W w' → S w' := fun w' hf => ⟨hf.cell hO2 id, hf.cell hI.c1 id⟩
  refine wp_region_held (S := S) hlift ?_
  change wpAnyH _ _ _ _ S _ _ _ (World.drew _)
  rw [← HW.out]
  refine tkE (S := S) (i := 0) (oi := ⟨some 66, .fieldAddr 74 (.tmp 3) 2, _, _, _, none⟩) (v := .pointer (some ⟨O, 2, none⟩)) rfl hS ?_
  simp only [Act.put, lsE, lsZ, lsS]
  refine tkY (S := S) (i := 1) (oi := ⟨some 67, .load 3 (.tmp 66), _, _, _, none⟩) (v := .int .i64 a) rfl (Or.inl ⟨rfl, fun w' hs => exec_load 3 (.tmp 66) rfl ⟨O, 2, none⟩ rfl (run_loadAt_one hs.1 Tryz.underlying3 rfl)⟩) hS ?_
  simp only [Act.put, lsE, lsZ, lsS]
  refine tkE (S := S) (i := 3) (oi := ⟨some 69, .move (.tmp 0), _, _, _, none⟩) (v := .pointer (some ⟨W0, 0, none⟩)) rfl hS ?_
  simp only [Act.put, lsE, lsZ, lsS]
  refine tkE (S := S) (i := 4) (oi := ⟨some 70, .nilCheck (.tmp 69), _, _, _, none⟩) (v := .pointer (some ⟨W0, 0, none⟩)) rfl hS ?_
  simp only [Act.put, lsE, lsZ, lsS]
  refine tkE (S := S) (i := 5) (oi := ⟨some 71, .fieldAddr 80 (.tmp 70) 1, _, _, _, none⟩) (v := .pointer (some ⟨W0, 1, none⟩)) rfl hS ?_
  simp only [Act.put, lsE, lsZ, lsS]
  refine tkY (S := S) (i := 6) (oi := ⟨some 72, .load 24 (.tmp 71), _, _, _, none⟩) (v := rv) rfl (Or.inl ⟨rfl, fun w' hs => exec_load 24 (.tmp 71) rfl ⟨W0, 1, none⟩ rfl (run_loadAt_one hs.2 Tryz.underlying24 rfl)⟩) hS ?_
  simp only [Act.put, lsE, lsZ, lsS]
  refine tkE (S := S) (i := 8) (oi := ⟨some 74, .fieldAddr 74 (.tmp 3) 2, _, _, _, none⟩) (v := .pointer (some ⟨O, 2, none⟩)) rfl hS ?_
  simp only [Act.put, lsE, lsZ, lsS]
  refine tkY (S := S) (i := 9) (oi := ⟨some 75, .load 3 (.tmp 74), _, _, _, none⟩) (v := .int .i64 a) rfl (Or.inl ⟨rfl, fun w' hs => exec_load 3 (.tmp 74) rfl ⟨O, 2, none⟩ rfl (run_loadAt_one hs.1 Tryz.underlying3 rfl)⟩) hS ?_
  simp only [Act.put, lsE, lsZ, lsS]
  refine wpAnyH_all (rs := [2]) (by kernel_rfl) (by simp) ?_
  intro i2 hi2
  obtain rfl : i2 = 2 := by simpa using hi2
  refine wpOp_call (o := ⟨some 68, .call { callee := .value (.func 39), args := #[.tmp 67], argTypes := _ }, _, _, _, none⟩) (f := 39) (args := #[.int .i64 a]) rfl rfl (by kernel_rfl) ?_
  refine (NewDisk_ok a W).mono ?_
  rintro e w2 ⟨A, B, rfl, hA, hB, hd2, hr2, hf2⟩
  refine ⟨_, rfl, hSf w2 hf2, ?_⟩
  simp only [Act.put, lsE, lsZ, lsS]
  refine wpAnyH_all (rs := [7]) (by kernel_rfl) (by simp) ?_
  intro i7 hi7
  obtain rfl : i7 = 7 := by simpa using hi7
  refine wpOp_call (o := ⟨some 73, .call { callee := .value (.func 18), args := #[.tmp 72], argTypes := _ }, _, _, _, none⟩) (f := 18) (args := #[rv]) rfl rfl (by kernel_rfl) ?_
  refine (NewPartner_ok (hI.frz hf2).hr hI.ro (by omega)).mono ?_
  rintro e w3 ⟨Pp, lv, rfl, hP, hp3, hlv3, hf3⟩
  have hf23 : Fr (fun _ => False) W w3 := hf2.trans hf3 (fun _ _ h => h)
  refine ⟨_, rfl, hSf w3 hf23, ?_⟩
  simp only [Act.put, lsE, lsZ, lsS]
  refine wpAnyH_all (rs := [10]) (by kernel_rfl) (by simp) ?_
  intro i10 hi10
  obtain rfl : i10 = 10 := by simpa using hi10
  refine wpOp_call (o := ⟨some 76, .call { callee := .value (.func 79), args := #[.tmp 75], argTypes := _ }, _, _, _, none⟩) (f := 79) (args := #[.int .i64 a]) rfl rfl (by kernel_rfl) ?_
  refine (blocks_ok a w3).mono ?_
  rintro e w' ⟨rfl, rfl⟩
  have hS3 : S w' := hSf w' hf23
  refine ⟨_, rfl, hS3, ?_⟩
  simp only [Act.put, lsE, lsZ, lsS]
  refine tkY (S := S) (i := 11) (oi := ⟨some 77, .build 111 #[(0, .tmp 68), (1, .tmp 73), (2, .tmp 76), (3, .const (.bool true))], _, _, _, none⟩) (v := .agg (lc A Pp (nblk a) true (.pointer none) 0 0 (.slice none 0 0))) rfl (Or.inl ⟨rfl, fun w' _ => exec_build 111 _ rfl #[(0, .pointer (some ⟨A, 0, none⟩)), (1, .pointer (some ⟨Pp, 0, none⟩)), (2, .int .i64 (nblk a)), (3, .bool true)] (by simp [Act.eval]) (build_disk A Pp (nblk a) w')⟩) hS3 ?_
  simp only [Act.put, lsE, lsZ, lsS]
  refine wpAnyH_all (rs := [12]) (by kernel_rfl) (by simp) ?_
  intro i12 hi12
  obtain rfl : i12 = 12 := by simpa using hi12
  have hf4 : Fr (fun _ => False) W (w'.alloc (.cells (lc A Pp (nblk a) true (.pointer none) 0 0 (.slice none 0 0)) 111)) := hf23.alloc _
  have hS4 : S (w'.alloc (.cells (lc A Pp (nblk a) true (.pointer none) 0 0 (.slice none 0 0)) 111)) := hSf _ hf4
  refine wpOp_value (o := ⟨some 78, .box 111 (.tmp 77), _, _, _, none⟩) rfl rfl (exec_box 111 (.tmp 77) rfl rfl (box_disk A Pp (nblk a) w')) ⟨hS4, ?_⟩
  simp only [Act.put, lsE, lsZ, lsS]
  refine tkE (S := S) (i := 13) (oi := ⟨some 6, .assign (.tmp 78), _, _, _, none⟩) (v := .pointer (some ⟨w'.heap.size, 0, none⟩)) rfl hS4 ?_
  simp only [Act.put, lsE, lsZ, lsS]
  refine wpAnyH_done (by kernel_rfl) ?_ _
  obtain ⟨W5, HW5⟩ : ∃ W5, Hid (W5 = w'.alloc (.cells (lc A Pp (nblk a) true (.pointer none) 0 0 (.slice none 0 0)) 111)) := ⟨_, rfl⟩
  obtain ⟨D, HD⟩ : ∃ D, Hid (D = w'.heap.size) := ⟨_, rfl⟩
  have hl5 : LawAt W5 D A Pp (nblk a) true (.pointer none) 0 0 (.slice none 0 0) := by rw [HW5.out, HD.out]; exact heap_alloc_at _ _
  have hF35 : Fr (fun _ => False) w' W5 := by rw [HW5.out]; exact (Fr.refl _ _).alloc _
  have hF5 : Fr (fun _ => False) W W5 := hf23.trans hF35 (fun _ _ h => h)
  have hDl : W.heap.size ≤ D := by rw [HD.out]; exact hf23.size
  have hd5 := (hd2.fr hf3 id).fr hF35 id
  have hr5 : RowsAt W5 B (nblk a) (List.replicate (nblk a * 128) (.int .u8 0)) := ⟨hF35.keep (hf3.keep hr2.1 id) id, hr2.2⟩
  have hp5 := hF35.keep hp3 id
  have hlv5 := own_fr hlv3 hF35 (fun _ _ _ _ h => h)
  have hlv0 : ∀ b, lv.ownBlock = some b → W.heap.size ≤ b := fun b hb => Nat.le_trans hf2.size (hlv3.lt b hb).1
  obtain ⟨rl, hrl1, hrl2⟩ := hPw.rx
  have hrl3 : r = rl.length := by have := hI.hr.1; rw [hrl1, List.length_map] at this; omega
  have hlvn : W5.ownsRow w2.heap.size 3 1 lv rl.length (rl.map fun x => Value.int .i64 x) := by rw [← hrl1, ← hrl3]; exact hlv5
  have hlvt : ∀ b, lv.ownBlock = some b → b0 ≤ b ∧ ∃ c t, W5.heap[b]? = some (.cells c t (0, 0)) ∧ EngT t := fun b hb => by
    obtain ⟨c, hc⟩ := own_tyS hlv5 hb
    exact ⟨by have := hlv0 b hb; omega, c, 3, hc, by unfold EngT; decide⟩
  have hq : DI G W5 b0 s ⟨D, A, B, Pp, nblk a, true, none, 0, 0, .slice none 0 0, [], (fun b => lv.ownBlock = some b), false⟩ :=
    ⟨hl5, ⟨none, 0, 0, _, _, _, hp5⟩, ⟨0, 0, _, hd5, hr5, by omega, by omega, by omega, by omega, G.new hp5 hlvn (Nat.le_trans hf3.size hF35.size) hrl2 (fun _ h => h)⟩, ⟨World.ownsRow_nil _ _ _ _, (fun r hr => absurd hr (by simp)), (fun r hr => absurd hr (by simp)), (fun r hr => absurd hr (by simp))⟩, Nat.zero_le _, (fun r hr => absurd hr (by simp)), List.Pairwise.nil, hlvt, ⟨by simp; omega, by simp; omega, by simp; omega, by have := hf2.size; simp; omega⟩, nblk_lt a⟩
  have hqk : ∀ b, lv.ownBlock = some b → kv.ownBlock ≠ some b ∧ rv.ownBlock ≠ some b := fun b hb => ⟨fun e => by have := (hI.hk.lt b e).2; have := hlv0 b hb; omega, fun e => by have := (hI.hr.lt b e).2; have := hlv0 b hb; omega⟩
  have hI5 := hI.frz hF5
  have hDs5 : ∀ q ∈ qs, DI G W5 b0 s q := fun q hq => (hDs q hq).fr hF5 (fun _ _ _ _ _ => id)
  have hap : ∀ p ∈ qs, Apart p ⟨D, A, B, Pp, nblk a, true, none, 0, 0, .slice none 0 0, [], (fun b => lv.ownBlock = some b), false⟩ := by
    intro p hp
    obtain ⟨_, _, _, hw1, hw2, _⟩ := (hDs p hp).d
    obtain ⟨_, _, _, _, _, _, hw3⟩ := (hDs p hp).p
    have l1 := lt_of_heap (hDs p hp).l
    have l2 : p.A < W.heap.size := lt_of_heap hw1
    have l3 : p.B < W.heap.size := lt_of_heap hw2.1
    have l4 := lt_of_heap hw3
    have l5 := hf2.size
    exact ⟨by simp; omega, by simp; omega, by simp; omega, by simp; omega, fun b hb h => by obtain ⟨_, c, t, hc, _⟩ := (hDs p hp).f b hb; have := lt_of_heap hc; have := hlv0 b h; omega, fun b _ h => by simp [Value.ownBlock] at h⟩
  have hB5 : Below b0 w W5 := (frz_below hFW hsz).trans (frz_below hF5 hbW)
  have hb5 : b0 ≤ W5.heap.size := Nat.le_trans hbW hF5.size
  have c3 := hI5.c3
  have hod := hI5.hd
  have hof := hI5.hf
  have hw5 := hI5.hw
  have HFin : Hid (∀ {wn wm : World} {gn cap gm cam : Nat}, wn.ownsRow b0 105 1 (.slice (some ⟨gn, 0, none⟩) (qs.length + 1) cap) (qs.length + 1) ((qs.map DR.D).map (fun D => Value.pointer (some ⟨D, 0, none⟩)) ++ [.pointer (some ⟨D, 0, none⟩)]) → (W5.alloc (.cells #[.pointer (some ⟨D, 0, none⟩)] 105)).grownBy wn dv.ownBlock →
      wm.ownsRow b0 4 1 (.slice (some ⟨gm, 0, none⟩) (qs.length + 1) cam) (qs.length + 1) (fxs ++ [.bool false]) → ((wn.setCell ⟨W0, 3, none⟩ (.slice (some ⟨gn, 0, none⟩) (qs.length + 1) cap)).alloc (.cells #[.bool false] 4)).grownBy wm fv.ownBlock →
      wm.cell? ⟨W0, 4, none⟩ = some fv ∧ wm.frozen? ⟨W0, 4, none⟩ = false ∧ Hid (OwnPost G w b0 W0 s (.returned (.bool true)) (wm.setCell ⟨W0, 4, none⟩ (.slice (some ⟨gm, 0, none⟩) (qs.length + 1) cam)))) := fun x1 x2 x3 x4 => Inv.disk (q := ⟨D, A, B, Pp, nblk a, true, none, 0, 0, .slice none 0 0, [], (fun b => lv.ownBlock = some b), false⟩) hI5 hk hr hsn hst hm hDs5 hPw hq rfl hqk hap hB5 hb5 x1 x2 x3 x4
  clear hq hqk hlvt hlvn hrl1 hrl2 hrl3 hlv0 hlv5 hlv3 hI5 hDs5 hap hB5 hl5 hd5 hr5 hp5 hF35 hF5 hS hSf hS3 hS4 hf4 hd2 hr2 hf2 hf3 hf23 hp3 hI hDs hPw hO2 hOW hO0 hbox h
  rw [← HW5.out, ← HD.out]
  obtain ⟨ip, hpi0, hpz0, hpz1, hpz2⟩ := info_parts pdisk_info
  obtain ⟨ib, hbi0, hbz0, hbz1, hbz2⟩ := info_parts bool_info
  have afterA : ∀ (gn cap : Nat) (wn : World), (W5.alloc (.cells #[.pointer (some ⟨D, 0, none⟩)] 105)).grownBy wn dv.ownBlock → wn.cell? ⟨W0, 3, none⟩ = some dv ∧ wn.frozen? ⟨W0, 3, none⟩ = false ∧ wn.cell? ⟨W0, 4, none⟩ = some fv ∧
      Hid (((wn.setCell ⟨W0, 3, none⟩ (.slice (some ⟨gn, 0, none⟩) (qs.length + 1) cap)).alloc (.cells #[.bool false] 4)).ownsRow b0 4 1 fv qs.length fxs) ∧ b0 ≤ ((wn.setCell ⟨W0, 3, none⟩ (.slice (some ⟨gn, 0, none⟩) (qs.length + 1) cap)).alloc (.cells #[.bool false] 4)).heap.size := by
    intro gn cap wn hg1
    have hty : ∀ b c t, W5.heap[b]? = some (.cells c t (0, 0)) → dv.ownBlock = some b → t = 105 := by
      intro b c t hb hv
      rcases hod.2 with ⟨rfl, _⟩ | ⟨g, cap', cur, rfl, _, hg, _⟩
      · simp [Value.ownBlock] at hv
      · simp only [Value.ownBlock, Option.some.injEq] at hv
        subst hv
        rw [hb] at hg
        simp at hg
        exact hg.2
    have hF1 : Fr (fun b => dv.ownBlock = some b) W5 wn := (((Fr.refl _ _).alloc _)).grown hg1 (fun b _ h => h)
    have hWn : wn.heap[W0]? = some (.cells #[kv, rv, sv, dv, fv] 80 (0, 0)) := hF1.keep hw5 (fun hv => by have := hty _ _ _ hw5 hv; simp at this)
    refine ⟨by rw [cell_of_row wn W0 3 _ _ _ hWn]; rfl, frozen_of_row wn W0 3 _ _ hWn, by rw [cell_of_row wn W0 4 _ _ _ hWn]; rfl, ?_, ?_⟩
    · exact (own_set hWn (by decide) (own_fr hof hF1 (fun b c hb _ hv => by have := hty _ _ _ hb hv; simp at this))).alloc _
    · have := hF1.size; simp; omega
  have HA : Hid (∀ (gn cap : Nat) (wn : World), (W5.alloc (.cells #[.pointer (some ⟨D, 0, none⟩)] 105)).grownBy wn dv.ownBlock → wn.cell? ⟨W0, 3, none⟩ = some dv ∧ wn.frozen? ⟨W0, 3, none⟩ = false ∧ wn.cell? ⟨W0, 4, none⟩ = some fv ∧
      Hid (((wn.setCell ⟨W0, 3, none⟩ (.slice (some ⟨gn, 0, none⟩) (qs.length + 1) cap)).alloc (.cells #[.bool false] 4)).ownsRow b0 4 1 fv qs.length fxs) ∧ b0 ≤ ((wn.setCell ⟨W0, 3, none⟩ (.slice (some ⟨gn, 0, none⟩) (qs.length + 1) cap)).alloc (.cells #[.bool false] 4)).heap.size) := afterA
  have HD5 : Hid ((W5.alloc (.cells #[.pointer (some ⟨D, 0, none⟩)] 105)).ownsRow b0 105 1 dv qs.length ((qs.map DR.D).map (fun D => Value.pointer (some ⟨D, 0, none⟩)))) := hod.alloc _
  clear afterA hod hof hw5
  go_wp2_with (first
    | (at_builtin; refine wpList_append_lies _ rfl (.tmp 83) (.tmp 85) 77 rfl b0 105 ip (.pointer none) 1 8 Tryz.underlying77 hpi0 hpz0 hpz1 hpz2 rfl (by decide) dv qs.length ((qs.map DR.D).map (fun D => Value.pointer (some ⟨D, 0, none⟩))) rfl HD5.out ⟨W5.heap.size, 0, none⟩ 1 1 [.pointer (some ⟨D, 0, none⟩)] rfl rfl ?_ ?_ (by decide) ?_ ?_ ?_ _ rfl ?_; exact World.news_of_block (cs := #[.pointer (some ⟨D, 0, none⟩)]) (heap_alloc_at W5 _); (simp [Value.oneCell']); (unfold maxLen; omega); omega; (simp; omega); intro gn cap wn hon hgrow hat hlt; obtain ⟨a3, a3f, a4, HB1, HB2⟩ := HA.out gn cap wn hgrow)
    | (at_builtin; refine wpList_append_lies _ rfl (.tmp 93) (.tmp 94) 78 rfl b0 4 ib (.bool false) 1 1 Tryz.underlying78 hbi0 hbz0 hbz1 hbz2 rfl (by decide) fv qs.length fxs rfl HB1.out ⟨wn.heap.size, 0, none⟩ 1 1 [.bool false] rfl rfl ?_ ?_ (by decide) ?_ ?_ HB2 _ rfl ?_; exact World.news_of_block (cs := #[.bool false]) (by simpa using heap_alloc_at (wn.setCell ⟨W0, 3, none⟩ (.slice (some ⟨gn, 0, none⟩) (qs.length + 1) cap)) (.cells #[.bool false] 4)); (simp [Value.oneCell']); (unfold maxLen; omega); omega; intro gm cam wm hom hgm hatm hltm; obtain ⟨z1, z2, z3⟩ := HFin.out hon hgrow hom hgm))
  go_ret
  exact z3.out
end Go.Proofs.YteebjgfalllbjaaGreatDoor
namespace Go.Proofs.YteebjgfalllbjaaGreatDoor
open Go.RowKit
variable {G : Prg}

theorem owner_own {w : World} {b0 W0 s : Nat} {qs : List DR} (h : Inv G w b0 W0 s qs) (hs : s < 99000) (K X a b : Int) (S T : ByteArray) (ha1 : -9223372036854775808 ≤ a) (ha2 : a ≤ 9223372036854775807) (h1 : 1 ≤ K) (h2 : K ≤ 6) :
    Calls Tryz.prog 49 #[.pointer (some ⟨W0, 0, none⟩), .agg (opv K X a b S T)] w fun e w' => OwnPost G w b0 W0 s e w' := by
  rcases (show K = 1 ∨ K = 2 ∨ K = 3 ∨ K = 4 ∨ K = 5 ∨ K = 6 by omega) with rfl | rfl | rfl | rfl | rfl | rfl
  · exact owner_keep h (by omega) X a b S T
  · exact owner_none h X a b S T
  · exact owner_reply h hs X a b S T ha1 ha2
  · exact owner_step h (by omega) X a b S T
  · exact owner_clear h X a b S T
  · exact owner_disk h (by omega) X a b S T

/-- The blocks that a step on a disk may turn. -/
def Foot0 (q : DR) (b : Nat) : Prop := b = q.D ∨ b = q.A ∨ b = q.B ∨ b = q.Pp ∨ q.F b
def Foot (q : DR) (b : Nat) : Prop := Foot0 q b ∨ q.Lv.ownBlock = some b
theorem Foot0.ty {w : World} {b0 s : Nat} {q : DR} (h : DI G w b0 s q) {b : Nat} {c : Array Value} {t : TypeId} (hb : w.heap[b]? = some (.cells c t (0, 0))) (hS : Foot0 q b) : (t = 111 ∧ b = q.D) ∨ (t = 96 ∧ b = q.A) ∨ (t = 97 ∧ b = q.B) ∨ (t = 48 ∧ b = q.Pp) ∨ (q.F b ∧ EngT t) := by
  obtain ⟨calls, writes, bs, hd, hr, _⟩ := h.d
  have hd : DiskAt w q.A q.B q.n (.slice none 0 0) calls writes := hd
  have hr : RowsAt w q.B q.n bs := hr
  obtain ⟨_, _, _, _, _, _, hp⟩ := h.p
  rcases hS with rfl | rfl | rfl | rfl | hF
  · rw [h.l] at hb; simp at hb; exact .inl ⟨hb.2.symm, rfl⟩
  · rw [hd] at hb; simp at hb; exact .inr (.inl ⟨hb.2.symm, rfl⟩)
  · rw [hr.1] at hb; simp at hb; exact .inr (.inr (.inl ⟨hb.2.symm, rfl⟩))
  · rw [hp] at hb; simp at hb; exact .inr (.inr (.inr (.inl ⟨hb.2.symm, rfl⟩)))
  · obtain ⟨_, c', t', hc, ht⟩ := h.f b hF
    rw [hc] at hb; simp at hb
    exact .inr (.inr (.inr (.inr ⟨hF, hb.2 ▸ ht⟩)))
theorem Foot.ty {w : World} {b0 s : Nat} {q : DR} (h : DI G w b0 s q) {b : Nat} {c : Array Value} {t : TypeId} (hb : w.heap[b]? = some (.cells c t (0, 0))) (hS : Foot q b) : ((t = 111 ∧ b = q.D) ∨ (t = 96 ∧ b = q.A) ∨ (t = 97 ∧ b = q.B) ∨ (t = 48 ∧ b = q.Pp) ∨ (q.F b ∧ EngT t)) ∨ (t = 223 ∧ q.Lv.ownBlock = some b) := by
  rcases hS with hS | hS
  · exact .inl (Foot0.ty h hb hS)
  · obtain ⟨cs, hc⟩ := own_tyS h.a.o hS
    rw [hc] at hb; simp at hb
    exact .inr ⟨hb.2.symm, hS⟩
theorem Foot.lo {w : World} {b0 s : Nat} {q : DR} (h : DI G w b0 s q) {b : Nat} (hS : Foot q b) : b0 ≤ b := by
  rcases hS with (rfl | rfl | rfl | rfl | hF) | hL
  · exact h.b.1
  · exact h.b.2.1
  · exact h.b.2.2.1
  · exact h.b.2.2.2
  · exact (h.f b hF).1
  · exact (h.a.o.lt b hL).1
theorem Foot.apart {w : World} {b0 s : Nat} {p q : DR} (hq : DI G w b0 s q) (ha : Apart p q ∨ Apart q p) {b : Nat} {c : Array Value} {t : TypeId} (hb : w.heap[b]? = some (.cells c t (0, 0)))
    (ht : (t = 111 ∧ b = p.D) ∨ (t = 96 ∧ b = p.A) ∨ (t = 97 ∧ b = p.B) ∨ Rest p t b) : ¬ Foot q b := by
  intro hS
  have a1 : p.D ≠ q.D := by rcases ha with h | h; exact h.1; exact fun e => h.1 e.symm
  have a2 : p.A ≠ q.A := by rcases ha with h | h; exact h.2.1; exact fun e => h.2.1 e.symm
  have a3 : p.B ≠ q.B := by rcases ha with h | h; exact h.2.2.1; exact fun e => h.2.2.1 e.symm
  have a4 : p.Pp ≠ q.Pp := by rcases ha with h | h; exact h.2.2.2.1; exact fun e => h.2.2.2.1 e.symm
  have a5 : ∀ b, p.F b → ¬ q.F b := by rcases ha with h | h; exact h.2.2.2.2.1; exact fun b h1 h2 => h.2.2.2.2.1 b h2 h1
  have a6 : ∀ b, p.Lv.ownBlock = some b → q.Lv.ownBlock ≠ some b := by rcases ha with h | h; exact h.2.2.2.2.2; exact fun b h1 h2 => h.2.2.2.2.2 b h2 h1
  have hty := Foot.ty hq hb hS
  unfold EngT at hty
  rcases ht with ⟨rfl, rfl⟩ | ⟨rfl, rfl⟩ | ⟨rfl, rfl⟩ | ⟨rfl, rfl⟩ | ⟨rfl, hL⟩ | rfl | rfl | ⟨hF, hE⟩
  · simp at hty; exact a1 hty
  · simp at hty; exact a2 hty
  · simp at hty; exact a3 hty
  · simp at hty; exact a4 hty
  · simp at hty; exact a6 b hL hty
  · simp at hty
  · simp at hty
  · unfold EngT at hE
    rcases hty with (⟨rfl, _⟩ | ⟨rfl, _⟩ | ⟨rfl, _⟩ | ⟨rfl, _⟩ | ⟨h2, _⟩) | ⟨rfl, _⟩
    · simp at hE
    · simp at hE
    · simp at hE
    · simp at hE
    · exact a5 b hF h2
    · simp at hE

/-- One disk of the script has turned, its own blocks alone. -/
theorem InvF.upd {w w' : World} {b0 W0 s : Nat} {qs : List DR} {fs : List Bool} (h : InvF G w b0 W0 s qs fs) (i : Nat) (q q' : DR) (hi : qs[i]? = some q) (hq : q'.D = q.D ∧ q'.A = q.A ∧ q'.B = q.B ∧ q'.Pp = q.Pp) (hF : ∀ b, q'.F b → q.F b ∨ w.heap.size ≤ b) (hL : ∀ b, q'.Lv.ownBlock = some b → q.Lv.ownBlock = some b ∨ w.heap.size ≤ b) (hd : DI G w' b0 (s + 2) q') (hf : Fr (Foot q) w w') : InvF G w' b0 W0 (s + 2) (qs.set i q') fs ∧ Below b0 w w' := by
  have hsz := h.size
  obtain ⟨kv, rv, sv, dv, fv, k, r, st, kxs, rxs, sts, fxs, hI, hsn, hk, hr, hst, hm, hDs, hPw⟩ := h
  have hil : i < qs.length := (List.getElem?_eq_some_iff.1 hi).1
  have hiq : qs[i] = q := (List.getElem?_eq_some_iff.1 hi).2
  have hDq := hDs q (List.mem_of_getElem? hi)
  have hIw := hI.fr hf (fun b c t hb ht hS => by
    have hty := Foot.ty hDq hb hS
    unfold EngT at hty
    rcases ht with rfl | rfl | rfl | rfl <;> simp at hty)
    (fun b hkr hS => by
      obtain ⟨c, hc⟩ : ∃ c, w.heap[b]? = some (.cells c 3 (0, 0)) := by rcases hkr with h | h; exact own_tyS hI.hk h; exact own_tyS hI.hr h
      have hty := Foot.ty hDq hc hS
      unfold EngT at hty
      simp at hty
      have := hPw.kr q (List.mem_of_getElem? hi) b hty
      rcases hkr with h | h
      · exact this.1 h
      · exact this.2 h)
  have hPX := hPw
  replace hPw := hPw.pw
  have hap : ∀ j (hj : j < qs.length), j ≠ i → Apart qs[j] q ∨ Apart q qs[j] := by
    intro j hj hji
    rw [List.pairwise_iff_getElem] at hPw
    rcases Nat.lt_or_gt_of_ne hji with hlt | hlt
    · left; have := hPw j i hj hil hlt; rwa [hiq] at this
    · right; have := hPw i j hil hj hlt; rwa [hiq] at this
  have hold : ∀ p ∈ qs, ∀ b, p.F b → b < w.heap.size := fun p hp b hb => by
    obtain ⟨_, c, t, hc, _⟩ := (hDs p hp).f b hb
    exact lt_of_heap hc
  have holdL : ∀ p ∈ qs, ∀ b, p.Lv.ownBlock = some b → b < w.heap.size := fun p hp b hb => ((hDs p hp).a.o.lt b hb).2
  have hA1 : ∀ p ∈ qs, Apart p q → Apart p q' := fun p hp ha => ⟨by rw [hq.1]; exact ha.1, by rw [hq.2.1]; exact ha.2.1, by rw [hq.2.2.1]; exact ha.2.2.1, by rw [hq.2.2.2]; exact ha.2.2.2.1, fun b hb hb' => by
    rcases hF b hb' with h | h
    · exact ha.2.2.2.2.1 b hb h
    · have := hold p hp b hb; omega, fun b hb hb' => by
    rcases hL b hb' with h | h
    · exact ha.2.2.2.2.2 b hb h
    · have := holdL p hp b hb; omega⟩
  have hA2 : ∀ p ∈ qs, Apart q p → Apart q' p := fun p hp ha => ⟨by rw [hq.1]; exact ha.1, by rw [hq.2.1]; exact ha.2.1, by rw [hq.2.2.1]; exact ha.2.2.1, by rw [hq.2.2.2]; exact ha.2.2.2.1, fun b hb' hb => by
    rcases hF b hb' with h | h
    · exact ha.2.2.2.2.1 b h hb
    · have := hold p hp b hb; omega, fun b hb' hb => by
    rcases hL b hb' with h | h
    · exact ha.2.2.2.2.2 b h hb
    · have := holdL p hp b hb; omega⟩
  refine ⟨⟨kv, rv, sv, dv, fv, k, r, st, kxs, rxs, sts, fxs, ?_, hsn, by omega, by omega, by omega, by simp; omega, ?_, ?_, hPX.fx, hPX.rx, fun p hp b hb => ?_⟩, hf.below hsz (fun b hb => Foot.lo hDq hb)⟩
  · have em : (qs.set i q').map DR.D = qs.map DR.D := by
      rw [List.map_set, hq.1, ← hiq]
      apply List.ext_getElem?
      intro j
      rw [List.getElem?_set]
      split
      · rename_i e; subst e; simp [hil]
      · rfl
    rw [em, List.length_set]; exact hIw
  · intro p hp
    obtain ⟨j, hj, rfl⟩ := List.mem_iff_getElem.1 hp
    rw [List.length_set] at hj
    rw [List.getElem_set]
    split
    · exact hd
    · rename_i hij
      have hDj := hDs qs[j] (List.getElem_mem hj)
      exact (hDj.fr hf (fun b c t hb ht => Foot.apart hDq (hap j hj (fun e => hij e.symm)) hb ht)).mono (by omega)
  · rw [List.pairwise_iff_getElem] at hPw ⊢
    intro j1 j2 h1 h2 hlt
    rw [List.length_set] at h1 h2
    rw [List.getElem_set, List.getElem_set]
    have hp := hPw j1 j2 h1 h2 hlt
    split
    · rename_i e1
      split
      · omega
      · subst e1; rw [hiq] at hp; exact hA2 _ (List.getElem_mem h2) hp
    · split
      · rename_i e2; subst e2; rw [hiq] at hp; exact hA1 _ (List.getElem_mem h1) hp
      · exact hp
  · have hne : ∀ v : Value, (∃ n xs, w.ownsRow b0 3 1 v n xs) → v.ownBlock = some b → b < w.heap.size := by
      rintro v ⟨n, xs, h⟩ hb
      exact (h.lt b hb).2
    rcases List.mem_or_eq_of_mem_set hp with hp | rfl
    · exact hPX.kr p hp b hb
    · rcases hF b hb with h | h
      · exact hPX.kr q (List.mem_of_getElem? hi) b h
      · exact ⟨fun e => by have := hne kv ⟨_, _, hI.hk⟩ e; omega, fun e => by have := hne rv ⟨_, _, hI.hr⟩ e; omega⟩
theorem Inv.upd {w w' : World} {b0 W0 s : Nat} {qs : List DR} (h : Inv G w b0 W0 s qs) (i : Nat) (q q' : DR) (hi : qs[i]? = some q) (hq : q'.D = q.D ∧ q'.A = q.A ∧ q'.B = q.B ∧ q'.Pp = q.Pp) (hfl : q'.fl = q.fl) (hF : ∀ b, q'.F b → q.F b ∨ w.heap.size ≤ b) (hL : ∀ b, q'.Lv.ownBlock = some b → q.Lv.ownBlock = some b ∨ w.heap.size ≤ b) (hd : DI G w' b0 (s + 2) q') (hf : Fr (Foot q) w w') : Inv G w' b0 W0 (s + 2) (qs.set i q') ∧ Below b0 w w' := by
  have h1 := InvF.upd h i q q' hi hq hF hL hd hf
  have e : (qs.set i q').map DR.fl = qs.map DR.fl := by
    apply List.ext_getElem?
    intro j
    rw [List.map_set, List.getElem?_set]
    split
    · rename_i e; subst e
      rw [List.getElem?_map, hi, hfl]
      have := (List.getElem?_eq_some_iff.1 hi).1
      simp [this]
    · rfl
  unfold Inv
  rw [e]
  exact h1
end Go.Proofs.YteebjgfalllbjaaGreatDoor
