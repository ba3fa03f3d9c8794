import Derived.Deep.MidRow
import Derived.Maps.AppendAt
import Derived.Test.YteebjgfalllbjaaGreatDoorCRpAlRs
import Derived.Test.YteebjgfalllbjaaGreatDoorCSaSvDv
import Derived.Maps.OwnIn
import Derived.Test.YteebjgfalllbjaaGreatDoorCTjTmKa
namespace Go.Proofs.YteebjgfalllbjaaGreatDoor
open Go.RowKit Go.Shelf
attribute [local go_sem] Oper.semAt_some
section
variable {F : Fence} {n : Nat} {P : Program} {ops : Array Oper} {rest : List Oper} {op : Oper} {a : Act} {w w' : World} {Q : Exit → Act → World → Prop}
theorem wpListIn_load_mid (hgd : op.guard = none) (ty : TypeId) (x : Operand) (ho : op.op = .load ty x)
    (b o : Nat) (hx : a.eval x = .pointer (some ⟨b, o, none⟩)) (cs : List Value) (d : TypeDesc) (hc : w.rangeAt b o cs)
    (hu : P.underlying ty = some d) (hd : d.isRow = true) (hi : (P.info? ty).map (·.size) = some cs.length)
    (h : wpListIn F n P ops Q rest (a.put op.dst (.agg cs.toArray)) w) : wpListIn F n P ops Q (op :: rest) a w :=
  wpListIn_plain hgd fun K hK => by
    refine ⟨fun f hf => ?_, ?_⟩
    · simp [Oper.about, ho] at hf
    · rw [Oper.semAt_eq _ _ _ (by simp [ho])]
      unfold execOp
      simp only [ho, hx, Instr.loadAt, Instr.sureAddr, Sem.run_bind, Sem.run_pure, Result.andThen_ok, run_loadVar_mid w b o ty cs d hc hu hd hi]
      exact hK _ _ h
theorem wpListIn_store (t : TypeId) (x y : Operand) (ho : op.op = .store t x y) (hgd : op.guard = none) (hr : (Instr.storeAt t (a.eval x) (a.eval y)).run P w = .ok () w')
    (h : wpListIn F n P ops Q rest (a.put op.dst undef) w') : wpListIn F n P ops Q (op :: rest) a w :=
  wpListIn_plain hgd fun K hK => by
    refine ⟨fun f hf => ?_, ?_⟩
    · simp [Oper.about, ho] at hf
    · rw [Oper.semAt_eq _ _ _ (by simp [ho])]
      simp only [execOp, ho, Sem.run_bind, hr, Result.andThen_ok, Sem.run_pure]
      exact hK _ _ h
end
/-- What a round that goes on keeps: all cells but the box bo and the row that its value owns. -/
def KpA (bo : Nat) (A B : World) : Prop := A.heap.size ≤ B.heap.size ∧ ∀ va, A.cell? ⟨bo, 0, none⟩ = some va → ∃ vb, B.cell? ⟨bo, 0, none⟩ = some vb ∧ (∀ b, vb.ownBlock = some b → va.ownBlock = some b ∨ A.heap.size ≤ b) ∧ ∀ k c t f, A.heap[k]? = some (.cells c t f) → k ≠ bo → va.ownBlock ≠ some k → B.heap[k]? = A.heap[k]?
theorem KpA.t {bo : Nat} {A B C : World} (h1 : KpA bo A B) (h2 : KpA bo B C) : KpA bo A C := by
  refine ⟨Nat.le_trans h1.1 h2.1, fun va ha => ?_⟩
  obtain ⟨vb, hb, o1, k1⟩ := h1.2 va ha
  obtain ⟨vc, hc, o2, k2⟩ := h2.2 vb hb
  refine ⟨vc, hc, fun b hb => ?_, fun k c t f hk hne hno => ?_⟩
  · rcases o2 b hb with h | h
    · exact o1 b h
    · exact .inr (Nat.le_trans h1.1 h)
  · have e1 := k1 k c t f hk hne hno
    refine (k2 k c t f (e1.trans hk) hne (fun e => ?_)).trans e1
    rcases o1 k e with h | h
    · exact hno h
    · have := lt_of_heap hk; omega
theorem KpA.b {bo : Nat} (W : World) (l : Nat) (o o' : Obj) (hl : W.heap[l]? = some o) (hc : o.isCells = false) : KpA bo W (W.putObj l o') := by
  have hg := grownBy_putObj' W l o'
  refine ⟨hg.size, fun va ha => ⟨va, cell_kept ha hg (fun r e => by cases e; exact ⟨_, hl, hc⟩), fun b hb => .inl hb, fun k c t f hk _ _ => ?_⟩⟩
  refine hg.block k (lt_of_heap hk) (fun e => ?_)
  cases e
  rw [hk] at hl; cases hl; cases hc
theorem range_mid {w : World} {b : Nat} {xs ys zs : List Value} {t : TypeId} (h : w.heap[b]? = some (.cells (xs ++ (ys ++ zs)).toArray t (0, 0))) : w.rangeAt b xs.length ys := fun j v hv => (cell_of_row w _ (xs.length + j) _ _ _ h).trans (by
  have hj := (List.getElem?_eq_some_iff.1 hv).1
  rw [List.getElem?_toArray, List.getElem?_append_right (by omega), Nat.add_sub_cancel_left, List.getElem?_append_left hj]
  exact hv)
theorem stat_box (w : World) (x : ST) : ∃ WS, (Instr.storeAt 42 (.pointer (some ⟨w.heap.size, 0, none⟩)) (.agg x.cs.toArray)).run Tryz.prog (w.alloc (.cells zST.cs.toArray 42)) = .ok () WS ∧ WS.heap[w.heap.size]? = some (.cells x.cs.toArray 42 (0, 0)) ∧ Fr (fun _ => False) w WS := by
  have zr := heap_alloc_at w (.cells zST.cs.toArray 42)
  have hst := run_storeAt_row (P := Tryz.prog) (o := 0) (ty := 42) (vs := x.cs) zr (by rw [ST.len, ST.len]; omega) x.one status_size
  have e : splice zST.cs 0 x.cs = x.cs := by unfold splice; rw [ST.len]; simp [ST.len]
  rw [e] at hst
  exact ⟨_, hst, setRow_heap _ _ _ _ _ _ zr, Fr.setRow (S := fun _ => False) ((Fr.refl _ _).alloc _) _ (fun h => by omega) _⟩
theorem below_fr {w w' : World} (h : Below w.heap.size w w') : Fr (fun _ => False) w w' := ⟨h.os, h.tape, h.output, h.size, fun k hk _ => h.block k hk⟩
def sts (es : List (Nat × AS)) : List ST := es.map fun p => p.2.told
def EaI (J' : List ST → World → Prop) (es : List (Nat × AS)) (G bo i : Nat) (wr : World) : Prop := J' ((sts es).take i) wr ∧ wr.heap[G]? = some (.cells (tB es es.length).toArray 42 (0, 0)) ∧ ∃ v, wr.cell? ⟨bo, 0, none⟩ = some v ∧ v.ownBlock ≠ some G
set_option maxRecDepth 100000 in
set_option maxHeartbeats 2000000 in
theorem all1_stops {w : World} {X J R b bo base : Nat} {clock pause room : Int} {cv ev : Value} {es : List (Nat × AS)} (he : EngAt w X J R clock pause cv) (hr : RollAt w R base room ev es) (hb : w.heap[b]? = some (.cells #[.pointer (some ⟨X, 0, none⟩)] 32 (0, 0))) (hbo : w.heap[bo]? = some (.cells #[.slice none 0 0] 69 (0, 0))) (hn : es.length ≤ 100000) (h6 : ∀ p ∈ es, p.2.st.length ≤ 6) (n : Nat) :
    SeqStopsK (α := ST) Fence.wide n Tryz.prog 78 #[.pointer (some ⟨b, 0, none⟩)] (fun x => #[.agg x.cs.toArray]) (KpA bo) (fun ys => ys = sts es) (fun pre => pre <+: sts es) es.length w := by
  intro l J' Jx W hB hJ hJx hY h0
  have hro : Fence.wide.round = none := rfl
  have hf0 := below_fr hB
  have he' : EngAt W X J R clock pause cv := hf0.keep he (fun h => h)
  have hr' := hr.frz hf0
  have hb' : W.cell? ⟨b, 0, none⟩ = some (.pointer (some ⟨X, 0, none⟩)) := (cell_of_row W b 0 _ _ _ (hf0.keep hb (fun h => h))).trans rfl
  have hbo' : W.cell? ⟨bo, 0, none⟩ = some (.slice none 0 0) := (cell_of_row W bo 0 _ _ _ (hf0.keep hbo (fun h => h))).trans rfl
  have c1 : W.cell? ⟨X, 1, none⟩ = some (.pointer (some ⟨R, 0, none⟩)) := he'.c rfl
  have hsl : (sts es).length = es.length := List.length_map ..
  refine callsIn_of_wp Tryz.func78 rfl trivial ?_ hro
  simp only [Tryz.ntmps78, List.size_toArray, List.length_cons, List.length_nil, Nat.reduceAdd, Nat.reduceSub, Array.replicate_succ, Array.replicate_zero, List.push_toArray, List.append_toArray, List.nil_append, List.cons_append]
  gi_wp2_with (refine ⟨trivial, (fun h => (by cases h)), ?_⟩; refine (callsIn_wide.2 (Statuses_ok hr' hn h6)).mono ?_; rintro e w2 ⟨rfl, hG, hf2⟩)
  have HI : Hid (EaI J' es W.heap.size bo 0 w2) := ⟨hJ [] W w2 none h0 (grown_fr hf2) (fun r e => by cases e), hG, _, hf2.cell hbo' (fun h => h), by simp [Value.ownBlock]⟩
  gi_loopw [11] (fun c wr => ∃ i : Nat, i ≤ es.length ∧ c = .int .i64 i ∧ Hid (EaI J' es W.heap.size bo i wr)) (fun c _ => es.length - (intOf c).toNat)
  case atStart => exact ⟨0, by omega, rfl, HI⟩
  case round =>
    obtain ⟨i, hi, rfl, HR⟩ := hrel
    clear HI hG hf2 c1 hbo' hb'
    by_cases hlt : i < es.length
    · have hlt' : (i : Int) < es.length := by omega
      obtain ⟨p, hpi⟩ : ∃ p, es[i]? = some p := ⟨_, List.getElem?_eq_getElem hlt⟩
      obtain ⟨hJi, hGi, v, hv, hvn⟩ := HR.out
      obtain ⟨z, hz⟩ := tB_get hpi
      have htl := tB_len es i hi
      have hM : wr.rangeAt W.heap.size (i * 6) p.2.told.cs := by
        rw [hz] at hGi
        rw [← htl]
        exact range_mid hGi
      obtain ⟨WS, hst, hxr, hfS⟩ := stat_box wr p.2.told
      have hMS : WS.rangeAt wr.heap.size 0 p.2.told.cs := fun j v hv => (cell_of_row WS _ (0 + j) _ _ _ hxr).trans (by simpa using hv)
      have hJS := hJ _ wr WS none hJi (grown_fr hfS) (fun r e => by cases e)
      have hGS := hfS.keep hGi (fun h => h)
      have hvS := hfS.cell hv (fun h => h)
      obtain ⟨fn, tmps, assign, body, hy, hYR⟩ := hY ((sts es).take i) p.2.told WS hJS (by rw [List.length_take]; omega)
      gi_wp2_with (first | (refine wpListIn_load_mid rfl 42 (.tmp 13) rfl W.heap.size (i * 6) ?_ _ _ hM Tryz.underlying42 rfl ?_ ?_; rfl; exact status_size) | (refine wpListIn_load_mid rfl 42 (.tmp 4) rfl wr.heap.size 0 ?_ _ _ hMS Tryz.underlying42 rfl ?_ ?_; rfl; exact status_size) | (refine wpListIn_store 42 (w' := WS) _ _ rfl rfl ?_ ?_; exact hst))
      refine ⟨fun h => (by cases h), ?_⟩
      refine hYR.mono ?_
      have htk : (sts es).take i ++ [p.2.told] = (sts es).take (i + 1) := by
        rw [List.take_add_one, sts, List.getElem?_map, hpi]; rfl
      rw [htk]
      rintro e W3 (⟨rfl, hJ3, hk3⟩ | ⟨rfl, hJx3⟩)
      · obtain ⟨vb, hvb, ho3, hb3⟩ := hk3.2 v hvS
        have hne : W.heap.size ≠ bo := by have := lt_of_heap hbo; have := hf0.size; omega
        have HN : Hid (EaI J' es W.heap.size bo (i + 1) W3) := ⟨hJ3, (hb3 _ _ _ _ hGS hne hvn).trans hGS, vb, hvb, fun e => by
          rcases ho3 _ e with h | h
          · exact hvn h
          · have := lt_of_heap hGS; omega⟩
        clear hMS hM hst hxr hJS hGS hvS hy hYR hGi hv hJi
        gi_wp2
        go_roundw
        case rel => exact ⟨i + 1, by omega, by go_num, HN⟩
        case measure => simp [intOf]; omega
      · gi_wp2
        refine bodyPost_ret (results_none rfl _ _ _) rfl ?_
        exact ⟨⟨_, rfl⟩, .inr ⟨_, List.take_prefix _ _, hJx3⟩⟩
    · obtain rfl : i = es.length := by omega
      gi_wp2
      go_end0
      exact ⟨⟨_, rfl⟩, .inl ⟨sts es, rfl, by have := HR.out.1; rwa [← hsl, List.take_length] at this⟩⟩
end Go.Proofs.YteebjgfalllbjaaGreatDoor
namespace Go.Proofs.YteebjgfalllbjaaGreatDoor
open Go.RowKit Go.Shelf
theorem own_formE {w : World} {b e size n : Nat} {v : Value} {xs : List Value} (h : w.ownsRow b e size v n xs) : ∃ ao cc, v = .slice ao n cc := by
  rcases h.2 with ⟨rfl, rfl⟩ | ⟨g, cap, cur, rfl, _⟩
  · exact ⟨none, 0, rfl⟩
  · exact ⟨_, _, rfl⟩
attribute [local go_sem] Oper.semAt_some
theorem bs_run (W : World) (x : ST) : (Instr.buildSlice 69 1 #[(0, .agg x.cs.toArray)]).run Tryz.prog W = .ok (.slice (some ⟨W.heap.size, 0, none⟩) 1 1) (W.alloc (.cells x.cs.toArray 42)) := by kernel_rfl
theorem wpListIn_buildSlice {F : Fence} {n : Nat} {P : Program} {ops : Array Oper} {rest : List Oper} {op : Oper} {a : Act} {w w' : World} {v : Value} {Q : Exit → Act → World → Prop} (t : TypeId) (m : Nat) (ps : Array (Nat × Operand)) (ho : op.op = .buildSlice t m ps) (hgd : op.guard = none) (vs : Array (Nat × Value)) (hvs : (ps.map fun (i, x) => (i, a.eval x)) = vs) (hr : (Instr.buildSlice t m vs).run P w = .ok v w')
    (h : wpListIn F n P ops Q rest (a.put op.dst v) w') : wpListIn F n P ops Q (op :: rest) a w :=
  wpListIn_plain hgd fun K hK => by
    refine ⟨fun f hf => ?_, ?_⟩
    · simp [Oper.about, ho] at hf
    · rw [Oper.semAt_eq _ _ _ (by simp [ho])]
      simp only [execOp, ho, hvs, Sem.run_bind, hr, Result.andThen_ok, Sem.run_pure]
      exact hK _ _ h
theorem KpA.fr {bo : Nat} {A B : World} (h : Fr (fun _ => False) A B) : KpA bo A B :=
  ⟨h.size, fun va ha => ⟨va, h.cell ha (fun h => h), fun _ hb => .inl hb, fun k _ _ _ hk _ _ => h.block k (lt_of_heap hk) (fun h => h)⟩⟩
theorem KeepsOthers.fr {A B : World} (h : Fr (fun _ => False) A B) : KeepsOthers A B :=
  ⟨h.size, fun k _ hk _ => (h.block k (Array.getElem?_eq_some_iff.1 hk).1 (fun h => h)).trans hk⟩
theorem cells_own {β : Type} (B : Nat) (c : Array Value) (t : TypeId) : Own (fun (_ : β) W => W.heap[B]? = some (.cells c t (0, 0))) := fun _ X Y row hs hg hrow => by
  refine (hg.block B (lt_of_heap hs) (fun e => ?_)).trans hs
  obtain ⟨o, ho, hc⟩ := hrow B e.symm
  rw [hs] at ho; cases ho; cases hc
theorem KpA.app {bo : Nat} {W w1 : World} {t : TypeId} {v v' : Value} {tmp : Obj} (hv : Boxed W bo t v) (hgrow : (W.alloc tmp).grownBy w1 v.ownBlock) (hv2 : Boxed (w1.setCell ⟨bo, 0, none⟩ v') bo t v') (hat : v'.ownBlock = v.ownBlock ∨ v'.ownBlock = some (W.alloc tmp).heap.size) : KpA bo W (w1.setCell ⟨bo, 0, none⟩ v') := by
  have hs1 := hgrow.size
  have hg2 := grownBy_setCell' w1 bo v'
  have hs2 := hg2.size
  have hsa : (W.alloc tmp).heap.size = W.heap.size + 1 := by simp
  refine ⟨by omega, fun va ha => ⟨v', hv2.cell, fun b hb => ?_, fun k c t f hk hne hno => ?_⟩⟩
  · have e : va = v := by have := ha.symm.trans hv.cell; cases this; rfl
    rw [e]
    rcases hat with h | h
    · exact .inl (h ▸ hb)
    · rw [h] at hb; cases hb; exact .inr (by omega)
  · have e : va = v := by have := ha.symm.trans hv.cell; cases this; rfl
    have hkl := lt_of_heap hk
    rw [e] at hno
    rw [hg2.block k (by omega) (fun e => hne (by cases e; rfl)), hgrow.block k (by omega) (fun e => hno e.symm), heap_alloc_lt _ _ _ hkl]
set_option maxRecDepth 100000 in
set_option maxHeartbeats 2000000 in
theorem pAll_b0 {w : World} {X J R base : Nat} {clock pause room : Int} {cv ev : Value} {es : List (Nat × AS)} (he : EngAt w X J R clock pause cv) (hr : RollAt w R base room ev es) (hn : es.length ≤ 100000) (h6 : ∀ p ∈ es, p.2.st.length ≤ 6) (most : Int) (hm1 : ¬ most < 1) : CallsIn Fence.wide 3 Tryz.prog 35 #[.pointer (some ⟨X, 0, none⟩), .int .i64 most] w fun e w' => ∃ v, e = .returned v ∧ w'.ownsRow w.heap.size 42 6 v ((sts es).take most.toNat).length (((sts es).take most.toNat).map ST.cs).flatten ∧ Below w.heap.size w w' := by
  have hro : Fence.wide.round = none := rfl
  obtain ⟨i0, hi0, hz0, hz1, hz2⟩ := info_parts status_info
  have hsl : (sts es).length = es.length := List.length_map ..
  obtain ⟨W0, HW0⟩ : ∃ W0, Hid (W0 = ((w.alloc (.cells #[.int .i64 most] 3)).alloc (.cells #[.slice none 0 0] 69)).alloc (.cells #[.pointer (some ⟨X, 0, none⟩)] 32)) := ⟨_, rfl⟩
  have hsz : W0.heap.size = w.heap.size + 3 := by rw [HW0.out]; simp
  have hB0 : Below w.heap.size w W0 := by rw [HW0.out]; exact (((Below.refl _ w).alloc (Nat.le_refl _) _).alloc (by simp) _).alloc (by simp; omega) _
  have hX : W0.heap[w.heap.size + 2]? = some (.cells #[.pointer (some ⟨X, 0, none⟩)] 32 (0, 0)) := by
    rw [HW0.out]
    have := heap_alloc_at (((w.alloc (.cells #[.int .i64 most] 3)).alloc (.cells #[.slice none 0 0] 69))) (.cells #[.pointer (some ⟨X, 0, none⟩)] 32)
    simpa using this
  have hO : W0.heap[w.heap.size + 1]? = some (.cells #[.slice none 0 0] 69 (0, 0)) := by
    rw [HW0.out, heap_alloc_lt _ _ _ (by simp)]
    have := heap_alloc_at (w.alloc (.cells #[.int .i64 most] 3)) (.cells #[.slice none 0 0] 69)
    simpa using this
  have hMx : W0.heap[w.heap.size]? = some (.cells #[.int .i64 most] 3 (0, 0)) := by
    rw [HW0.out, heap_alloc_lt _ _ _ (by simp; omega), heap_alloc_lt _ _ _ (by simp)]
    exact heap_alloc_at w (.cells #[.int .i64 most] 3)
  have he' : EngAt W0 X J R clock pause cv := (hB0.block X (lt_of_heap he)).trans he
  have hr' := hr.frz (below_fr hB0)
  refine callsIn_of_wp_marks Tryz.func35 rfl trivial ?_ hro
  simp only [Tryz.ntmps35, List.size_toArray, List.length_cons, List.length_nil, Nat.reduceAdd, Nat.reduceSub, Array.replicate_succ, Array.replicate_zero, List.push_toArray, List.append_toArray, List.nil_append, List.cons_append]
  gi_wp2_with (refine ⟨trivial, ?_⟩; gi_at_call 48; refine (callsIn_wide.2 (eAll_ok _ _)).mono ?_; rintro e w' ⟨rfl, rfl⟩)
  rw [← HW0.out]
  clear HW0
  have hIo : OwnFrom W0.heap.size (fun (pre : List ST) W => (∃ v, Boxed W (w.heap.size + 1) 69 v ∧ W.ownsRow w.heap.size 42 6 v pre.length (pre.map ST.cs).flatten ∧ pre.length ≤ most.toNat) ∧ (Boxed W w.heap.size 3 (.int .i64 most) ∧ Below w.heap.size w W)) :=
    OwnFrom.and (Own.from (holdsRow_own w.heap.size (w.heap.size + 1) 69 42 6 (fun pre : List ST => pre.length) (fun pre => (pre.map ST.cs).flatten) (fun pre _ => pre.length ≤ most.toNat)) _) (OwnFrom.and (Own.from (boxed_own w.heap.size 3 (fun _ => .int .i64 most)) _) (ownFrom_below (Nat.le_refl _) (by omega)))
  refine wpIn_rangeFunc_ownH hro (by decide) (gf := 78) (lb := #[.pointer (some ⟨w.heap.size + 2, 0, none⟩)]) (by first | rfl | simp [Act.eval]) trivial (enters_of Tryz.func78 (by kernel_rfl) rfl)
    (all1_stops he' hr' hX hO hn h6 _) KpA.t (fun W l o o' _ hl hc _ => KpA.b W l o o' hl hc) (Below.refl _ _) (fun _ => rfl)
    (fun (pre : List ST) W => (∃ v, Boxed W (w.heap.size + 1) 69 v ∧ W.ownsRow w.heap.size 42 6 v pre.length (pre.map ST.cs).flatten ∧ pre.length ≤ most.toNat) ∧ (Boxed W w.heap.size 3 (.int .i64 most) ∧ Below w.heap.size w W))
    (fun c (q : List ST) W => (∃ v, Boxed W (w.heap.size + 1) 69 v ∧ W.ownsRow w.heap.size 42 6 v q.dropLast.length (q.dropLast.map ST.cs).flatten ∧ (c = .exit 0 ∧ q.dropLast.length = most.toNat)) ∧ Below w.heap.size w W)
    hIo
    (fun c => OwnFrom.and (Own.from (holdsRow_own w.heap.size (w.heap.size + 1) 69 42 6 (fun q : List ST => q.dropLast.length) (fun q => (q.dropLast.map ST.cs).flatten) (fun q _ => c = .exit 0 ∧ q.dropLast.length = most.toNat)) _) (ownFrom_below (Nat.le_refl _) (by omega)))
    ⟨⟨_, hO, World.ownsRow_nil _ _ _ _, Nat.zero_le _⟩, hMx, hB0⟩
    (fun x a' W => ∃ Bx, w.heap.size + 1 < Bx ∧ W.heap[Bx]? = some (.cells x.cs.toArray 42 (0, 0)) ∧ a' = { tmps := #[.pointer (some ⟨X, 0, none⟩), .int .i64 most, undef, .pointer (some ⟨w.heap.size, 0, none⟩), .slice none 0 0, .pointer (some ⟨w.heap.size + 1, 0, none⟩), .pointer (some ⟨Bx, 0, none⟩), .int .i64 most, .bool false, .pointer (some ⟨X, 0, none⟩), .func (.func 78) #[] #[.pointer (some ⟨w.heap.size + 2, 0, none⟩)], .agg x.cs.toArray, undef, undef, undef, undef, undef, undef, undef, undef, undef], defers := [] })
    (fun x a' s A B row hs hg hrow => by
      obtain ⟨Bx, h1, h2, h3⟩ := hs
      exact ⟨Bx, h1, (cells_own (β := Unit) Bx _ _) s A B row h2 hg (fun r e => (hrow r e).2), h3⟩)
    ?assign ?body ?done ?stop
  case assign =>
    rintro l pre x W K hi hK
    obtain ⟨WS, hst, hxr, hfS⟩ := stat_box W x
    gi_wp2_with (first | (refine wpListIn_store 42 (w' := WS) _ _ rfl rfl ?_ ?_; exact hst))
    refine hK _ _ ((KeepsOthers.fr hfS).from _) (KpA.fr hfS) (hIo pre W WS none hi (grown_fr hfS) (fun r e => by cases e)) ⟨W.heap.size, hi.1.choose_spec.1.lt, hxr, rfl⟩
  case body =>
    rintro l pre x a' W hl hrec ⟨⟨v, hv, hrow, hpm⟩, hm, hB⟩ ⟨Bx, hBx, hXx, rfl⟩ hlt
    obtain ⟨ao, cap, rfl⟩ := own_formE hrow
    have hc := hv.cell
    have hcm := hm.cell
    have hMX : W.rangeAt Bx 0 x.cs := fun j v hv => (cell_of_row W Bx (0 + j) _ _ _ hXx).trans (by simpa using hv)
    by_cases hpe : ((pre.length : Nat) : Int) = most
    · gi_wp2
      exact ⟨KeepsFrom.refl _ _, ⟨⟨_, hv, by rw [List.dropLast_concat]; exact hrow, rfl, by rw [List.dropLast_concat]; omega⟩, hB⟩⟩
    · obtain ⟨W1, HW1⟩ : ∃ W1, Hid (W1 = W.alloc (.cells x.cs.toArray 42)) := ⟨_, rfl⟩
      have hbs := bs_run W x
      have hr1 : W1.heap[W.heap.size]? = some (.cells x.cs.toArray 42 (0, 0)) := by rw [HW1.out]; exact heap_alloc_at _ _
      have hnews : ∀ j u, x.cs[j]? = some u → W1.cell? ((⟨W.heap.size, 0, none⟩ : Addr).add j) = some u := fun j u hj => by
        have h1 := cell_of_row W1 _ (0 + j) _ _ _ hr1
        rw [show ((⟨W.heap.size, 0, none⟩ : Addr).add j) = ⟨W.heap.size, 0 + j, none⟩ by (unfold Addr.add; split <;> simp_all), h1]
        simpa using hj
      have hrow1 : W1.ownsRow w.heap.size 42 6 (.slice ao pre.length cap) pre.length (pre.map ST.cs).flatten := by rw [HW1.out]; exact hrow.alloc _
      rw [← HW1.out] at hbs
      have hs1 : W1.heap.size = W.heap.size + 1 := by rw [HW1.out]; simp
      have hsW := hB.size
      clear hr1
      gi_wp2_with (first | (refine wpListIn_load_mid rfl 42 (.tmp 6) rfl Bx 0 ?_ _ _ hMX Tryz.underlying42 rfl ?_ ?_; rfl; exact status_size) | (refine wpListIn_buildSlice 69 1 #[(0, .tmp 17)] rfl rfl #[(0, .agg x.cs.toArray)] ?_ hbs ?_; (first | kernel_rfl | (simp [Act.eval]; done))) | (gi_at_builtin; refine wpListIn_append_own_at _ rfl _ _ 69 rfl w.heap.size 42 i0 (.agg zST.cs.toArray) 6 48 Tryz.underlying69 hi0 hz0 hz1 hz2 rfl (by decide) _ _ _ rfl hrow1 ⟨W.heap.size, 0, none⟩ 1 1 x.cs rfl x.len hnews x.one (by unfold maxLen; omega) (by omega) (by omega) ?_; intro v' w1 hown' hgrow _ hat; rw [HW1.out] at hgrow hat; obtain ⟨g', cap', rfl⟩ := ownsRow_succ hown'; obtain ⟨hv1, hv2, hr2, hk2, hb2⟩ := hv.appended (by decide) hrow hB.size (by omega) hown' hgrow; have hc1 := hv1.cell; have hf1 := hv1.frozen))
      refine ⟨hk2.from _, KpA.app hv hgrow hv2 hat, ⟨⟨_, hv2, by simpa using hr2, by simp; omega⟩, ((hm.alloc _).kept hgrow (hm.not_row (by decide) hrow)).other (by omega) _, hB.trans hb2⟩⟩
  case done =>
    rintro D ys W hD hys ⟨⟨v, hv, hrow, hpm⟩, hm, hB⟩ hK
    have hc := hv.cell
    subst hys
    gi_wp2
    refine ⟨by simp, .inl ⟨_, _, rfl, run_takeDeferred hK, ?_⟩⟩
    rw [List.take_of_length_le hpm]
    exact ⟨_, results_tmp rfl _ _ _, v, rfl, ownsRow_putObj hrow _ hK rfl, hB.trans (belowK_b (w := w) (Nat.le_refl _) W D _ _ (by omega) hK rfl rfl)⟩
  case stop =>
    rintro D c pre W hD hp ⟨⟨v, hv, hrow, rfl, hpm⟩, hB⟩ hK
    have hc := hv.cell
    have hpp : pre.dropLast = (sts es).take most.toNat := by
      have h1 : pre.dropLast <+: sts es := (List.dropLast_prefix pre).trans hp
      rw [List.prefix_iff_eq_take.1 h1, hpm]
    rw [hpp] at hrow
    gi_wp2
    refine ⟨by simp, .inl ⟨_, _, rfl, run_takeDeferred hK, ?_⟩⟩
    exact ⟨_, results_tmp rfl _ _ _, v, rfl, ownsRow_putObj hrow _ hK rfl, hB.trans (belowK_b (w := w) (Nat.le_refl _) W D _ _ (by omega) hK rfl rfl)⟩
set_option maxRecDepth 100000 in
set_option maxHeartbeats 2000000 in
theorem pAll_b1 {w : World} {X J R base : Nat} {clock pause room : Int} {cv ev : Value} {es : List (Nat × AS)} (he : EngAt w X J R clock pause cv) (hr : RollAt w R base room ev es) (hn : es.length ≤ 100000) (h6 : ∀ p ∈ es, p.2.st.length ≤ 6) (most : Int) (hm1 : most < 1) : CallsIn Fence.wide 3 Tryz.prog 35 #[.pointer (some ⟨X, 0, none⟩), .int .i64 most] w fun e w' => ∃ v, e = .returned v ∧ w'.ownsRow w.heap.size 42 6 v ((sts es).take (0 : Int).toNat).length (((sts es).take (0 : Int).toNat).map ST.cs).flatten ∧ Below w.heap.size w w' := by
  have hro : Fence.wide.round = none := rfl
  obtain ⟨i0, hi0, hz0, hz1, hz2⟩ := info_parts status_info
  have hsl : (sts es).length = es.length := List.length_map ..
  obtain ⟨W0, HW0⟩ : ∃ W0, Hid (W0 = ((w.alloc (.cells #[.int .i64 0] 3)).alloc (.cells #[.slice none 0 0] 69)).alloc (.cells #[.pointer (some ⟨X, 0, none⟩)] 32)) := ⟨_, rfl⟩
  have hsz : W0.heap.size = w.heap.size + 3 := by rw [HW0.out]; simp
  have hB0 : Below w.heap.size w W0 := by rw [HW0.out]; exact (((Below.refl _ w).alloc (Nat.le_refl _) _).alloc (by simp) _).alloc (by simp; omega) _
  have hX : W0.heap[w.heap.size + 2]? = some (.cells #[.pointer (some ⟨X, 0, none⟩)] 32 (0, 0)) := by
    rw [HW0.out]
    have := heap_alloc_at (((w.alloc (.cells #[.int .i64 0] 3)).alloc (.cells #[.slice none 0 0] 69))) (.cells #[.pointer (some ⟨X, 0, none⟩)] 32)
    simpa using this
  have hO : W0.heap[w.heap.size + 1]? = some (.cells #[.slice none 0 0] 69 (0, 0)) := by
    rw [HW0.out, heap_alloc_lt _ _ _ (by simp)]
    have := heap_alloc_at (w.alloc (.cells #[.int .i64 0] 3)) (.cells #[.slice none 0 0] 69)
    simpa using this
  have hMx : W0.heap[w.heap.size]? = some (.cells #[.int .i64 0] 3 (0, 0)) := by
    rw [HW0.out, heap_alloc_lt _ _ _ (by simp; omega), heap_alloc_lt _ _ _ (by simp)]
    exact heap_alloc_at w (.cells #[.int .i64 0] 3)
  have he' : EngAt W0 X J R clock pause cv := (hB0.block X (lt_of_heap he)).trans he
  have hr' := hr.frz (below_fr hB0)
  refine callsIn_of_wp_marks Tryz.func35 rfl trivial ?_ hro
  simp only [Tryz.ntmps35, List.size_toArray, List.length_cons, List.length_nil, Nat.reduceAdd, Nat.reduceSub, Array.replicate_succ, Array.replicate_zero, List.push_toArray, List.append_toArray, List.nil_append, List.cons_append]
  gi_wp2_with (refine ⟨trivial, ?_⟩; gi_at_call 48; refine (callsIn_wide.2 (eAll_ok _ _)).mono ?_; rintro e w' ⟨rfl, rfl⟩)
  rw [← HW0.out]
  clear HW0
  have hIo : OwnFrom W0.heap.size (fun (pre : List ST) W => (∃ v, Boxed W (w.heap.size + 1) 69 v ∧ W.ownsRow w.heap.size 42 6 v pre.length (pre.map ST.cs).flatten ∧ pre.length ≤ (0 : Int).toNat) ∧ (Boxed W w.heap.size 3 (.int .i64 0) ∧ Below w.heap.size w W)) :=
    OwnFrom.and (Own.from (holdsRow_own w.heap.size (w.heap.size + 1) 69 42 6 (fun pre : List ST => pre.length) (fun pre => (pre.map ST.cs).flatten) (fun pre _ => pre.length ≤ (0 : Int).toNat)) _) (OwnFrom.and (Own.from (boxed_own w.heap.size 3 (fun _ => .int .i64 0)) _) (ownFrom_below (Nat.le_refl _) (by omega)))
  refine wpIn_rangeFunc_ownH hro (by decide) (gf := 78) (lb := #[.pointer (some ⟨w.heap.size + 2, 0, none⟩)]) (by first | rfl | simp [Act.eval]) trivial (enters_of Tryz.func78 (by kernel_rfl) rfl)
    (all1_stops he' hr' hX hO hn h6 _) KpA.t (fun W l o o' _ hl hc _ => KpA.b W l o o' hl hc) (Below.refl _ _) (fun _ => rfl)
    (fun (pre : List ST) W => (∃ v, Boxed W (w.heap.size + 1) 69 v ∧ W.ownsRow w.heap.size 42 6 v pre.length (pre.map ST.cs).flatten ∧ pre.length ≤ (0 : Int).toNat) ∧ (Boxed W w.heap.size 3 (.int .i64 0) ∧ Below w.heap.size w W))
    (fun c (q : List ST) W => (∃ v, Boxed W (w.heap.size + 1) 69 v ∧ W.ownsRow w.heap.size 42 6 v q.dropLast.length (q.dropLast.map ST.cs).flatten ∧ (c = .exit 0 ∧ q.dropLast.length = (0 : Int).toNat)) ∧ Below w.heap.size w W)
    hIo
    (fun c => OwnFrom.and (Own.from (holdsRow_own w.heap.size (w.heap.size + 1) 69 42 6 (fun q : List ST => q.dropLast.length) (fun q => (q.dropLast.map ST.cs).flatten) (fun q _ => c = .exit 0 ∧ q.dropLast.length = (0 : Int).toNat)) _) (ownFrom_below (Nat.le_refl _) (by omega)))
    ⟨⟨_, hO, World.ownsRow_nil _ _ _ _, Nat.zero_le _⟩, hMx, hB0⟩
    (fun x a' W => ∃ Bx, w.heap.size + 1 < Bx ∧ W.heap[Bx]? = some (.cells x.cs.toArray 42 (0, 0)) ∧ a' = { tmps := #[.pointer (some ⟨X, 0, none⟩), .int .i64 most, undef, .pointer (some ⟨w.heap.size, 0, none⟩), .slice none 0 0, .pointer (some ⟨w.heap.size + 1, 0, none⟩), .pointer (some ⟨Bx, 0, none⟩), .int .i64 most, .bool true, .pointer (some ⟨X, 0, none⟩), .func (.func 78) #[] #[.pointer (some ⟨w.heap.size + 2, 0, none⟩)], .agg x.cs.toArray, undef, undef, undef, undef, undef, undef, undef, undef, undef], defers := [] })
    (fun x a' s A B row hs hg hrow => by
      obtain ⟨Bx, h1, h2, h3⟩ := hs
      exact ⟨Bx, h1, (cells_own (β := Unit) Bx _ _) s A B row h2 hg (fun r e => (hrow r e).2), h3⟩)
    ?assign ?body ?done ?stop
  case assign =>
    rintro l pre x W K hi hK
    obtain ⟨WS, hst, hxr, hfS⟩ := stat_box W x
    gi_wp2_with (first | (refine wpListIn_store 42 (w' := WS) _ _ rfl rfl ?_ ?_; exact hst))
    refine hK _ _ ((KeepsOthers.fr hfS).from _) (KpA.fr hfS) (hIo pre W WS none hi (grown_fr hfS) (fun r e => by cases e)) ⟨W.heap.size, hi.1.choose_spec.1.lt, hxr, rfl⟩
  case body =>
    rintro l pre x a' W hl hrec ⟨⟨v, hv, hrow, hpm⟩, hm, hB⟩ ⟨Bx, hBx, hXx, rfl⟩ hlt
    obtain ⟨ao, cap, rfl⟩ := own_formE hrow
    have hc := hv.cell
    have hcm := hm.cell
    have hMX : W.rangeAt Bx 0 x.cs := fun j v hv => (cell_of_row W Bx (0 + j) _ _ _ hXx).trans (by simpa using hv)
    by_cases hpe : ((pre.length : Nat) : Int) = 0
    · gi_wp2
      exact ⟨KeepsFrom.refl _ _, ⟨⟨_, hv, by rw [List.dropLast_concat]; exact hrow, rfl, by rw [List.dropLast_concat]; omega⟩, hB⟩⟩
    · exact absurd (show ((pre.length : Nat) : Int) = 0 by have : pre.length ≤ 0 := hpm; omega) hpe
  case done =>
    rintro D ys W hD hys ⟨⟨v, hv, hrow, hpm⟩, hm, hB⟩ hK
    have hc := hv.cell
    subst hys
    gi_wp2
    refine ⟨by simp, .inl ⟨_, _, rfl, run_takeDeferred hK, ?_⟩⟩
    rw [List.take_of_length_le hpm]
    exact ⟨_, results_tmp rfl _ _ _, v, rfl, ownsRow_putObj hrow _ hK rfl, hB.trans (belowK_b (w := w) (Nat.le_refl _) W D _ _ (by omega) hK rfl rfl)⟩
  case stop =>
    rintro D c pre W hD hp ⟨⟨v, hv, hrow, rfl, hpm⟩, hB⟩ hK
    have hc := hv.cell
    have hpp : pre.dropLast = (sts es).take (0 : Int).toNat := by
      have h1 : pre.dropLast <+: sts es := (List.dropLast_prefix pre).trans hp
      rw [List.prefix_iff_eq_take.1 h1, hpm]
    rw [hpp] at hrow
    gi_wp2
    refine ⟨by simp, .inl ⟨_, _, rfl, run_takeDeferred hK, ?_⟩⟩
    exact ⟨_, results_tmp rfl _ _ _, v, rfl, ownsRow_putObj hrow _ hK rfl, hB.trans (belowK_b (w := w) (Nat.le_refl _) W D _ _ (by omega) hK rfl rfl)⟩
theorem rows_own {w : World} {base : Nat} {t : TypeId} {ao : Option Addr} {cap : Nat} {L : List ST} (h : w.ownsRow base t 6 (.slice ao L.length cap) L.length (L.map ST.cs).flatten) : RowsOf w ao 6 (L.map ST.cs) := by
  intro i cs hi
  rw [List.getElem?_map] at hi
  obtain ⟨x, hx, rfl⟩ := Option.map_eq_some_iff.1 hi
  obtain ⟨hil, rfl⟩ := List.getElem?_eq_some_iff.1 hx
  rcases h.2 with ⟨_, hn⟩ | ⟨g, cap', cur, hv, _, hg, _, _, _, hxs⟩
  · omega
  · cases hv
    refine ⟨g, 0, rfl, fun j v hv => (cell_of_row w g (0 + i * 6 + j) _ _ _ hg).trans ?_⟩
    have hj := (List.getElem?_eq_some_iff.1 hv).1
    have e : L = L.take i ++ L[i] :: L.drop (i + 1) := by rw [List.getElem_cons_drop, List.take_append_drop]
    have hl : ((L.take i).map ST.cs).flatten.length = i * 6 := by
      have hfl : ∀ M : List ST, (M.map ST.cs).flatten.length = M.length * 6 := fun M => by
        induction M with
        | nil => rfl
        | cons a M ih => rw [List.map_cons, List.flatten_cons, List.length_append, ih, ST.len, List.length_cons]; omega
      rw [hfl, List.length_take]; rw [Nat.min_eq_left (by omega)]
    have h2 : (L.map ST.cs).flatten[0 + i * 6 + j]? = some v := by
      conv => lhs; rw [e]
      rw [List.map_append, List.flatten_append, List.getElem?_append_right (by omega), hl, List.map_cons, List.flatten_cons, show 0 + i * 6 + j - i * 6 = j by omega, List.getElem?_append_left hj]
      exact hv
    rw [← hxs, List.getElem?_take] at h2
    split at h2
    · simpa using h2
    · cases h2
theorem pAll_ok {w : World} {X J R base : Nat} {clock pause room : Int} {cv ev : Value} {es : List (Nat × AS)} (he : EngAt w X J R clock pause cv) (hr : RollAt w R base room ev es) (hn : es.length ≤ 100000) (h6 : ∀ p ∈ es, p.2.st.length ≤ 6) (most : Int) : Calls Tryz.prog 35 #[.pointer (some ⟨X, 0, none⟩), .int .i64 most] w fun e w' => AllQ ((sts es).take most.toNat) w e w' := by
  by_cases hm : most < 1
  · refine ((callsIn_wide (n := 3)).1 (pAll_b1 he hr hn h6 most hm)).mono ?_
    rintro e w' ⟨v, rfl, hrow, hB⟩
    have e0 : most.toNat = (0 : Int).toNat := by omega
    rw [e0]
    obtain ⟨ao, cap, rfl⟩ := own_formE hrow
    exact ⟨ao, cap, rfl, rows_own hrow, below_fr hB⟩
  · refine ((callsIn_wide (n := 3)).1 (pAll_b0 he hr hn h6 most hm)).mono ?_
    rintro e w' ⟨v, rfl, hrow, hB⟩
    obtain ⟨ao, cap, rfl⟩ := own_formE hrow
    exact ⟨ao, cap, rfl, rows_own hrow, below_fr hB⟩
end Go.Proofs.YteebjgfalllbjaaGreatDoor
namespace Go.Proofs.YteebjgfalllbjaaGreatDoor
open Go.RowKit
section
variable {w : World} {Q : World → Prop}
set_option maxRecDepth 100000 in
theorem eTick_nil {X : Nat} (h : Calls Tryz.prog 43 #[.pointer (some ⟨X, 0, none⟩)] w fun e w' => e = .returned .nilIface ∧ Q w') :
    Calls Tryz.prog 23 #[.pointer (some ⟨X, 0, none⟩)] w fun e w' => e = .returned .nilIface ∧ Q w' := by
  go_enter Tryz.func23, Tryz.ntmps23
  go_wp2_with fail
  refine h.mono ?_
  rintro e w2 ⟨rfl, hQ⟩
  go_wp2_with fail
  refine (wrapped_nil _ _).mono ?_
  rintro e w3 ⟨rfl, rfl⟩
  have HQ : Hid (Q w3) := hQ
  clear hQ
  go_wp2
  go_ret
  exact ⟨rfl, HQ.out⟩
end
end Go.Proofs.YteebjgfalllbjaaGreatDoor
