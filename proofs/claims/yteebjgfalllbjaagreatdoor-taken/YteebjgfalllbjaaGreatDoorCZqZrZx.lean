import Derived.Test.YteebjgfalllbjaaGreatDoorCZsZmZp
import Derived.Test.YteebjgfalllbjaaGreatDoorCJfTaFd
import Derived.Test.YteebjgfalllbjaaGreatDoorCZnZvZw
import Derived.Test.YteebjgfalllbjaaGreatDoorCOpCmCl
import Derived.Test.YteebjgfalllbjaaGreatDoorCZoZtZu
import Derived.Test.YteebjgfalllbjaaGreatDoorCKbKpKq
namespace Go.Proofs.YteebjgfalllbjaaGreatDoor
open Go.RowKit
theorem DP.nx_add (d : DP) (a c : Nat) : (d.nx a).nx c = d.nx (a + c) := by
  induction c with
  | zero => rfl
  | succ c ih => show ((d.nx a).nx c).next = (d.nx (a + c)).next; rw [ih]
theorem DS.after_after (s : DS) (a c : Nat) : (s.after a).after c = s.after (a + c) := by
  unfold DS.after; rw [DP.nx_add]
/-- What the work of journal.Find sees. -/
structure FdG (w : World) (X1 X2 X3 X4 V J A B n base : Nat) (cache tv fv : Value) (s : DS) : Prop where
  x1 : w.heap[X1]? = some (.cells #[.pointer (some ⟨V, 0, none⟩)] 155 (0, 0))
  x2 : w.heap[X2]? = some (.cells #[.pointer (some ⟨J, 0, none⟩)] 87 (0, 0))
  x3 : w.heap[X3]? = some (.cells #[tv] 127 (0, 0))
  x4 : w.heap[X4]? = some (.cells #[fv] 162 (0, 0))
  s : RdG w J V A B n base cache s 0
section
variable {w w' : World} {X1 X2 X3 X4 V J A B n base : Nat} {cache tv fv : Value} {s s' : DS}
theorem FdG.c1 (h : FdG w X1 X2 X3 X4 V J A B n base cache tv fv s) : w.cell? ⟨X1, 0, none⟩ = some (.pointer (some ⟨V, 0, none⟩)) := (cell_of_row w X1 0 _ _ _ h.x1).trans rfl
theorem FdG.c2 (h : FdG w X1 X2 X3 X4 V J A B n base cache tv fv s) : w.cell? ⟨X2, 0, none⟩ = some (.pointer (some ⟨J, 0, none⟩)) := (cell_of_row w X2 0 _ _ _ h.x2).trans rfl
theorem FdG.fr {S : Nat → Prop} (h : FdG w X1 X2 X3 X4 V J A B n base cache tv fv s) (hf : Fr S w w') (h1 : ¬ S X1) (h2 : ¬ S X2) (h3 : ¬ S X3) (h4 : ¬ S X4) (hV : ¬ S V) (hJ : ¬ S J) (hd : DSAt w' A B n base cache s') : FdG w' X1 X2 X3 X4 V J A B n base cache tv fv s' :=
  ⟨hf.keep h.x1 h1, hf.keep h.x2 h2, hf.keep h.x3 h3, hf.keep h.x4 h4, ⟨h.s.v.fr hf hV, hd, h.s.j.fr hf hJ⟩⟩
theorem FdG.frz (h : FdG w X1 X2 X3 X4 V J A B n base cache tv fv s) (hf : Fr (fun _ => False) w w') : FdG w' X1 X2 X3 X4 V J A B n base cache tv fv s :=
  h.fr hf id id id id id id (h.s.d.frz hf)
theorem FdG.ne (h : FdG w X1 X2 X3 X4 V J A B n base cache tv fv s) : X1 ≠ A ∧ X2 ≠ A ∧ X3 ≠ A ∧ X4 ≠ A ∧ V ≠ A ∧ J ≠ A ∧ X1 ≠ J ∧ X2 ≠ J ∧ X3 ≠ J ∧ X4 ≠ J := by
  have hd := h.s.d.d
  have hj := h.s.j
  refine ⟨?_, ?_, ?_, ?_, h.s.v.neK hd, ?_, ?_, ?_, ?_, ?_⟩ <;> intro e
  · rw [← e] at hd; have := hd.symm.trans h.x1; simp at this
  · rw [← e] at hd; have := hd.symm.trans h.x2; simp at this
  · rw [← e] at hd; have := hd.symm.trans h.x3; simp at this
  · rw [← e] at hd; have := hd.symm.trans h.x4; simp at this
  · rw [← e] at hd; have := hd.symm.trans hj; simp at this
  · rw [← e] at hj; have := hj.symm.trans h.x1; simp at this
  · rw [← e] at hj; have := hj.symm.trans h.x2; simp at this
  · rw [← e] at hj; have := hj.symm.trans h.x3; simp at this
  · rw [← e] at hj; have := hj.symm.trans h.x4; simp at this
end
set_option maxRecDepth 100000 in
set_option maxHeartbeats 4000000 in
theorem Find1_gen {recs : List (List Value)} {tl : List Value} {w : World} {X1 X2 X3 X4 V J A B n base : Nat} {cache tv fv : Value} {s : DS} (h : FdG w X1 X2 X3 X4 V J A B n base cache tv fv s) (hq : s.d.Q) (hq1 : (s.after 1).d.Q) (hn8 : 8 ≤ n) (hn : n ≤ 400) (hL : LayT n (lain s.bs s.ents) recs tl) (hrl : recs.length < n) (hrec : ∀ r ∈ recs, RecOk r) (HIT : ¬ s.d.good → ∀ i, i < n → ItH i) (hgA : 0 ≠ A)
    (RP : Nat → World → Prop) (SR : Nat → Prop) (hR : ∀ w', Fr (fun b => b = A) w w' → RP 0 w') (hP : ∀ i W W', RP i W → Fr (fun b => b = A ∨ b = J) W W' → RP i W') (hSR : (∀ b, DkF A B cache b → ¬ SR b) ∧ ¬ SR J ∧ ¬ SR V ∧ ¬ SR X2 ∧ ¬ SR X3 ∧ ¬ SR X4) (hGO : ∀ W, Fr (fun b => b = A ∨ b = J ∨ SR b) w W → GOk W)
    (hH : ∀ i r W, recs[i]? = some r → RP i W → W.heap[X3]? = some (.cells #[tv] 127 (0, 0)) → W.heap[X4]? = some (.cells #[fv] 162 (0, 0)) → Calls Tryz.prog 115 #[.agg r.toArray, .pointer (some ⟨X3, 0, none⟩), .pointer (some ⟨X4, 0, none⟩)] W fun e w' => e = .returned (.bool true) ∧ RP (i + 1) w' ∧ Fr SR W w') :
    Calls Tryz.prog 111 #[.pointer (some ⟨X1, 0, none⟩), .pointer (some ⟨X2, 0, none⟩), .pointer (some ⟨X3, 0, none⟩), .pointer (some ⟨X4, 0, none⟩)] w fun e w' => JrQ RP SR J V A B n base cache s recs.length (n + 1) w e w' := by
  obtain ⟨n1, n2, n3, n4, nV, nJ, m1, m2, m3, m4⟩ := h.ne
  obtain ⟨bq, hbq⟩ : ∃ bq, bq = false := ⟨_, rfl⟩
  have hqh : ∀ w, (binOp .neq 130 (.agg (blkOf (lain s.bs s.ents) 0).toArray) (.agg (headB n).toArray)).run Tryz.prog w = .ok (.bool bq) w := by
    intro w; rw [hbq, hL.head]; exact neq_head n w
  go_enter Tryz.func111, Tryz.ntmps111
  go_wp2_with fail
  have hlift : Tryz.prog.follows .mixedOrders = true := by kernel_rfl
  obtain ⟨W, HW⟩ : ∃ W, Hid (W = w.drew) := ⟨_, rfl⟩
  have hfW : Fr (fun _ => False) w W := by rw [HW.out]; exact (Fr.refl _ _).drew
  have hhW := h.frz hfW
  have hFW : Fr (fun b => b = A) w W := hfW.mono (fun _ _ h => h.elim)
  let S : World → Prop := fun w' => w'.cell? ⟨X1, 0, none⟩ = some (.pointer (some ⟨V, 0, none⟩))
  have hS : S W := hhW.c1
  refine wp_region_held (S := S) hlift ?_
  change wpAnyH _ _ _ _ S _ _ _ (World.drew _)
  rw [← HW.out]
  clear HW
  refine tkY (S := S) (i := 0) (oi := ⟨some 5, .load 155 (.tmp 0), _, _, _, none⟩) (v := .pointer (some ⟨V, 0, none⟩)) rfl (Or.inl ⟨rfl, fun w' hs => exec_load 155 (.tmp 0) rfl ⟨X1, 0, none⟩ rfl (run_loadAt_one hs Tryz.underlying155 rfl)⟩) hS ?_
  simp only [Act.put, lsE, lsZ, lsS]
  refine tkY (S := S) (i := 2) (oi := ⟨some 7, .load 155 (.tmp 0), _, _, _, none⟩) (v := .pointer (some ⟨V, 0, none⟩)) rfl (Or.inl ⟨rfl, fun w' hs => exec_load 155 (.tmp 0) rfl ⟨X1, 0, none⟩ rfl (run_loadAt_one hs Tryz.underlying155 rfl)⟩) hS ?_
  simp only [Act.put, lsE, lsZ, lsS]
  refine wpAnyH_all (rs := [1]) (by kernel_rfl) (by simp) ?_
  intro i1 hi1
  obtain rfl : i1 = 1 := by simpa using hi1
  have hld := Load_ds hhW.s.v hhW.s.d hq.ok 0 (by omega) (fun hg => HIT hg 0 (by omega)) (hGO W (hfW.mono (fun _ _ h => h.elim))) hgA
  rcases Bool.eq_false_or_eq_true s.d.bad with hbd | hbd
  · refine wpOp_panics (o := ⟨some 6, .call { callee := .value (.func 112), args := #[.tmp 5, .const (.int .i64 0)], argTypes := _ }, _, _, _, none⟩) (f := 112) (args := #[.pointer (some ⟨V, 0, none⟩), .int .i64 0]) rfl rfl (by kernel_rfl) ?_
    refine hld.mono ?_
    rintro e w2 ⟨hd2, hf2, he2⟩
    rw [if_pos hbd] at he2
    obtain ⟨gg, rfl, htr⟩ := he2
    exact ⟨_, rfl, rfl, .inr ⟨gg, 0, rfl, htr, hd2, hbd, by omega, (hFW.mono (fun _ _ h => .inl h)).trans hf2 (fun _ _ h => .inl h)⟩⟩
  refine wpOp_call (o := ⟨some 6, .call { callee := .value (.func 112), args := #[.tmp 5, .const (.int .i64 0)], argTypes := _ }, _, _, _, none⟩) (f := 112) (args := #[.pointer (some ⟨V, 0, none⟩), .int .i64 0]) rfl rfl (by kernel_rfl) ?_
  refine hld.mono ?_
  rintro e w2 ⟨hd2, hf2, he2⟩
  rw [if_neg (by rw [hbd]; simp)] at he2
  subst he2
  have hh2 : FdG w2 X1 X2 X3 X4 V J A B n base cache tv fv (s.after 1) := hhW.fr hf2 n1 n2 n3 n4 nV nJ hd2
  have hF2 : Fr (fun b => b = A) w w2 := hFW.trans hf2 (fun _ _ h => h)
  refine ⟨_, rfl, hh2.c1, ?_⟩
  simp only [Act.put, lsE, lsZ, lsS]
  refine wpAnyH_all (rs := [3]) (by kernel_rfl) (by simp) ?_
  intro i3 hi3
  obtain rfl : i3 = 3 := by simpa using hi3
  refine wpOp_call (o := ⟨some 8, .call { callee := .value (.func 110), args := #[.tmp 7], argTypes := _ }, _, _, _, none⟩) (f := 110) (args := #[.pointer (some ⟨V, 0, none⟩)]) rfl rfl (by kernel_rfl) ?_
  refine (vBlocks_ok hh2.s.v).mono ?_
  rintro e w' ⟨rfl, rfl⟩
  refine ⟨_, rfl, hh2.c1, ?_⟩
  simp only [Act.put, lsE, lsZ, lsS]
  refine wpAnyH_all (rs := [4]) (by kernel_rfl) (by simp) ?_
  intro i4 hi4
  obtain rfl : i4 = 4 := by simpa using hi4
  refine wpOp_call (o := ⟨some 9, .call { callee := .value (.func 113), args := #[.tmp 8], argTypes := _ }, _, _, _, none⟩) (f := 113) (args := #[.int .i64 n]) rfl rfl (by kernel_rfl) ?_
  refine (Head_ok _ n hn).mono ?_
  rintro e w3 ⟨rfl, hf3⟩
  have hh3 := hh2.frz hf3
  have hF3 : Fr (fun b => b = A) w w3 := hF2.trans hf3 (fun _ _ h => h.elim)
  have hS3 : S w3 := hh3.c1
  refine ⟨_, rfl, hh3.c1, ?_⟩
  simp only [Act.put, lsE, lsZ, lsS]
  refine tkY (S := S) (i := 5) (oi := ⟨some 10, .binOp .neq 130 (.tmp 6) (.tmp 9) 130, _, _, _, none⟩) (v := .bool bq) rfl (Or.inl ⟨rfl, fun w' _ => exec_neq_block rfl rfl rfl (hqh w')⟩) hS3 ?_
  simp only [Act.put, lsE, lsZ, lsS]
  refine wpAnyH_done (by kernel_rfl) ?_ _
  clear hS hS3
  subst hbq
  have c2 := hh3.c2
  have HR3 : RP 0 w3 := hR w3 hF3
  have hSR' := hSR
  obtain ⟨q1, q2, q3, q5, q6, q7⟩ := hSR
  have HJ := jread_gen (t1 := X3) (t2 := X4) RP SR hh3.s hq1 hL hn8 hn hrl hrec HR3 (fun hg => HIT (fun h => hg (h.after 1))) (fun W hf => hGO W ((hF3.mono (fun _ _ h => .inl h)).trans hf (fun _ _ h => h))) hgA hP ⟨q1, q2, q3⟩ (fun i r W hr hRP hf => hH i r W hr hRP (hf.keep hh3.x3 (by rintro (e | e | e); exact n3 e; exact m3 e; exact q6 e)) (hf.keep hh3.x4 (by rintro (e | e | e); exact n4 e; exact m4 e; exact q7 e)))
  go_wp2_with fail
  refine HJ.mono ?_
  rintro e w4 (⟨rfl, cl, g1, g3, g4, g5⟩ | ⟨gg, cl, rfl, htr, hd, hbd2, hc, g5⟩)
  · have HF4 : Hid (Fr (fun b => b = A ∨ b = J ∨ SR b) w w4) := (hF3.mono (fun _ _ h => .inl h)).trans g5 (fun _ _ h => h)
    rw [DS.after_after] at g3
    go_wp2
    go_ret
    exact .inl ⟨rfl, 1 + cl, by omega, g3, g4, HF4.out⟩
  · rw [DS.after_after] at hd hbd2
    exact ⟨rfl, .inr ⟨gg, 1 + cl, rfl, htr, hd, hbd2, by omega, (hF3.mono (fun _ _ h => .inl h)).trans g5 (fun _ _ h => h)⟩⟩
theorem fdW_g {w : World} {V A B n base : Nat} {cache tv fv : Value} {s : DS} (hv : VolAt w V A n) (hd : DSAt w A B n base cache s) :
    FdG (fdW w V tv fv) w.heap.size (w.heap.size + 4) (w.heap.size + 1) (w.heap.size + 2) V (w.heap.size + 3) A B n base cache tv fv s := by
  have hf := fdW_fr w V tv fv
  refine ⟨?_, ?_, ?_, ?_, hv.fr hf id, hd.frz hf, ?_⟩
  · unfold fdW
    rw [heap_alloc_lt _ _ _ (by simp <;> omega), heap_alloc_lt _ _ _ (by simp <;> omega), heap_alloc_lt _ _ _ (by simp <;> omega), heap_alloc_lt _ _ _ (by simp <;> omega)]
    exact heap_alloc_at _ _
  · unfold fdW
    have := heap_alloc_at ((((w.alloc (.cells #[.pointer (some ⟨V, 0, none⟩)] 155)).alloc (.cells #[tv] 127)).alloc (.cells #[fv] 162)).alloc (.cells #[.pointer (some ⟨V, 0, none⟩), .int .i64 1, .bool false] 179)) (.cells #[.pointer (some ⟨w.heap.size + 1 + 1 + 1, 0, none⟩)] 87)
    simpa using this
  · unfold fdW
    rw [heap_alloc_lt _ _ _ (by simp <;> omega), heap_alloc_lt _ _ _ (by simp <;> omega), heap_alloc_lt _ _ _ (by simp <;> omega)]
    have := heap_alloc_at (w.alloc (.cells #[.pointer (some ⟨V, 0, none⟩)] 155)) (.cells #[tv] 127)
    simpa using this
  · unfold fdW
    rw [heap_alloc_lt _ _ _ (by simp <;> omega), heap_alloc_lt _ _ _ (by simp <;> omega)]
    have := heap_alloc_at ((w.alloc (.cells #[.pointer (some ⟨V, 0, none⟩)] 155)).alloc (.cells #[tv] 127)) (.cells #[fv] 162)
    simpa using this
  · unfold fdW JAt
    rw [heap_alloc_lt _ _ _ (by simp <;> omega)]
    have := heap_alloc_at (((w.alloc (.cells #[.pointer (some ⟨V, 0, none⟩)] 155)).alloc (.cells #[tv] 127)).alloc (.cells #[fv] 162)) (.cells #[.pointer (some ⟨V, 0, none⟩), .int .i64 1, .bool false] 179)
    simpa using this
section
variable {w : World} {V A B n base : Nat} {cache : Value} {s : DS} {tfn ffn : Fn} {ta tc fa fc : Array Value}
/-- What journal.Find answers. -/
def FnQ (RP : Nat → World → Prop) (SR : Nat → Prop) (J V A B n base : Nat) (cache : Value) (s : DS) (l m : Nat) (w : World) (e : Ending) (w' : World) : Prop :=
  (e = .returned (.tuple #[.pointer (some ⟨J, 0, none⟩), .nilIface]) ∧ ∃ c, c ≤ m ∧ RdG w' J V A B n base cache (s.after c) l ∧ RP l w' ∧ Fr (fun b => b = A ∨ SR b) w w' ∧ w.heap.size + 6 ≤ w'.heap.size) ∨
  (∃ g c, e = .returned (.tuple #[.pointer none, trV g]) ∧ TrAt w' g ∧ DSAt w' A B n base cache (s.after (c + 1)) ∧ (s.after c).d.bad = true ∧ c ≤ m ∧ Fr (fun b => b = A ∨ SR b) w w')
set_option maxRecDepth 100000 in
set_option maxHeartbeats 1000000 in
theorem Find_gen {recs : List (List Value)} {tl : List Value} (hv : VolAt w V A n) (hd : DSAt w A B n base cache s) (hq : s.d.Q) (hq1 : (s.after 1).d.Q) (hn8 : 8 ≤ n) (hn : n ≤ 400) (hL : LayT n (lain s.bs s.ents) recs tl) (hrl : recs.length < n) (hrec : ∀ r ∈ recs, RecOk r) (HIT : ¬ s.d.good → ∀ i, i < n → ItH i) (hgA : 0 ≠ A) (hGw : GOk w)
    (RP : Nat → World → Prop) (SR : Nat → Prop) (hR : ∀ w', Fr (fun b => b = A) w w' → w.heap.size + 6 ≤ w'.heap.size → RP 0 w') (hP : ∀ i W W', RP i W → Fr (fun b => b = A ∨ (w.heap.size ≤ b ∧ b < w.heap.size + 6)) W W' → RP i W') (hSR : ∀ b, SR b → b < w.heap.size ∧ ¬ DkF A B cache b ∧ b ≠ V ∧ b ≠ 0)
    (hH : ∀ i r W, recs[i]? = some r → RP i W → W.heap[w.heap.size + 1]? = some (.cells #[.func tfn ta tc] 127 (0, 0)) → W.heap[w.heap.size + 2]? = some (.cells #[.func ffn fa fc] 162 (0, 0)) → Calls Tryz.prog 115 #[.agg r.toArray, .pointer (some ⟨w.heap.size + 1, 0, none⟩), .pointer (some ⟨w.heap.size + 2, 0, none⟩)] W fun e w' => e = .returned (.bool true) ∧ RP (i + 1) w' ∧ Fr (fun b => SR b ∨ w.heap.size + 6 ≤ b) W w') :
    Calls Tryz.prog 75 #[.pointer (some ⟨V, 0, none⟩), .func tfn ta tc, .func ffn fa fc] w fun e w' => FnQ RP SR (w.heap.size + 3) V A B n base cache s recs.length (n + 1) w e w' := by
  have hmf : ∀ (fn : Fn) (first cap : Array Value) (w : World), (Instr.makeFunc fn first cap).run Tryz.prog w = .ok (.func fn first cap) w := fun _ _ _ _ => rfl
  have hs := fdW_g (tv := .func tfn ta tc) (fv := .func ffn fa fc) hv hd
  have hfw := fdW_fr w V (.func tfn ta tc) (.func ffn fa fc)
  have hsz := fdW_size w V (.func tfn ta tc) (.func ffn fa fc)
  obtain ⟨W, HW⟩ : ∃ W, Hid (W = fdW w V (.func tfn ta tc) (.func ffn fa fc)) := ⟨_, rfl⟩
  rw [← HW.out] at hs hfw hsz
  have hAl := hd.d.lt
  have hVl := lt_of_heap hv
  have hGl : 0 < w.heap.size := World.block_lt_of_cell? w _ hGw
  have hdl : ∀ b, DkF A B cache b → b < w.heap.size := by
    rintro b (e | e | e)
    · omega
    · rw [e]; exact lt_of_heap hd.r.1
    · exact (hd.q.o.lt b e).2
  have hT := Try_gen (w := W) (f := 111) (caps := #[.pointer (some ⟨w.heap.size, 0, none⟩), .pointer (some ⟨w.heap.size + 4, 0, none⟩), .pointer (some ⟨w.heap.size + 1, 0, none⟩), .pointer (some ⟨w.heap.size + 2, 0, none⟩)])
    (Q := fun v w' => (v = .nilIface ∧ w'.cell? ⟨w.heap.size + 4, 0, none⟩ = some (.pointer (some ⟨w.heap.size + 3, 0, none⟩)) ∧ ∃ c, c ≤ n + 1 ∧ RdG w' (w.heap.size + 3) V A B n base cache (s.after c) recs.length ∧ RP recs.length w' ∧ Fr (fun b => b = A ∨ SR b) w w' ∧ w.heap.size + 6 ≤ w'.heap.size) ∨ (∃ g c, v = trV g ∧ TrAt w' g ∧ DSAt w' A B n base cache (s.after (c + 1)) ∧ (s.after c).d.bad = true ∧ c ≤ n + 1 ∧ Fr (fun b => b = A ∨ SR b) w w')) (fun _ => by kernel_rfl) (by
      have hfa : Fr (fun _ => False) W (W.alloc (.cells #[.nilIface] 36)) := (Fr.refl _ _).alloc _
      have hfb : Fr (fun b => b = A) w (W.alloc (.cells #[.nilIface] 36)) := (hfw.mono (fun _ _ h => h.elim)).trans (hfa.mono (fun _ _ h => h.elim)) (fun _ _ h => h)
      have hs2 := hs.frz hfa
      have nS : ∀ b, b < w.heap.size + 6 → w.heap.size ≤ b → ¬ (SR b ∨ w.heap.size + 6 ≤ b) := fun b h1 h2 h => by
        rcases h with h | h
        · have := (hSR b h).1; omega
        · omega
      refine (Find1_gen hs2 hq hq1 hn8 hn hL hrl hrec HIT hgA RP (fun b => SR b ∨ w.heap.size + 6 ≤ b) (fun w' hf' => hR w' (hfb.trans hf' (fun _ _ h => h)) (by have h1 := hf'.size; simp at h1; omega)) (fun i W1 W2 hr1 hf1 => hP i W1 W2 hr1 (hf1.mono (fun b _ h => by rcases h with h | h; exact .inl h; exact .inr (by omega)))) ⟨?_, nS _ (by omega) (by omega), ?_, nS _ (by omega) (by omega), nS _ (by omega) (by omega), nS _ (by omega) (by omega)⟩ (fun W1 hf1 => ?_) (fun i r W1 hr1 hrp h3 h4 => hH i r W1 hr1 hrp h3 h4)).mono ?_
      · rintro b hb (h | h)
        · exact (hSR _ h).2.1 hb
        · have := hdl b hb; omega
      · rintro (h | h)
        · exact (hSR _ h).2.2.1 rfl
        · omega
      · refine (hGw.fr hfb hgA).fr hf1 ?_
        rintro (h | h | h | h)
        · exact hgA h
        · omega
        · exact (hSR _ h).2.2.2 rfl
        · omega
      rintro e w' hj
      have gF : ∀ {w' : World}, Fr (fun b => b = A ∨ b = w.heap.size + 3 ∨ (SR b ∨ w.heap.size + 6 ≤ b)) (W.alloc (.cells #[.nilIface] 36)) w' → Fr (fun b => b = A ∨ SR b) w w' := fun g5 => (hfb.mono (fun _ _ h => .inl h)).trans g5 (fun b hb h => by
        rcases h with h | h | h | h
        · exact .inl h
        · omega
        · exact .inr h
        · omega)
      have hset : ∀ (u : World) (v : Value), Fr (fun b => b = W.heap.size) u (u.setCell ⟨W.heap.size, 0, none⟩ v) := fun u v => Fr.set1 _ _ _ _
      have hdn : ∀ b, DkF A B cache b → ¬ b = W.heap.size := fun b hb e => by have := hdl b hb; omega
      rcases hj with ⟨rfl, c, g1, g3, g4, g5⟩ | ⟨g, c, rfl, htr, hd2, hbd, hc, g5⟩
      · have hk : ∀ {b : Nat} {o : Obj}, (W.alloc (.cells #[.nilIface] 36)).heap[b]? = some o → b ≠ A → b ≠ w.heap.size + 3 → ¬ (SR b ∨ w.heap.size + 6 ≤ b) → w'.heap[b]? = some o := fun hb h1 h2 h3 => g5.keep hb (by rintro (h | h | h); exact h1 h; exact h2 h; exact h3 h)
        have hE : w'.heap[W.heap.size]? = some (.cells #[.nilIface] 36 (0, 0)) := hk (heap_alloc_at _ _) (by omega) (by omega) (nS _ (by omega) (by omega))
        have hX2 := hk hs2.x2 (by omega) (by omega) (nS _ (by omega) (by omega))
        refine ⟨hE, .inl ⟨_, rfl, rfl, .inl ⟨rfl, (hset _ _).cell ((cell_of_row w' _ 0 _ _ _ hX2).trans rfl) (by simp; omega), c, g1, ⟨g3.v.fr (hset _ _) (by omega), g3.d.fr (hset _ _) hdn, g3.j.fr (hset _ _) (by omega)⟩, hP _ _ _ g4 ((hset _ _).mono (fun b _ h => .inr (by omega))), (gF g5).trans (hset _ _) (fun b hb h => by omega), ?_⟩⟩⟩
        have h5 := g5.size
        have h6 := (hset w' .nilIface).size
        simp at h5
        omega
      · have hE : w'.heap[W.heap.size]? = some (.cells #[.nilIface] 36 (0, 0)) := g5.keep (heap_alloc_at _ _) (by rintro (h | h | h); omega; omega; exact nS _ (by omega) (by omega) h)
        have hGw' : GOk w' := hGw.fr (gF g5) (by rintro (h | h); exact hgA h; exact (hSR _ h).2.2.2 rfl)
        refine ⟨hE, .inr ⟨g, rfl, hGw', fun w1 hf1 => .inr ⟨g, c, rfl, ?_, (hd2.frz hf1).fr (hset _ _) hdn, hbd, hc, ((gF g5).trans (hf1.mono (fun _ _ h => h.elim)) (fun _ _ h => h)).trans (hset _ _) (fun b hb h => by omega)⟩⟩⟩
        refine (htr.fr hf1 (fun _ _ _ _ _ h => h)).fr (hset _ _) (fun b cc t hb ht e => ?_)
        subst e
        rw [hf1.keep hE (fun h => h)] at hb; simp at hb
        rw [← hb.2] at ht
        revert ht; decide)
  unfold fdW at HW
  clear hs hfw
  go_enter Tryz.func75, Tryz.ntmps75
  go_wp2_with fail
  rw [← HW.out]
  refine hT.mono ?_
  rintro e w' ⟨v, rfl, ⟨rfl, hc, HX⟩ | ⟨g, c, rfl, HX⟩⟩
  · have HX' : Hid (∃ c, c ≤ n + 1 ∧ RdG w' (w.heap.size + 3) V A B n base cache (s.after c) recs.length ∧ RP recs.length w' ∧ Fr (fun b => b = A ∨ SR b) w w' ∧ w.heap.size + 6 ≤ w'.heap.size) := HX
    clear HW hT HX
    go_wp2
    go_ret2
    exact .inl ⟨rfl, HX'.out⟩
  · have HX' : Hid (TrAt w' g ∧ DSAt w' A B n base cache (s.after (c + 1)) ∧ (s.after c).d.bad = true ∧ c ≤ n + 1 ∧ Fr (fun b => b = A ∨ SR b) w w') := HX
    clear HW hT HX
    unfold trV
    go_wp2
    go_ret2
    exact .inr ⟨g, c, rfl, HX'.out⟩
end
end Go.Proofs.YteebjgfalllbjaaGreatDoor
namespace Go.Proofs.YteebjgfalllbjaaGreatDoor
open Go.RowKit
/-- An error that wraps what a volume threw. -/
def ErrT (w : World) (v : Value) : Prop := ∃ f s g, v = .iface 117 (.pointer (some ⟨f, 0, none⟩)) ∧ w.heap[f]? = some (.cells #[.string s, trV g] 119 (0, 0)) ∧ TrAt w g
theorem wrapped_tr (s : ByteArray) (g : Nat) (w : World) : Calls Tryz.prog 41 #[.string s, .iface 258 (.pointer (some ⟨g, 0, none⟩))] w fun e w' => e = .returned (.iface 117 (.pointer (some ⟨w.heap.size, 0, none⟩))) ∧ w' = w.alloc (.cells #[.string s, trV g] 119) := by
  unfold trV
  go_enter Tryz.func41, Tryz.ntmps41
  go_wp2
  go_ret
  exact ⟨rfl, rfl⟩
section
variable {w : World} {A B n base : Nat} {cache : Value} {s : DS} {d : DP} {cfn : Fn} {ca cc : Array Value}
theorem dBlocks_gen (h : DkAt w A B n cache d) :
    Calls Tryz.prog 204 #[.pointer (some ⟨A, 0, none⟩)] w fun e w' => e = .returned (.int .i64 n) ∧ w' = w := by
  have c0 := h.c0
  clear h
  go_enter Tryz.func204, Tryz.ntmps204
  go_wp2
  go_ret
  exact ⟨rfl, rfl⟩
theorem count_gen (h : DkAt w A B n cache d) :
    Calls Tryz.prog 109 #[.iface 31 (.pointer (some ⟨A, 0, none⟩))] w fun e w' => e = .returned (.int .i64 n) ∧ Fr (fun _ => False) w w' := by
  have hmf : ∀ (fn : Fn) (first cap : Array Value) (w : World), (Instr.makeFunc fn first cap).run Tryz.prog w = .ok (.func fn first cap) w := fun _ _ _ _ => rfl
  have mb := method_Blocks
  go_enter_defers Tryz.func109, Tryz.ntmps109
  go_wp2_with fail
  refine (dBlocks_gen (h.alloc _)).mono ?_
  rintro e w2 ⟨rfl, rfl⟩
  go_wp2
  refine leaves_cons (f := 152) (args := #[.pointer (some ⟨w.heap.size, 0, none⟩)]) (by simp) (by simp [go_sem]) ?_
  refine (count1_idle ⟨w.heap.size, 0, none⟩ _).mono ?_
  rintro e u' w'' ⟨rfl, rfl, rfl⟩
  simp [Leaves, settle, results, Tryz.results109, go_sem]
  exact (Fr.refl _ _).alloc _

theorem New_gen (h : DkAt w A B n cache d) (hn8 : 8 ≤ n) (hn : n ≤ 400) :
    Calls Tryz.prog 72 #[.iface 31 (.pointer (some ⟨A, 0, none⟩))] w fun e w' => ∃ V, e = .returned (.tuple #[.pointer (some ⟨V, 0, none⟩), .nilIface]) ∧ VolAt w' V A n ∧ w.heap.size ≤ V ∧ Fr (fun _ => False) w w' := by
  have hn' : ¬ (n : Int) < 8 := by omega
  have hn'' : ¬ (400 : Int) < n := by omega
  have hd : decide ((n : Int) < 8) = false := by simpa using hn'
  have hd2 : decide ((400 : Int) < n) = false := by simpa using hn''
  go_enter Tryz.func72, Tryz.ntmps72
  go_wp2_with fail
  refine (count_gen h).mono ?_
  rintro e w2 ⟨rfl, hf⟩
  go_wp2
  go_ret2
  exact ⟨w2.heap.size, rfl, heap_alloc_at _ _, hf.size, hf.alloc _⟩

/-- What Open gives. -/
def OpnG (RP : Nat → Nat → World → Prop) (A B n base : Nat) (cache : Value) (s : DS) (p : Int) (cv : Value) (recs : List (List Value)) (w : World) (X : Nat) (w' : World) : Prop :=
  ∃ V R J c, EngAt w' X J R 0 p cv ∧ c ≤ n + 1 ∧ RdG w' J V A B n base cache (s.after c) recs.length ∧ RP R recs.length w' ∧ w.heap.size ≤ V ∧ V < R ∧ J = R + 4 ∧ R + 7 ≤ X ∧ Fr (fun b => b = A) w w'
def OpG (RP : Nat → Nat → World → Prop) (A B n base : Nat) (cache : Value) (s : DS) (p : Int) (cv : Value) (recs : List (List Value)) (w : World) (e : Ending) (w' : World) : Prop :=
  (∃ X, e = .returned (.tuple #[.pointer (some ⟨X, 0, none⟩), .nilIface]) ∧ OpnG RP A B n base cache s p cv recs w X w') ∨
  (∃ v c, e = .returned (.tuple #[.pointer none, v]) ∧ ErrT w' v ∧ DSAt w' A B n base cache (s.after (c + 1)) ∧ (s.after c).d.bad = true ∧ c ≤ n + 1 ∧ Fr (fun b => b = A) w w')
set_option maxRecDepth 100000 in
set_option maxHeartbeats 1000000 in
theorem sOpen_gen {recs : List (List Value)} {tl : List Value} (p : Int) (hp1 : ¬ p < 1) (hp2 : ¬ 64 < p) (hd : DSAt w A B n base cache s) (hq : s.d.Q) (hq1 : (s.after 1).d.Q) (hn8 : 8 ≤ n) (hn : n ≤ 400) (hL : LayT n (lain s.bs s.ents) recs tl) (hrl : recs.length < n) (hrec : ∀ r ∈ recs, RecOk r) (HIT : ¬ s.d.good → ∀ i, i < n → ItH i) (hgA : 0 ≠ A) (hGw : GOk w)
    (RP : Nat → Nat → World → Prop) (hR : ∀ R W, w.heap.size ≤ R → W.heap[R]? = some (.cells #[.slice none 0 0, .int .i64 ((n : Int) - 1)] 176 (0, 0)) → R + 7 ≤ W.heap.size → RP R 0 W)
    (hP : ∀ R i W W', w.heap.size ≤ R → RP R i W → Fr (fun b => b = A ∨ (R < b ∧ b < R + 7)) W W' → RP R i W')
    (hH : ∀ R i r W, w.heap.size ≤ R → recs[i]? = some r → RP R i W → W.heap[R + 2]? = some (.cells #[.func (.func 63) #[.pointer (some ⟨R, 0, none⟩)] #[]] 127 (0, 0)) → W.heap[R + 3]? = some (.cells #[.func (.func 76) #[.pointer (some ⟨R, 0, none⟩)] #[]] 162 (0, 0)) → Calls Tryz.prog 115 #[.agg r.toArray, .pointer (some ⟨R + 2, 0, none⟩), .pointer (some ⟨R + 3, 0, none⟩)] W fun e w' => e = .returned (.bool true) ∧ RP R (i + 1) w' ∧ Fr (fun b => b = R ∨ R + 7 ≤ b) W w') :
    Calls Tryz.prog 46 #[.iface 31 (.pointer (some ⟨A, 0, none⟩)), .int .i64 p, .func cfn ca cc] w fun e w' => OpG RP A B n base cache s p (.func cfn ca cc) recs w e w' := by
  have hmf : ∀ (fn : Fn) (first cap : Array Value) (w : World), (Instr.makeFunc fn first cap).run Tryz.prog w = .ok (.func fn first cap) w := fun _ _ _ _ => rfl
  have hd1 : decide (p < 1) = false := by simpa using hp1
  have hd2 : decide (64 < p) = false := by simpa using hp2
  have hAl := hd.d.lt
  have hGl : 0 < w.heap.size := World.block_lt_of_cell? w _ hGw
  have hdl : ∀ b, DkF A B cache b → b < w.heap.size := by
    rintro b (e | e | e)
    · omega
    · rw [e]; exact lt_of_heap hd.r.1
    · exact (hd.q.o.lt b e).2
  go_enter Tryz.func46, Tryz.ntmps46
  go_wp2_with fail
  refine (New_gen hd.d hn8 hn).mono ?_
  rintro e w2 ⟨V, rfl, hv, hVl, hf⟩
  go_wp2_with fail
  refine (jRoom_ok hv (by omega) hn).mono ?_
  rintro e w' ⟨rfl, rfl⟩
  go_wp2_with fail
  refine (rollNew_ok _ _).mono ?_
  rintro e w3 ⟨rfl, rfl⟩
  have hVl2 := lt_of_heap hv
  have hsz := hf.size
  obtain ⟨R, HRR⟩ : ∃ R, Hid (R = w'.heap.size) := ⟨_, rfl⟩
  have hf3 : Fr (fun _ => False) w' (w'.alloc (.cells #[.slice none 0 0, .int .i64 ((n : Int) - 1)] 176)) := (Fr.refl _ _).alloc _
  have hroll : (w'.alloc (.cells #[.slice none 0 0, .int .i64 ((n : Int) - 1)] 176)).heap[w'.heap.size]? = some (.cells #[.slice none 0 0, .int .i64 ((n : Int) - 1)] 176 (0, 0)) := heap_alloc_at _ _
  have hsz3 : (w'.alloc (.cells #[.slice none 0 0, .int .i64 ((n : Int) - 1)] 176)).heap.size = R + 1 := by rw [HRR.out]; simp
  obtain ⟨W3, HW3⟩ : ∃ W3, Hid (W3 = w'.alloc (.cells #[.slice none 0 0, .int .i64 ((n : Int) - 1)] 176)) := ⟨_, rfl⟩
  have hRl : w.heap.size ≤ R := by rw [HRR.out]; exact hsz
  have hVR : V < R := by rw [HRR.out]; exact hVl2
  rw [← HW3.out] at hf3 hroll hsz3 ⊢
  rw [← HRR.out] at hroll ⊢
  have hf13 : Fr (fun b => b = A) w W3 := (hf.mono (fun _ _ h => h.elim)).trans (hf3.mono (fun _ _ h => h.elim)) (fun _ _ h => h)
  have HF := Find_gen (w := W3) (tfn := .func 63) (ta := #[.pointer (some ⟨R, 0, none⟩)]) (tc := #[]) (ffn := .func 76) (fa := #[.pointer (some ⟨R, 0, none⟩)]) (fc := #[]) (hv.fr hf3 id) ((hd.frz hf).frz hf3) hq hq1 hn8 hn hL hrl hrec HIT hgA ((hGw.fr hf id).fr hf3 id) (RP R) (fun b => b = R)
    (fun w4 hf4 h46 => hR R w4 hRl (hf4.keep hroll (by omega)) (by omega)) (fun i W1 W2 hr1 hf1 => hP R i W1 W2 hRl hr1 (hf1.mono (fun b _ h => by rw [hsz3] at h; rcases h with h | h; exact .inl h; exact .inr (by omega)))) (fun b hb => ⟨by omega, fun h => by have := hdl b h; omega, by omega, by omega⟩)
    (fun i r W hr1 hrp h3 h4 => by
      rw [hsz3] at h3 h4 ⊢
      refine (hH R i r W hRl hr1 hrp h3 h4).mono ?_
      rintro e w5 ⟨h1, h2, h3⟩
      exact ⟨h1, h2, h3.mono (fun b _ h => by rcases h with h | h; exact .inl h; exact .inr (by omega))⟩)
  clear hroll HW3 HRR hf3 hv hH hR
  go_wp2_with fail
  refine HF.mono ?_
  rintro e w5 (⟨rfl, cl, g1, g3, g4, g5, g6⟩ | ⟨gg, cl, rfl, htr, hd5, hbd, hc, g5⟩)
  · have hsz5 := g5.size
    rw [hsz3] at g3 g6 ⊢
    have hfe : Fr (fun _ => False) w5 (w5.alloc (.cells #[.pointer (some ⟨R + 1 + 3, 0, none⟩), .pointer (some ⟨R, 0, none⟩), .bool false, .int .i64 0, .int .i64 p, .func cfn ca cc] 91)) := (Fr.refl _ _).alloc _
    have HQ : Hid (R + 7 ≤ w5.heap.size → OpnG RP A B n base cache s p (.func cfn ca cc) recs w w5.heap.size (w5.alloc (.cells #[.pointer (some ⟨R + 1 + 3, 0, none⟩), .pointer (some ⟨R, 0, none⟩), .bool false, .int .i64 0, .int .i64 p, .func cfn ca cc] 91))) :=
      fun h7 => ⟨V, R, R + 1 + 3, cl, heap_alloc_at _ _, g1, g3.frz hfe, hP R _ _ _ hRl g4 (hfe.mono (fun _ _ h => h.elim)), hVl, hVR, by omega, h7, (hf13.trans g5 (fun b hb h => by rcases h with h | h; exact h; omega)).trans hfe (fun _ _ h => h.elim)⟩
    clear HF hfe g4 g5 hf13 hP
    go_wp2
    go_ret2
    exact .inl ⟨_, rfl, HQ.out (by omega)⟩
  · have HD : Hid (TrAt w5 gg ∧ DSAt w5 A B n base cache (s.after (cl + 1)) ∧ Fr (fun b => b = A) w w5) := ⟨htr, hd5, hf13.trans g5 (fun b hb h => by rcases h with h | h; exact h; omega)⟩
    clear HF g5 hf13 hP htr hd5
    unfold trV
    go_wp2_with fail
    refine (wrapped_tr _ gg w5).mono ?_
    rintro e w6 ⟨rfl, rfl⟩
    have hfe : Fr (fun _ => False) w5 (w5.alloc (.cells #[.string ⟨#[79, 112, 101, 110]⟩, trV gg] 119)) := (Fr.refl _ _).alloc _
    have HE : Hid (ErrT (w5.alloc (.cells #[.string ⟨#[79, 112, 101, 110]⟩, trV gg] 119)) (.iface 117 (.pointer (some ⟨w5.heap.size, 0, none⟩))) ∧ DSAt (w5.alloc (.cells #[.string ⟨#[79, 112, 101, 110]⟩, trV gg] 119)) A B n base cache (s.after (cl + 1)) ∧ Fr (fun b => b = A) w (w5.alloc (.cells #[.string ⟨#[79, 112, 101, 110]⟩, trV gg] 119))) := ⟨⟨w5.heap.size, _, gg, rfl, heap_alloc_at _ _, HD.out.1.fr hfe (fun _ _ _ _ _ h => h)⟩, HD.out.2.1.frz hfe, HD.out.2.2.trans hfe (fun _ _ h => h.elim)⟩
    clear hfe
    go_wp2
    go_ret2
    exact .inr ⟨_, cl, rfl, HE.out.1, HE.out.2.1, hbd, hc, HE.out.2.2⟩
end
end Go.Proofs.YteebjgfalllbjaaGreatDoor
namespace Go.Proofs.YteebjgfalllbjaaGreatDoor
open Go.RowKit
/-- A disk has counted so many steps at most. -/
structure Bd (k : Nat) (s : DS) : Prop where
  c0 : 0 ≤ s.d.calls
  c1 : s.d.calls ≤ 1000 * (k : Int)
  w0 : 0 ≤ s.d.writes
  w1 : s.d.writes ≤ 1000 * (k : Int)
  t0 : 0 ≤ s.d.told
  t1 : s.d.told ≤ 1000 * (k : Int)
  e : s.ents.length ≤ 2 * k
theorem Bd.q {k : Nat} {s : DS} (h : Bd k s) (hk : k < 80000) : s.d.Q := by
  obtain ⟨a, b, c, d, e, f, g⟩ := h
  exact ⟨a, by omega, c, by omega, e, by omega⟩
theorem Bd.moved {k : Nat} {s s' : DS} {j : Int} (h : Bd k s) (hm : Moved j s.d s'.d) (hj : j ≤ 1000) (he : s'.ents.length ≤ s.ents.length + 2) : Bd (k + 1) s' := by
  obtain ⟨a, b, c, d, e, f, g⟩ := h
  obtain ⟨a1, a2, a3, a4, a5, a6, _⟩ := hm
  exact ⟨by omega, by push_cast; omega, by omega, by push_cast; omega, by omega, by push_cast; omega, by omega⟩
theorem Bd.mono {k l : Nat} {s : DS} (h : Bd k s) (hl : k ≤ l) : Bd l s := by
  obtain ⟨a, b, c, d, e, f, g⟩ := h
  exact ⟨a, by omega, c, by omega, e, by omega, by omega⟩
/-- A disk, whatever is pending; C: where that lies. -/
def DG (w : World) (k A B n : Nat) (s : DS) (C : Nat → Prop) : Prop := Bd k s ∧ ∃ base cache, DSAt w A B n base cache s ∧ (∀ b, cache.ownBlock = some b → C b) ∧ 0 < base ∧ base ≤ A ∧ base ≤ B
/-- An engine over such a disk, as it lies in memory. -/
structure EGw (w : World) (X J R V A B n base dbase : Nat) (room clock pause : Int) (ev cv cache : Value) (es : List (Nat × AS)) (sb : Bool) (s : DS) (L : List AS) (rs : List Rec) (F : Nat → Prop) : Prop where
  eng : EngAt w X J R clock pause cv
  roll : RollAt w R base room ev es
  jn : JnG w J V A B n dbase cache s ((rs.length + 1 : Nat) : Int) sb
  hi : Hi dbase A B J
  m : es.map (·.2) = L
  rm : room = (n : Int) - 1 - needC rs
  b : base ≤ w.heap.size
  f : ∀ c, EngF X J R V ev es c → F c
def EG (w : World) (k X A B n : Nat) (clock pause : Int) (cv : Value) (L : List AS) (rs : List Rec) (s : DS) (C F : Nat → Prop) : Prop :=
  ENp n clock L rs ∧ Bd k s ∧ JD n s (rs.map Rec.bytes) ∧ ∃ J R V base dbase room ev cache es sb, (sb = true → JSet n s (rs.map Rec.bytes)) ∧ EGw w X J R V A B n base dbase room clock pause ev cv cache es sb s L rs F ∧ ∀ b, cache.ownBlock = some b → C b
/-- An engine that has failed. -/
def ED (w : World) (X n : Nat) (clock pause : Int) (cv : Value) (L : List AS) (rs : List Rec) (F : Nat → Prop) : Prop :=
  ENp n clock L rs ∧ ∃ J R base room ev es, EngB w X J R true clock pause cv ∧ RollAt w R base room ev es ∧ es.map (·.2) = L ∧ F X ∧ ∀ b, RollF R ev es b → F b
section
variable {w w' : World} {k X J R V A B n base dbase : Nat} {room clock pause : Int} {ev cv cache : Value} {es : List (Nat × AS)} {sb : Bool} {s : DS} {L : List AS} {rs : List Rec} {C F : Nat → Prop}
theorem EGw.dis (h : EGw w X J R V A B n base dbase room clock pause ev cv cache es sb s L rs F) : ∀ b, RollF R ev es b → ¬ JnF A B J cache b ∧ b ≠ V ∧ b ≠ X := by
  intro b hb
  obtain ⟨c, t, hc, ht⟩ := roll_f h.roll hb
  refine ⟨?_, fun e => ?_, fun e => ?_⟩
  · rintro (hd | e)
    · exact h.jn.d.not hc (by rcases ht with rfl | rfl | rfl <;> decide) hd
    · subst e; have := hc.symm.trans h.jn.j; simp at this; rw [this.2] at ht; revert ht; decide
  · subst e; have := hc.symm.trans h.jn.v; simp at this; rw [this.2] at ht; revert ht; decide
  · subst e; have := hc.symm.trans h.eng; simp at this; rw [this.2] at ht; revert ht; decide
theorem EGw.fu (g : EGw w X J R V A B n base dbase room clock pause ev cv cache es sb s L rs F) : FU w (EngF X J R V ev es) := by
  rintro b (rfl | rfl | rfl | hb)
  · exact ⟨_, _, g.eng, .inl rfl⟩
  · exact ⟨_, _, g.jn.j, .inr (.inl rfl)⟩
  · exact ⟨_, _, g.jn.v, .inr (.inr (.inl rfl))⟩
  · obtain ⟨c, t, hc, ht⟩ := roll_f g.roll hb
    refine ⟨c, t, hc, ?_⟩
    rcases ht with rfl | rfl | rfl
    · exact .inr (.inr (.inr (.inl rfl)))
    · exact .inr (.inr (.inr (.inr (.inl rfl))))
    · exact .inr (.inr (.inr (.inr (.inr rfl))))
theorem EGw.frz (g : EGw w X J R V A B n base dbase room clock pause ev cv cache es sb s L rs F) (hf : Fr (fun _ => False) w w') : EGw w' X J R V A B n base dbase room clock pause ev cv cache es sb s L rs F :=
  ⟨hf.keep g.eng (fun h => h), g.roll.frz hf, g.jn.frz hf, g.hi, g.m, g.rm, Nat.le_trans g.b hf.size, g.f⟩
theorem EGw.fr {S : Nat → Prop} (g : EGw w X J R V A B n base dbase room clock pause ev cv cache es sb s L rs F) (hf : Fr S w w') (hA : ¬ S A) (hB : ¬ S B) (hC : ∀ b, cache.ownBlock = some b → ¬ S b) (hF : ∀ b, EngF X J R V ev es b → ¬ S b) : EGw w' X J R V A B n base dbase room clock pause ev cv cache es sb s L rs F :=
  ⟨hf.keep g.eng (hF _ (.inl rfl)), g.roll.fr hf (fun _ hb => hF _ (.inr (.inr (.inr hb)))), g.jn.fr hf (fun b hb => by
    rcases hb with ((rfl | rfl | hb) | rfl) | rfl
    · exact hA
    · exact hB
    · exact hC b hb
    · exact hF _ (.inr (.inl rfl))
    · exact hF _ (.inr (.inr (.inl rfl)))), g.hi, g.m, g.rm, Nat.le_trans g.b hf.size, g.f⟩
theorem EG.fr {S : Nat → Prop} (h : EG w k X A B n clock pause cv L rs s C F) (hf : Fr S w w') (hA : ¬ S A) (hB : ¬ S B) (hC : ∀ b, C b → ¬ S b) (hF : ∀ b, F b → ¬ S b) : EG w' k X A B n clock pause cv L rs s C F := by
  obtain ⟨hp, hb, hj, J, R, V, base, dbase, room, ev, cache, es, sb, hs, g, hc⟩ := h
  exact ⟨hp, hb, hj, J, R, V, base, dbase, room, ev, cache, es, sb, hs, g.fr hf hA hB (fun b hb => hC b (hc b hb)) (fun b hb => hF b (g.f b hb)), hc⟩
theorem EG.disk (h : EG w k X A B n clock pause cv L rs s C F) : DG w k A B n s C := by
  obtain ⟨hp, hb, hj, J, R, V, base, dbase, room, ev, cache, es, sb, hs, g, hc⟩ := h
  exact ⟨hb, dbase, cache, g.jn.d, hc, g.hi.1, g.hi.2.1, g.hi.2.2.1⟩
theorem DG.fr {S : Nat → Prop} (h : DG w k A B n s C) (hf : Fr S w w') (hA : ¬ S A) (hB : ¬ S B) (hC : ∀ b, C b → ¬ S b) : DG w' k A B n s C := by
  obtain ⟨hb, base, cache, hd, hc, h1, h2, h3⟩ := h
  refine ⟨hb, base, cache, hd.fr hf ?_, hc, h1, h2, h3⟩
  rintro b (rfl | rfl | h)
  · exact hA
  · exact hB
  · exact hC b (hc b h)
theorem EG.sta (h : EG w k X A B n clock pause cv L rs s C F) (id : Int) : Calls Tryz.prog 24 #[.pointer (some ⟨X, 0, none⟩), .int .i64 id] w fun e w' => StatA L id w e w' := by
  obtain ⟨hp, hb, hj, J, R, V, base, dbase, room, ev, cache, es, sb, hs, g, hc⟩ := h
  have hlen : es.length = L.length := by rw [← g.m, List.length_map]
  have hl := hp.len
  have := eStatus_ok g.eng g.roll (sorted_of g.m hp.so) (by omega) (fun p hp' => (hp.mem (mem_of_map g.m hp')).1.l6) id
  rwa [g.m] at this
theorem EG.all (h : EG w k X A B n clock pause cv L rs s C F) (most : Int) : Calls Tryz.prog 35 #[.pointer (some ⟨X, 0, none⟩), .int .i64 most] w fun e w' => AllQ ((L.take most.toNat).map AS.told) w e w' := by
  obtain ⟨hp, hb, hj, J, R, V, base, dbase, room, ev, cache, es, sb, hs, g, hc⟩ := h
  have hlen : es.length = L.length := by rw [← g.m, List.length_map]
  have hl := hp.len
  have := pAll_ok g.eng g.roll (by omega) (fun p hp' => (hp.mem (mem_of_map g.m hp')).1.l6) most
  have e : (sts es).take most.toNat = (L.take most.toNat).map AS.told := by
    rw [← g.m, List.map_take, List.map_map]; rfl
  rwa [e] at this
end
section
variable {w : World} {Q : Value → World → Prop}
set_option maxRecDepth 100000 in
/-- Submit hands on what submit answers: nothing, or what a volume threw. -/
theorem eSubmit_tr {X n m : Nat} {ao : Option Addr} {id : Int} (h : Calls Tryz.prog 42 #[.pointer (some ⟨X, 0, none⟩), .int .i64 id, .slice ao n m] w fun e w' => ∃ v, e = .returned v ∧ (v = .nilIface ∨ ∃ g, v = trV g) ∧ Q v w') :
    Calls Tryz.prog 21 #[.pointer (some ⟨X, 0, none⟩), .int .i64 id, .slice ao n m] w fun e w' => (e = .returned .nilIface ∧ Q .nilIface w') ∨ (∃ g w1 f t, e = .returned (.iface 117 (.pointer (some ⟨f, 0, none⟩))) ∧ w'.heap[f]? = some (.cells #[.string t, trV g] 119 (0, 0)) ∧ Q (trV g) w1 ∧ Fr (fun _ => False) w1 w') := by
  go_enter Tryz.func21, Tryz.ntmps21
  go_wp2_with fail
  refine h.mono ?_
  rintro e w2 ⟨v, rfl, hv, hQ⟩
  rcases hv with rfl | ⟨g, rfl⟩
  · go_wp2_with fail
    refine (wrapped_nil _ _).mono ?_
    rintro e w3 ⟨rfl, rfl⟩
    have HQ : Hid (Q .nilIface w3) := hQ
    clear hQ
    go_wp2
    go_ret
    exact .inl ⟨rfl, HQ.out⟩
  · have HQ : Hid (Q (trV g) w2) := hQ
    clear hQ
    unfold trV
    go_wp2_with fail
    refine (wrapped_tr _ g _).mono ?_
    rintro e w3 ⟨rfl, rfl⟩
    go_wp2
    go_ret
    exact .inr ⟨g, w2, _, _, rfl, heap_alloc_at _ _, HQ.out, (Fr.refl _ _).alloc _⟩
set_option maxRecDepth 100000 in
theorem eTick_tr {X : Nat} (h : Calls Tryz.prog 43 #[.pointer (some ⟨X, 0, none⟩)] w fun e w' => ∃ v, e = .returned v ∧ (v = .nilIface ∨ ∃ g, v = trV g) ∧ Q v w') :
    Calls Tryz.prog 23 #[.pointer (some ⟨X, 0, none⟩)] w fun e w' => (e = .returned .nilIface ∧ Q .nilIface w') ∨ (∃ g w1 f t, e = .returned (.iface 117 (.pointer (some ⟨f, 0, none⟩))) ∧ w'.heap[f]? = some (.cells #[.string t, trV g] 119 (0, 0)) ∧ Q (trV g) w1 ∧ Fr (fun _ => False) w1 w') := by
  go_enter Tryz.func23, Tryz.ntmps23
  go_wp2_with fail
  refine h.mono ?_
  rintro e w2 ⟨v, rfl, hv, hQ⟩
  rcases hv with rfl | ⟨g, rfl⟩
  · go_wp2_with fail
    refine (wrapped_nil _ _).mono ?_
    rintro e w3 ⟨rfl, rfl⟩
    have HQ : Hid (Q .nilIface w3) := hQ
    clear hQ
    go_wp2
    go_ret
    exact .inl ⟨rfl, HQ.out⟩
  · have HQ : Hid (Q (trV g) w2) := hQ
    clear hQ
    unfold trV
    go_wp2_with fail
    refine (wrapped_tr _ g _).mono ?_
    rintro e w3 ⟨rfl, rfl⟩
    go_wp2
    go_ret
    exact .inr ⟨g, w2, _, _, rfl, heap_alloc_at _ _, HQ.out, (Fr.refl _ _).alloc _⟩
end
end Go.Proofs.YteebjgfalllbjaaGreatDoor
