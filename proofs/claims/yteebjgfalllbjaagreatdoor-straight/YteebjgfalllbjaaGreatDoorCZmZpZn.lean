import Derived.Test.YteebjgfalllbjaaGreatDoorCZhZiZl
import Derived.Test.YteebjgfalllbjaaGreatDoorCRg2FeAd
import Derived.Test.YteebjgfalllbjaaGreatDoorCFoReAk
import Derived.Test.YteebjgfalllbjaaGreatDoorCJrFmJf
namespace Go.Proofs.YteebjgfalllbjaaGreatDoor
open Go.RowKit
def Sel (b : Bool) (P Q : Prop) : Prop := if b = true then P else Q
theorem Sel.pos {b : Bool} {P Q : Prop} (h : b = true) (hp : P) : Sel b P Q := by unfold Sel; rw [if_pos h]; exact hp
theorem Sel.neg {b : Bool} {P Q : Prop} (h : ¬ b = true) (hq : Q) : Sel b P Q := by unfold Sel; rw [if_neg h]; exact hq
theorem Sel.out {b : Bool} {P Q : Prop} (h : Sel b P Q) : (b = true ∧ P) ∨ (¬ b = true ∧ Q) := by
 unfold Sel at h
 split at h
 ·rename_i hb; exact .inl ⟨hb, h⟩
 ·rename_i hb; exact .inr ⟨hb, h⟩
structure DP.Q (d : DP) : Prop where
 c0 : 0 ≤ d.calls
 c1 : d.calls < 900000000
 w0 : 0 ≤ d.writes
 w1 : d.writes < 900000000
 t0 : 0 ≤ d.told
 t1 : d.told < 900000000
theorem DP.Q.ok {d : DP} (h : d.Q) : d.Ok := ⟨h.c0, by have := h.c1; omega, h.w0, by have := h.w1; omega, h.t0, by have := h.t1; omega⟩
theorem DP.told_next (d : DP) : d.told ≤ d.next.told ∧ d.next.told ≤ d.told + 1 := by
 show d.told ≤ (if d.bad = true then d.told + 1 else d.told) ∧ (if d.bad = true then d.told + 1 else d.told) ≤ d.told + 1
 split <;> omega
theorem DP.Q.nw {d : DP} (h : d.Q) : d.next.wrote.Ok := by
 have := d.told_next
 have := h.c0; have := h.c1; have := h.w0; have := h.w1; have := h.t0; have := h.t1
 refine ⟨?_, ?_, ?_, ?_, ?_, ?_⟩
 ·show 0 ≤ d.calls + 1; omega
 ·show d.calls + 1 < 1000000000; omega
 ·show 0 ≤ d.writes + 1; omega
 ·show d.writes + 1 < 1000000000; omega
 ·show 0 ≤ d.next.told; omega
 ·show d.next.told < 1000000000; omega
theorem DSAt.not {w : World} {A B n base : Nat} {cache : Value} {s : DS} (h : DSAt w A B n base cache s) {b : Nat} {c : Array Value} {t : TypeId} (hb : w.heap[b]? = some (.cells c t (0, 0))) (ht : t ≠ 96 ∧ t ≠ 97 ∧ t ≠ 101) : ¬ DkF A B cache b := by
 rintro (e | e | e)
 ·subst e; have := hb.symm.trans h.d; simp at this; exact ht.1 this.2
 ·subst e; have := hb.symm.trans h.r.1; simp at this; exact ht.2.1 this.2
 ·obtain ⟨c', hc⟩ := own_tyZ h.q.o e; have := hb.symm.trans hc; simp at this; exact ht.2.2 this.2
set_option maxRecDepth 100000 in
set_option maxHeartbeats 2000000 in
theorem Settle1_gen {w : World} {X J V A B n e base : Nat} {cache : Value} {s : DS} (hx : w.heap[X]? = some (.cells #[.pointer (some ⟨J, 0, none⟩)] 87 (0, 0))) (hj : JAt w J V e false) (hv : VolAt w V A n) (h : DSAt w A B n base cache s) (hq : s.d.Q) (hel : s.ents.length < 900000) (he : e < n) (HI : ItH e) (hG : GOk w) (hgA : 0 ≠ A) :
  Calls Tryz.prog 138 #[.pointer (some ⟨X, 0, none⟩)] w fun e' w' => ∃ cache', DSAt w' A B n base cache' (s.put e zB).2 ∧ CB w cache cache' ∧ VolAt w' V A n ∧ Fr (fun b => DkF A B cache b ∨ b = J) w w' ∧ Sel (s.put e zB).1 (e' = .returned .nilIface ∧ JAt w' J V e true) (JAt w' J V e false ∧ ∃ g, e' = Thrown g ∧ TrAt w' g) := by
 have hlift : Tryz.prog.follows .mixedOrders = true := by kernel_rfl
 have nJ := h.not hj (by decide)
 have nV := h.not hv (by decide)
 have nX := h.not hx (by decide)
 have nJV : J ≠ V := fun e => by have := hj; rw [e] at this; have := this.symm.trans hv; simp at this
 have nXJ : X ≠ J := fun e => by have := hx; rw [e] at this; have := this.symm.trans hj; simp at this
 go_enter Tryz.func138, Tryz.ntmps138
 go_wp2
 obtain ⟨W, HW⟩ : ∃ W, Hid (W = w.drew) := ⟨_, rfl⟩
 have hfW : Fr (fun _ => False) w W := by rw [HW.out]; exact (Fr.refl _ _).drew
 let S : World → Prop := fun w' => w'.cell? ⟨X, 0, none⟩ = some (.pointer (some ⟨J, 0, none⟩)) ∧ w'.cell? ⟨J, 0, none⟩ = some (.pointer (some ⟨V, 0, none⟩)) ∧ w'.cell? ⟨J, 1, none⟩ = some (.int .i64 e)
 have hS : S W := ⟨(cell_of_row W X 0 _ _ _ (hfW.keep hx (fun h => h))).trans rfl, (hj.fr hfW id).c0, (hj.fr hfW id).c1⟩
 refine wp_region_held (S := S) hlift ?_
 change wpAnyH _ _ _ _ S _ _ _ (World.drew _)
 rw [← HW.out]
 clear HW
 refine tkY (S := S) (i := 0) (oi := ⟨some 2, .load 87 (.tmp 0), _, _, _, none⟩) (v := .pointer (some ⟨J, 0, none⟩)) rfl (Or.inl ⟨rfl, fun w' hs => exec_load 87 (.tmp 0) rfl ⟨X, 0, none⟩ rfl (run_loadAt_one hs.1 Tryz.underlying87 rfl)⟩) hS ?_
 simp only [Act.put, lsE, lsZ, lsS]
 refine tkE (S := S) (i := 1) (oi := ⟨some 3, .nilCheck (.tmp 2), _, _, _, none⟩) (v := .pointer (some ⟨J, 0, none⟩)) rfl hS ?_
 simp only [Act.put, lsE, lsZ, lsS]
 refine tkE (S := S) (i := 2) (oi := ⟨some 4, .fieldAddr 179 (.tmp 3) 0, _, _, _, none⟩) (v := .pointer (some ⟨J, 0, none⟩)) rfl hS ?_
 simp only [Act.put, lsE, lsZ, lsS]
 refine tkY (S := S) (i := 3) (oi := ⟨some 5, .load 155 (.tmp 4), _, _, _, none⟩) (v := .pointer (some ⟨V, 0, none⟩)) rfl (Or.inl ⟨rfl, fun w' hs => exec_load 155 (.tmp 4) rfl ⟨J, 0, none⟩ rfl (run_loadAt_one hs.2.1 Tryz.underlying155 rfl)⟩) hS ?_
 simp only [Act.put, lsE, lsZ, lsS]
 refine tkY (S := S) (i := 4) (oi := ⟨some 6, .load 87 (.tmp 0), _, _, _, none⟩) (v := .pointer (some ⟨J, 0, none⟩)) rfl (Or.inl ⟨rfl, fun w' hs => exec_load 87 (.tmp 0) rfl ⟨X, 0, none⟩ rfl (run_loadAt_one hs.1 Tryz.underlying87 rfl)⟩) hS ?_
 simp only [Act.put, lsE, lsZ, lsS]
 refine tkE (S := S) (i := 5) (oi := ⟨some 7, .nilCheck (.tmp 6), _, _, _, none⟩) (v := .pointer (some ⟨J, 0, none⟩)) rfl hS ?_
 simp only [Act.put, lsE, lsZ, lsS]
 refine tkE (S := S) (i := 6) (oi := ⟨some 8, .fieldAddr 179 (.tmp 7) 1, _, _, _, none⟩) (v := .pointer (some ⟨J, 1, none⟩)) rfl hS ?_
 simp only [Act.put, lsE, lsZ, lsS]
 refine tkY (S := S) (i := 7) (oi := ⟨some 9, .load 3 (.tmp 8), _, _, _, none⟩) (v := .int .i64 e) rfl (Or.inl ⟨rfl, fun w' hs => exec_load 3 (.tmp 8) rfl ⟨J, 1, none⟩ rfl (run_loadAt_one hs.2.2 Tryz.underlying3 rfl)⟩) hS ?_
 simp only [Act.put, lsE, lsZ, lsS]
 refine tkY (S := S) (i := 8) (oi := ⟨some 10, .build 130 #[], _, _, _, none⟩) (v := .agg zB.toArray) rfl (Or.inl ⟨rfl, fun w' _ => exec_build0 rfl w'⟩) hS ?_
 simp only [Act.put, lsE, lsZ, lsS]
 refine wpAnyH_all (rs := [9]) (by kernel_rfl) (by simp) ?_
 intro i9 hi9
 obtain rfl : i9 = 9 := by simpa using hi9
 have hst := Store_ds (hv.fr hfW id) (h.frz hfW) hq.ok hel e he zB zB_len zB_one HI (hG.fr hfW id) hgA
 by_cases hb : (s.store e zB).1 = true
 ·refine wpOp_call (o := ⟨some 11, .call { callee := .value (.func 94), args := #[(.tmp 5), (.tmp 9), (.tmp 10)], argTypes := _ }, _, _, _, none⟩) (f := 94) (args := #[.pointer (some ⟨V, 0, none⟩), .int .i64 e, .agg zB.toArray]) rfl rfl (by kernel_rfl) ?_
  refine hst.mono ?_
  rintro e' w1 ⟨cache1, hd1, hcb1, hf1, he1⟩
  rw [if_pos hb] at he1
  subst he1
  have x1 := hf1.keep (hfW.keep hx (fun h => h)) nX
  have j1 : JAt w1 J V e false := hf1.keep (hfW.keep hj (fun h => h)) nJ
  have v1 : VolAt w1 V A n := hf1.keep (hfW.keep hv (fun h => h)) nV
  have hcb1' : CB w cache cache1 := fun b hb => (hcb1 b hb).imp_right (fun h => Nat.le_trans hfW.size h)
  have hF1 : Fr (DkF A B cache) w w1 := (hfW.mono (fun _ _ h => h.elim)).trans hf1 (fun _ _ h => h)
  refine ⟨_, rfl, ?_, ?_⟩
  ·exact ⟨(cell_of_row w1 X 0 _ _ _ x1).trans rfl, j1.c0, j1.c1⟩
  simp only [Act.put, lsE, lsZ, lsS]
  refine wpAnyH_done (by kernel_rfl) ?_ _
  have cx1 : w1.cell? ⟨X, 0, none⟩ = some (.pointer (some ⟨J, 0, none⟩)) := (cell_of_row w1 X 0 _ _ _ x1).trans rfl
  have c01 := j1.c0
  have hs2 : (s.store e zB).2 = ⟨s.d.next.wrote, s.ents ++ [(e, zB)], s.bs⟩ := by
   unfold DS.store at hb ⊢
   split at hb
   ·cases hb
   ·rename_i h1; rw [if_neg h1]
  have hse := Secure_ds v1 hd1 (by rw [hs2]; exact hq.nw) (by rw [hs2]; simp)
  have hpt : s.put e zB = (s.store e zB).2.secure := by unfold DS.put; rw [if_pos hb]
  have nJ1 := hd1.not j1 (by decide)
  have nV1 := hd1.not v1 (by decide)
  have nX1 := hd1.not x1 (by decide)
  obtain ⟨s2, HS2⟩ : ∃ s2, Hid (s2 = (s.store e zB).2) := ⟨_, rfl⟩
  rw [← HS2.out] at hse hpt
  have HPT : Hid (s.put e zB = s2.secure) := hpt
  have HSE := hse
  clear hS hst hs2 hse hpt
  go_wp2_with fail
  refine HSE.mono ?_
  rintro e' w2 ⟨cache2, hd2, hcb2, hf2, he2⟩
  have x2 := hf2.keep x1 nX1
  have j2 : JAt w2 J V e false := hf2.keep j1 nJ1
  have v2 : VolAt w2 V A n := hf2.keep v1 nV1
  have hcb : CB w cache cache2 := fun b hb => by
   rcases hcb2 b hb with h1 | h1
   ·exact hcb1' b h1
   ·right; have := hF1.size; omega
  have hF2 : Fr (DkF A B cache) w w2 := hF1.trans hf2 (fun b hb h => by
   rcases h with h | h | h
   ·exact .inl h
   ·exact .inr (.inl h)
   ·rcases hcb1' b h with h1 | h1
    ·exact .inr (.inr h1)
    ·omega)
  by_cases hb2 : s2.secure.1 = true
  ·rw [if_pos hb2] at he2
   subst he2
   have cx2 : w2.cell? ⟨X, 0, none⟩ = some (.pointer (some ⟨J, 0, none⟩)) := (cell_of_row w2 X 0 _ _ _ x2).trans rfl
   have c12 := j2.c1
   have c22 := j2.c2
   have z12 := j2.fz 1
   have z22 := j2.fz 2
   have nJ2 := hd2.not j2 (by decide)
   have jE := j2.set2 true
   have hfE : Fr (fun b => b = J) w2 (w2.setCell ⟨J, 2, none⟩ (.bool true)) := Fr.set1 _ _ _ _
   obtain ⟨wE, HWE⟩ : ∃ wE, Hid (wE = w2.setCell ⟨J, 2, none⟩ (.bool true)) := ⟨_, rfl⟩
   rw [← HWE.out] at jE hfE
   have hp1 : (s.put e zB).1 = true := by rw [HPT.out]; exact hb2
   have HF : Hid (∃ cache', DSAt wE A B n base cache' (s.put e zB).2 ∧ CB w cache cache' ∧ VolAt wE V A n ∧ Fr (fun b => DkF A B cache b ∨ b = J) w wE) := by
    rw [HPT.out]
    refine ⟨cache2, hd2.fr hfE (fun b hb e => nJ2 (e ▸ hb)), hcb, hfE.keep v2 (fun e => nJV e.symm), (hF2.mono (fun _ _ h => .inl h)).trans hfE (fun _ _ h => .inr h)⟩
   clear hd1 hf1 hf2 hd2 hF1 hF2 hfE v2 v1 x1 x2 j1 HSE hcb hcb1 hcb2 hcb1' nJ2 nJ1 nV1 nX1
   go_wp2
   rw [← HWE.out]
   go_ret
   obtain ⟨c', q1, q2, q3, q4⟩ := HF.out
   exact ⟨c', q1, q2, q3, q4, Sel.pos hp1 ⟨rfl, jE⟩⟩
  ·rw [if_neg hb2] at he2
   obtain ⟨g, rfl, ht⟩ := he2
   have hp1 : ¬ (s.put e zB).1 = true := by rw [HPT.out]; exact hb2
   refine ⟨rfl, cache2, by rw [HPT.out]; exact hd2, hcb, v2, hF2.mono (fun _ _ h => .inl h), Sel.neg hp1 ⟨j2, g, rfl, ht⟩⟩
 ·refine wpOp_panics (o := ⟨some 11, .call { callee := .value (.func 94), args := #[(.tmp 5), (.tmp 9), (.tmp 10)], argTypes := _ }, _, _, _, none⟩) (f := 94) (args := #[.pointer (some ⟨V, 0, none⟩), .int .i64 e, .agg zB.toArray]) rfl rfl (by kernel_rfl) ?_
  refine hst.mono ?_
  rintro e' w1 ⟨cache1, hd1, hcb1, hf1, he1⟩
  rw [if_neg hb] at he1
  obtain ⟨g, rfl, ht⟩ := he1
  refine ⟨_, rfl, ?_⟩
  have hF1 : Fr (DkF A B cache) w w1 := (hfW.mono (fun _ _ h => h.elim)).trans hf1 (fun _ _ h => h)
  have hpt : s.put e zB = (false, (s.store e zB).2) := by unfold DS.put; rw [if_neg hb]
  refine ⟨rfl, cache1, by rw [hpt]; exact hd1, fun b hb => (hcb1 b hb).imp_right (fun h => Nat.le_trans hfW.size h), hf1.keep (hfW.keep hv (fun h => h)) nV, hF1.mono (fun _ _ h => .inl h), Sel.neg (by rw [hpt]; simp) ⟨hf1.keep (hfW.keep hj (fun h => h)) nJ, g, rfl, ht⟩⟩
set_option maxRecDepth 100000 in
set_option maxHeartbeats 2000000 in
theorem Add1_gen {w : World} {X X2 J V A B n e base : Nat} {cache : Value} {s : DS} {blk : List Value} (hx : w.heap[X]? = some (.cells #[.pointer (some ⟨J, 0, none⟩)] 87 (0, 0))) (hx2 : w.heap[X2]? = some (.cells blk.toArray 130 (0, 0))) (hl : blk.length = 128) (hb1 : ∀ v ∈ blk, v.oneCell' = true) (hj : JAt w J V e true) (hv : VolAt w V A n) (h : DSAt w A B n base cache s) (hq : s.d.Q) (hel : s.ents.length < 900000) (he : e < n) (hn : n ≤ 400) (HI : ItH e) (hG : GOk w) (hgA : 0 ≠ A) :
  Calls Tryz.prog 93 #[.pointer (some ⟨X, 0, none⟩), .pointer (some ⟨X2, 0, none⟩)] w fun e' w' => ∃ cache', DSAt w' A B n base cache' (s.put e blk).2 ∧ CB w cache cache' ∧ VolAt w' V A n ∧ Fr (fun b => DkF A B cache b ∨ b = J) w w' ∧ Sel (s.put e blk).1 (e' = .returned .nilIface ∧ JAt w' J V ((e : Int) + 1) true) (JAt w' J V e true ∧ ∃ g, e' = Thrown g ∧ TrAt w' g) := by
 have hlift : Tryz.prog.follows .mixedOrders = true := by kernel_rfl
 have nJ := h.not hj (by decide)
 have nV := h.not hv (by decide)
 have nX := h.not hx (by decide)
 have nX2 := h.not hx2 (by decide)
 have nJV : J ≠ V := fun e => by have := hj; rw [e] at this; have := this.symm.trans hv; simp at this
 have nXJ : X ≠ J := fun e => by have := hx; rw [e] at this; have := this.symm.trans hj; simp at this
 go_enter Tryz.func93, Tryz.ntmps93
 go_wp2
 obtain ⟨W, HW⟩ : ∃ W, Hid (W = w.drew) := ⟨_, rfl⟩
 have hfW : Fr (fun _ => False) w W := by rw [HW.out]; exact (Fr.refl _ _).drew
 let S : World → Prop := fun w' => w'.cell? ⟨X, 0, none⟩ = some (.pointer (some ⟨J, 0, none⟩)) ∧ w'.cell? ⟨J, 0, none⟩ = some (.pointer (some ⟨V, 0, none⟩)) ∧ w'.cell? ⟨J, 1, none⟩ = some (.int .i64 e) ∧ w'.heap[X2]? = some (.cells blk.toArray 130 (0, 0))
 have hS : S W := ⟨(cell_of_row W X 0 _ _ _ (hfW.keep hx (fun h => h))).trans rfl, (hj.fr hfW id).c0, (hj.fr hfW id).c1, hfW.keep hx2 (fun h => h)⟩
 refine wp_region_held (S := S) hlift ?_
 change wpAnyH _ _ _ _ S _ _ _ (World.drew _)
 rw [← HW.out]
 clear HW
 refine tkY (S := S) (i := 0) (oi := ⟨some 3, .load 87 (.tmp 0), _, _, _, none⟩) (v := .pointer (some ⟨J, 0, none⟩)) rfl (Or.inl ⟨rfl, fun w' hs => exec_load 87 (.tmp 0) rfl ⟨X, 0, none⟩ rfl (run_loadAt_one hs.1 Tryz.underlying87 rfl)⟩) hS ?_
 simp only [Act.put, lsE, lsZ, lsS]
 refine tkE (S := S) (i := 1) (oi := ⟨some 4, .nilCheck (.tmp 3), _, _, _, none⟩) (v := .pointer (some ⟨J, 0, none⟩)) rfl hS ?_
 simp only [Act.put, lsE, lsZ, lsS]
 refine tkE (S := S) (i := 2) (oi := ⟨some 5, .fieldAddr 179 (.tmp 4) 0, _, _, _, none⟩) (v := .pointer (some ⟨J, 0, none⟩)) rfl hS ?_
 simp only [Act.put, lsE, lsZ, lsS]
 refine tkY (S := S) (i := 3) (oi := ⟨some 6, .load 155 (.tmp 5), _, _, _, none⟩) (v := .pointer (some ⟨V, 0, none⟩)) rfl (Or.inl ⟨rfl, fun w' hs => exec_load 155 (.tmp 5) rfl ⟨J, 0, none⟩ rfl (run_loadAt_one hs.2.1 Tryz.underlying155 rfl)⟩) hS ?_
 simp only [Act.put, lsE, lsZ, lsS]
 refine tkY (S := S) (i := 4) (oi := ⟨some 7, .load 87 (.tmp 0), _, _, _, none⟩) (v := .pointer (some ⟨J, 0, none⟩)) rfl (Or.inl ⟨rfl, fun w' hs => exec_load 87 (.tmp 0) rfl ⟨X, 0, none⟩ rfl (run_loadAt_one hs.1 Tryz.underlying87 rfl)⟩) hS ?_
 simp only [Act.put, lsE, lsZ, lsS]
 refine tkE (S := S) (i := 5) (oi := ⟨some 8, .nilCheck (.tmp 7), _, _, _, none⟩) (v := .pointer (some ⟨J, 0, none⟩)) rfl hS ?_
 simp only [Act.put, lsE, lsZ, lsS]
 refine tkE (S := S) (i := 6) (oi := ⟨some 9, .fieldAddr 179 (.tmp 8) 1, _, _, _, none⟩) (v := .pointer (some ⟨J, 1, none⟩)) rfl hS ?_
 simp only [Act.put, lsE, lsZ, lsS]
 refine tkY (S := S) (i := 7) (oi := ⟨some 10, .load 3 (.tmp 9), _, _, _, none⟩) (v := .int .i64 e) rfl (Or.inl ⟨rfl, fun w' hs => exec_load 3 (.tmp 9) rfl ⟨J, 1, none⟩ rfl (run_loadAt_one hs.2.2.1 Tryz.underlying3 rfl)⟩) hS ?_
 simp only [Act.put, lsE, lsZ, lsS]
 refine tkY (S := S) (i := 8) (oi := ⟨some 11, .load 130 (.tmp 1), _, _, _, none⟩) (v := .agg blk.toArray) rfl (Or.inl ⟨rfl, fun w' hs => exec_load 130 (.tmp 1) rfl ⟨X2, 0, none⟩ rfl (run_loadAt_mid w' X2 0 130 blk _ (fun j v hv => (cell_of_row w' _ (0 + j) _ _ _ hs.2.2.2).trans (by simpa using hv)) Tryz.underlying130 rfl (by rw [block_size, hl]))⟩) hS ?_
 simp only [Act.put, lsE, lsZ, lsS]
 refine wpAnyH_all (rs := [9]) (by kernel_rfl) (by simp) ?_
 intro i9 hi9
 obtain rfl : i9 = 9 := by simpa using hi9
 have hst := Store_ds (hv.fr hfW id) (h.frz hfW) hq.ok hel e he blk hl hb1 HI (hG.fr hfW id) hgA
 by_cases hb : (s.store e blk).1 = true
 ·refine wpOp_call (o := ⟨some 12, .call { callee := .value (.func 94), args := #[(.tmp 6), (.tmp 10), (.tmp 11)], argTypes := _ }, _, _, _, none⟩) (f := 94) (args := #[.pointer (some ⟨V, 0, none⟩), .int .i64 e, .agg blk.toArray]) rfl rfl (by kernel_rfl) ?_
  refine hst.mono ?_
  rintro e' w1 ⟨cache1, hd1, hcb1, hf1, he1⟩
  rw [if_pos hb] at he1
  subst he1
  have x1 := hf1.keep (hfW.keep hx (fun h => h)) nX
  have j1 : JAt w1 J V e true := hf1.keep (hfW.keep hj (fun h => h)) nJ
  have v1 : VolAt w1 V A n := hf1.keep (hfW.keep hv (fun h => h)) nV
  have hcb1' : CB w cache cache1 := fun b hb => (hcb1 b hb).imp_right (fun h => Nat.le_trans hfW.size h)
  have hF1 : Fr (DkF A B cache) w w1 := (hfW.mono (fun _ _ h => h.elim)).trans hf1 (fun _ _ h => h)
  refine ⟨_, rfl, ?_, ?_⟩
  ·exact ⟨(cell_of_row w1 X 0 _ _ _ x1).trans rfl, j1.c0, j1.c1, hf1.keep (hfW.keep hx2 (fun h => h)) nX2⟩
  simp only [Act.put, lsE, lsZ, lsS]
  refine wpAnyH_done (by kernel_rfl) ?_ _
  have cx1 : w1.cell? ⟨X, 0, none⟩ = some (.pointer (some ⟨J, 0, none⟩)) := (cell_of_row w1 X 0 _ _ _ x1).trans rfl
  have c01 := j1.c0
  have hs2 : (s.store e blk).2 = ⟨s.d.next.wrote, s.ents ++ [(e, blk)], s.bs⟩ := by
   unfold DS.store at hb ⊢
   split at hb
   ·cases hb
   ·rename_i h1; rw [if_neg h1]
  have hse := Secure_ds v1 hd1 (by rw [hs2]; exact hq.nw) (by rw [hs2]; simp)
  have hpt : s.put e blk = (s.store e blk).2.secure := by unfold DS.put; rw [if_pos hb]
  have nJ1 := hd1.not j1 (by decide)
  have nV1 := hd1.not v1 (by decide)
  have nX1 := hd1.not x1 (by decide)
  obtain ⟨s2, HS2⟩ : ∃ s2, Hid (s2 = (s.store e blk).2) := ⟨_, rfl⟩
  rw [← HS2.out] at hse hpt
  have HPT : Hid (s.put e blk = s2.secure) := hpt
  have HSE := hse
  clear hS hst hs2 hse hpt
  go_wp2_with fail
  refine HSE.mono ?_
  rintro e' w2 ⟨cache2, hd2, hcb2, hf2, he2⟩
  have x2 := hf2.keep x1 nX1
  have j2 : JAt w2 J V e true := hf2.keep j1 nJ1
  have v2 : VolAt w2 V A n := hf2.keep v1 nV1
  have hcb : CB w cache cache2 := fun b hb => by
   rcases hcb2 b hb with h1 | h1
   ·exact hcb1' b h1
   ·right; have := hF1.size; omega
  have hF2 : Fr (DkF A B cache) w w2 := hF1.trans hf2 (fun b hb h => by
   rcases h with h | h | h
   ·exact .inl h
   ·exact .inr (.inl h)
   ·rcases hcb1' b h with h1 | h1
    ·exact .inr (.inr h1)
    ·omega)
  by_cases hb2 : s2.secure.1 = true
  ·rw [if_pos hb2] at he2
   subst he2
   have cx2 : w2.cell? ⟨X, 0, none⟩ = some (.pointer (some ⟨J, 0, none⟩)) := (cell_of_row w2 X 0 _ _ _ x2).trans rfl
   have c12 := j2.c1
   have c22 := j2.c2
   have z12 := j2.fz 1
   have z22 := j2.fz 2
   have nJ2 := hd2.not j2 (by decide)
   have jE := j2.set1 ((e : Int) + 1)
   have hfE : Fr (fun b => b = J) w2 (w2.setCell ⟨J, 1, none⟩ (.int .i64 ((e : Int) + 1))) := Fr.set1 _ _ _ _
   obtain ⟨wE, HWE⟩ : ∃ wE, Hid (wE = w2.setCell ⟨J, 1, none⟩ (.int .i64 ((e : Int) + 1))) := ⟨_, rfl⟩
   rw [← HWE.out] at jE hfE
   have hwr : IntKind.i64.wrap ((e : Int) + 1) = (e : Int) + 1 := by rw [IntKind.wrap_i64]; omega
   have hp1 : (s.put e blk).1 = true := by rw [HPT.out]; exact hb2
   have HF : Hid (∃ cache', DSAt wE A B n base cache' (s.put e blk).2 ∧ CB w cache cache' ∧ VolAt wE V A n ∧ Fr (fun b => DkF A B cache b ∨ b = J) w wE) := by
    rw [HPT.out]
    refine ⟨cache2, hd2.fr hfE (fun b hb e => nJ2 (e ▸ hb)), hcb, hfE.keep v2 (fun e => nJV e.symm), (hF2.mono (fun _ _ h => .inl h)).trans hfE (fun _ _ h => .inr h)⟩
   clear hd1 hf1 hf2 hd2 hF1 hF2 hfE v2 v1 x1 x2 j1 HSE hcb hcb1 hcb2 hcb1' nJ2 nJ1 nV1 nX1
   go_wp2
   rw [← HWE.out]
   go_ret
   obtain ⟨c', q1, q2, q3, q4⟩ := HF.out
   exact ⟨c', q1, q2, q3, q4, Sel.pos hp1 ⟨rfl, jE⟩⟩
  ·rw [if_neg hb2] at he2
   obtain ⟨g, rfl, ht⟩ := he2
   have hp1 : ¬ (s.put e blk).1 = true := by rw [HPT.out]; exact hb2
   refine ⟨rfl, cache2, by rw [HPT.out]; exact hd2, hcb, v2, hF2.mono (fun _ _ h => .inl h), Sel.neg hp1 ⟨j2, g, rfl, ht⟩⟩
 ·refine wpOp_panics (o := ⟨some 12, .call { callee := .value (.func 94), args := #[(.tmp 6), (.tmp 10), (.tmp 11)], argTypes := _ }, _, _, _, none⟩) (f := 94) (args := #[.pointer (some ⟨V, 0, none⟩), .int .i64 e, .agg blk.toArray]) rfl rfl (by kernel_rfl) ?_
  refine hst.mono ?_
  rintro e' w1 ⟨cache1, hd1, hcb1, hf1, he1⟩
  rw [if_neg hb] at he1
  obtain ⟨g, rfl, ht⟩ := he1
  refine ⟨_, rfl, ?_⟩
  have hF1 : Fr (DkF A B cache) w w1 := (hfW.mono (fun _ _ h => h.elim)).trans hf1 (fun _ _ h => h)
  have hpt : s.put e blk = (false, (s.store e blk).2) := by unfold DS.put; rw [if_neg hb]
  refine ⟨rfl, cache1, by rw [hpt]; exact hd1, fun b hb => (hcb1 b hb).imp_right (fun h => Nat.le_trans hfW.size h), hf1.keep (hfW.keep hv (fun h => h)) nV, hF1.mono (fun _ _ h => .inl h), Sel.neg (by rw [hpt]; simp) ⟨hf1.keep (hfW.keep hj (fun h => h)) nJ, g, rfl, ht⟩⟩
end Go.Proofs.YteebjgfalllbjaaGreatDoor
namespace Go.Proofs.YteebjgfalllbjaaGreatDoor
open Go.RowKit
def DP.nx (d : DP) : Nat → DP
 | 0 => d
 | c + 1 => (d.nx c).next
def DS.after (s : DS) (c : Nat) : DS := ⟨s.d.nx c, s.ents, s.bs⟩
theorem DP.nx_calls (d : DP) (c : Nat) : (d.nx c).calls = d.calls + c ∧ (d.nx c).writes = d.writes ∧ d.told ≤ (d.nx c).told ∧ (d.nx c).told ≤ d.told + c ∧ (d.nx c).off = d.off ∧ (d.nx c).lo = d.lo ∧ (d.nx c).hi = d.hi := by
 induction c with
 | zero => exact ⟨by show d.calls = d.calls + 0; omega, rfl, Int.le_refl _, by show d.told ≤ d.told + 0; omega, rfl, rfl, rfl⟩
 | succ c ih =>
  obtain ⟨h1, h2, h3, h4, h5, h6, h7⟩ := ih
  have := (d.nx c).told_next
  refine ⟨?_, h2, ?_, ?_, h5, h6, h7⟩
  ·show (d.nx c).calls + 1 = _; push_cast; omega
  ·show d.told ≤ (d.nx c).next.told; omega
  ·show (d.nx c).next.told ≤ _; push_cast; omega
theorem DP.good.after {s : DS} (h : s.d.good) (c : Nat) : (s.after c).d.good := by
 have := s.d.nx_calls c
 exact ⟨by show (s.d.nx c).off < 0; rw [this.2.2.2.2.1]; exact h.1, by show (s.d.nx c).hi ≤ (s.d.nx c).lo; rw [this.2.2.2.2.2.1, this.2.2.2.2.2.2]; exact h.2⟩
theorem DP.Q.after {s : DS} (h : s.d.Q) {c : Nat} (hc : c ≤ 1000) : (s.after c).d.Ok := by
 obtain ⟨h1, h2, h3, h4, _⟩ := s.d.nx_calls c
 have := h.c0; have := h.c1; have := h.w0; have := h.w1; have := h.t0; have := h.t1
 refine ⟨?_, ?_, ?_, ?_, ?_, ?_⟩
 ·show 0 ≤ (s.d.nx c).calls; omega
 ·show (s.d.nx c).calls < _; omega
 ·show 0 ≤ (s.d.nx c).writes; omega
 ·show (s.d.nx c).writes < _; omega
 ·show 0 ≤ (s.d.nx c).told; omega
 ·show (s.d.nx c).told < _; omega
structure LayT (n : Nat) (cont : List Value) (recs : List (List Value)) (tl : List Value) : Prop where
 len : ∃ m, n ≤ m ∧ cont.length = m * 128
 one : ∀ v ∈ cont, v.oneCell' = true
 head : blkOf cont 0 = headB n
 get : ∀ (i : Nat) (r : List Value), recs[i]? = some r → blkOf cont (i + 1) = r
 tail : recs.length + 1 < n → blkOf cont (recs.length + 1) = tl
 torn : recs.length + 1 < n → ∃ b : Nat → Nat, (∀ i, i < 4 → tl[i * 32]? = some (.int .u8 (b i))) ∧ wholeK b = false
 zero : ∀ i, recs.length + 1 < i → i < n → blkOf cont i = zB
structure RdG (w : World) (J V A B n base : Nat) (cache : Value) (s : DS) (i : Nat) : Prop where
 v : VolAt w V A n
 d : DSAt w A B n base cache s
 j : JAt w J V ((i + 1 : Nat) : Int) false
theorem RdG.frz {w w' : World} {J V A B n base i : Nat} {cache : Value} {s : DS} (h : RdG w J V A B n base cache s i) (hf : Fr (fun _ => False) w w') : RdG w' J V A B n base cache s i := ⟨h.v.fr hf id, h.d.frz hf, h.j.fr hf id⟩
def RgI (RP : Nat → World → Prop) (SR : Nat → Prop) (J V A B n base : Nat) (cache : Value) (s : DS) (w : World) (i m : Nat) (wr : World) : Prop :=
 ∃ c, c ≤ i + m ∧ RdG wr J V A B n base cache (s.after c) i ∧ RP i wr ∧ Fr (fun b => b = A ∨ b = J ∨ SR b) w wr
def RgK (RP : Nat → World → Prop) (SR : Nat → Prop) (J V A B n base : Nat) (cache : Value) (s : DS) (w : World) (i k : Nat) (wr : World) : Prop :=
 ∃ c, c + 1 ≤ k ∧ RdG wr J V A B n base cache (s.after c) i ∧ RP i wr ∧ Fr (fun b => b = A ∨ b = J ∨ SR b) w wr
def JrQ (RP : Nat → World → Prop) (SR : Nat → Prop) (J V A B n base : Nat) (cache : Value) (s : DS) (l m : Nat) (w : World) (e : Ending) (w' : World) : Prop :=
 (e = .returned .nilIface ∧ ∃ c, c ≤ m ∧ RdG w' J V A B n base cache (s.after c) l ∧ RP l w' ∧ Fr (fun b => b = A ∨ b = J ∨ SR b) w w') ∨
 (∃ g c, e = Thrown g ∧ TrAt w' g ∧ DSAt w' A B n base cache (s.after (c + 1)) ∧ (s.after c).d.bad = true ∧ c ≤ m ∧ Fr (fun b => b = A ∨ b = J ∨ SR b) w w')
set_option maxRecDepth 100000 in
set_option maxHeartbeats 20000000 in
theorem jread_gen {w : World} {J V A B n base t1 t2 : Nat} {cache : Value} {s : DS} {recs : List (List Value)} {tl : List Value} (RP : Nat → World → Prop) (SR : Nat → Prop)
  (h : RdG w J V A B n base cache s 0) (hq : s.d.Q) (hL : LayT n (lain s.bs s.ents) recs tl) (hn8 : 8 ≤ n) (hn : n ≤ 400) (hrl : recs.length < n) (hrec : ∀ r ∈ recs, RecOk r) (hR : RP 0 w) (HIT : ¬ s.d.good → ∀ i, i < n → ItH i) (hGO : ∀ W, Fr (fun b => b = A ∨ b = J ∨ SR b) w W → GOk W) (hgA : 0 ≠ A)
  (hP : ∀ i W W', RP i W → Fr (fun b => b = A ∨ b = J) W W' → RP i W') (hSR : (∀ b, DkF A B cache b → ¬ SR b) ∧ ¬ SR J ∧ ¬ SR V)
  (hH : ∀ i r W, recs[i]? = some r → RP i W → Fr (fun b => b = A ∨ b = J ∨ SR b) w W → Calls Tryz.prog 115 #[.agg r.toArray, .pointer (some ⟨t1, 0, none⟩), .pointer (some ⟨t2, 0, none⟩)] W fun e w' => e = .returned (.bool true) ∧ RP (i + 1) w' ∧ Fr SR W w') :
  Calls Tryz.prog 114 #[.pointer (some ⟨J, 0, none⟩), .func (.func 115) #[] #[.pointer (some ⟨t1, 0, none⟩), .pointer (some ⟨t2, 0, none⟩)]] w fun e w' => JrQ RP SR J V A B n base cache s recs.length n w e w' := by
 have HI : Hid (RgI RP SR J V A B n base cache s w 0 0 w) := ⟨0, Nat.le_refl _, h, hR, Fr.refl _ _⟩
 have HIT' : Hid (¬ s.d.good → ∀ i, i < n → ItH i) := HIT
 have HGO : Hid (∀ W, Fr (fun b => b = A ∨ b = J ∨ SR b) w W → GOk W) := hGO
 have HLY : Hid (LayT n (lain s.bs s.ents) recs tl) := hL
 have HDP : Hid (s.d.Q) := hq
 have HH : Hid (∀ i r W, recs[i]? = some r → RP i W → Fr (fun b => b = A ∨ b = J ∨ SR b) w W → Calls Tryz.prog 115 #[.agg r.toArray, .pointer (some ⟨t1, 0, none⟩), .pointer (some ⟨t2, 0, none⟩)] W fun e w' => e = .returned (.bool true) ∧ RP (i + 1) w' ∧ Fr SR W w') := hH
 have HP : Hid (∀ i W W', RP i W → Fr (fun b => b = A ∨ b = J) W W' → RP i W') := hP
 have HS : Hid ((∀ b, DkF A B cache b → ¬ SR b) ∧ ¬ SR J ∧ ¬ SR V) := hSR
 have HREC : Hid (∀ r ∈ recs, RecOk r) := hrec
 have nVA : V ≠ A := h.v.neK h.d.d
 have nJA : J ≠ A := fun e => by have := h.j; rw [e] at this; have := this.symm.trans h.d.d; simp at this
 have nJV : J ≠ V := fun e => by have := h.j; rw [e] at this; have := this.symm.trans h.v; simp at this
 have nJd : ∀ b, DkF A B cache b → ¬ b = J := fun b hb e => h.d.not h.j (by decide) (e ▸ hb)
 have hJl := lt_of_heap h.j
 have hVl := lt_of_heap h.v
 have hAl := h.d.d.lt
 have hdl : ∀ b, DkF A B cache b → b < w.heap.size := by
  rintro b (e | e | e)
  ·omega
  ·rw [e]; exact lt_of_heap h.d.r.1
  ·exact (h.d.q.o.lt b e).2
 have hlift : Tryz.prog.follows .mixedOrders = true := by kernel_rfl
 clear hR hH hP hSR hrec h HIT hGO hL hq
 go_enter Tryz.func114, Tryz.ntmps114
 go_wp2
 go_step3
 go_wp2
 go_step3
 go_wp2
 go_loopw [5] (fun _ wr => ∃ i : Nat, i ≤ recs.length ∧ Hid (RgI RP SR J V A B n base cache s w i 0 wr)) (fun _ wr => n - endOf wr J)
 case atStart => exact ⟨0, by omega, HI⟩
 case round =>
  obtain ⟨i, hi, HR⟩ := hrel
  obtain ⟨cl, hcl2, hS, hRP, hF⟩ := HR.out
  have c0 := hS.j.c0
  have c1 := hS.j.c1
  have hend : endOf wr J = i + 1 := by rw [endOf_eq hS.j]; simp
  have HMo : Hid (n - endOf wr J = n - (i + 1)) := by rw [hend]; rfl
  clear HR
  go_wp2
  obtain ⟨W0, HW0⟩ : ∃ W0, Hid (W0 = wr.drew) := ⟨_, rfl⟩
  have hf0 : Fr (fun _ => False) wr W0 := by rw [HW0.out]; exact (Fr.refl _ _).drew
  have hS0 : RdG W0 J V A B n base cache (s.after cl) i := hS.frz hf0
  have hRP0 : RP i W0 := HP.out i wr W0 hRP (hf0.mono (fun _ _ h => h.elim))
  have hF0 := hF.trans hf0 (fun _ _ h => h.elim)
  clear hS hRP hF hf0 hend c0 c1
  let S : World → Prop := fun w' => w'.cell? ⟨J, 0, none⟩ = some (.pointer (some ⟨V, 0, none⟩)) ∧ w'.cell? ⟨J, 1, none⟩ = some (.int .i64 ((i + 1 : Nat) : Int))
  have hS : S W0 := ⟨hS0.j.c0, hS0.j.c1⟩
  refine wp_region_held (S := S) hlift ?_
  change wpAnyH _ _ _ _ S _ _ _ (World.drew _)
  rw [← HW0.out]
  clear HW0
  refine tkE (S := S) (i := 0) (oi := ⟨some 7, .move (.tmp 0), _, _, _, none⟩) (v := .pointer (some ⟨J, 0, none⟩)) rfl hS ?_
  simp only [Act.put, lsE, lsZ, lsS]
  refine tkE (S := S) (i := 1) (oi := ⟨some 8, .nilCheck (.tmp 7), _, _, _, none⟩) (v := .pointer (some ⟨J, 0, none⟩)) rfl hS ?_
  simp only [Act.put, lsE, lsZ, lsS]
  refine tkE (S := S) (i := 2) (oi := ⟨some 9, .fieldAddr 179 (.tmp 8) 1, _, _, _, none⟩) (v := .pointer (some ⟨J, 1, none⟩)) rfl hS ?_
  simp only [Act.put, lsE, lsZ, lsS]
  refine tkY (S := S) (i := 3) (oi := ⟨some 10, .load 3 (.tmp 9), _, _, _, none⟩) (v := .int .i64 ((i + 1 : Nat) : Int)) rfl (Or.inl ⟨rfl, fun w' hs => exec_load 3 (.tmp 9) rfl ⟨J, 1, none⟩ rfl (run_loadAt_one hs.2 Tryz.underlying3 rfl)⟩) hS ?_
  simp only [Act.put, lsE, lsZ, lsS]
  refine tkE (S := S) (i := 4) (oi := ⟨some 11, .move (.tmp 0), _, _, _, none⟩) (v := .pointer (some ⟨J, 0, none⟩)) rfl hS ?_
  simp only [Act.put, lsE, lsZ, lsS]
  refine tkE (S := S) (i := 5) (oi := ⟨some 12, .nilCheck (.tmp 11), _, _, _, none⟩) (v := .pointer (some ⟨J, 0, none⟩)) rfl hS ?_
  simp only [Act.put, lsE, lsZ, lsS]
  refine tkE (S := S) (i := 6) (oi := ⟨some 13, .fieldAddr 179 (.tmp 12) 0, _, _, _, none⟩) (v := .pointer (some ⟨J, 0, none⟩)) rfl hS ?_
  simp only [Act.put, lsE, lsZ, lsS]
  refine tkY (S := S) (i := 7) (oi := ⟨some 14, .load 155 (.tmp 13), _, _, _, none⟩) (v := .pointer (some ⟨V, 0, none⟩)) rfl (Or.inl ⟨rfl, fun w' hs => exec_load 155 (.tmp 13) rfl ⟨J, 0, none⟩ rfl (run_loadAt_one hs.1 Tryz.underlying155 rfl)⟩) hS ?_
  simp only [Act.put, lsE, lsZ, lsS]
  refine wpAnyH_all (rs := [8]) (by kernel_rfl) (by simp) ?_
  intro i8 hi8
  obtain rfl : i8 = 8 := by simpa using hi8
  refine wpOp_call (o := ⟨some 15, .call { callee := .value (.func 110), args := #[.tmp 14], argTypes := _ }, _, _, _, none⟩) (f := 110) (args := #[.pointer (some ⟨V, 0, none⟩)]) rfl rfl (by kernel_rfl) ?_
  refine (vBlocks_ok hS0.v).mono ?_
  rintro e w' ⟨rfl, rfl⟩
  refine ⟨_, rfl, hS, ?_⟩
  simp only [Act.put, lsE, lsZ, lsS]
  refine tkY (S := S) (i := 9) (oi := ⟨some 16, .binOp .lss 3 (.tmp 10) (.tmp 15) 3, _, _, _, none⟩) (v := .bool (decide (((i + 1 : Nat) : Int) < (n : Int)))) rfl (Or.inl ⟨rfl, fun w' _ => exec_lss rfl rfl rfl w'⟩) hS ?_
  simp only [Act.put, lsE, lsZ, lsS]
  refine wpAnyH_done (by kernel_rfl) ?_ _
  clear hS
  by_cases hin : i + 1 < n
  ·have hd : decide (((i + 1 : Nat) : Int) < (n : Int)) = true := by simp; omega
   rw [hd]
   clear hd
   obtain ⟨blk, heb⟩ : ∃ blk, blkOf (lain s.bs s.ents) (i + 1) = blk := ⟨_, rfl⟩
   have hbl : blk.length = 128 := by obtain ⟨m, hm, hml⟩ := HLY.out.len; rw [← heb]; exact blk_len hml (Nat.lt_of_lt_of_le hin hm)
   have hb1 : ∀ v ∈ blk, v.oneCell' = true := fun v hv => by rw [← heb] at hv; exact HLY.out.one v (List.mem_of_mem_drop (List.mem_of_mem_take hv))
   go_wp2
   obtain ⟨W1, HW1⟩ : ∃ W1, Hid (W1 = w'.drew) := ⟨_, rfl⟩
   have hf1 : Fr (fun _ => False) w' W1 := by rw [HW1.out]; exact (Fr.refl _ _).drew
   have hS1 : RdG W1 J V A B n base cache (s.after cl) i := hS0.frz hf1
   have hok := HDP.out.after (c := cl) (by omega)
   have hRP1 : RP i W1 := HP.out i _ W1 hRP0 (hf1.mono (fun _ _ h => h.elim))
   have hF1 := hF0.trans hf1 (fun _ _ h => h.elim)
   have hS : S W1 := ⟨hS1.j.c0, hS1.j.c1⟩
   clear hS0 hRP0 hF0 hf1
   refine wp_region_held (S := S) hlift ?_
   change wpAnyH _ _ _ _ S _ _ _ (World.drew _)
   rw [← HW1.out]
   clear HW1
   refine tkE (S := S) (i := 0) (oi := ⟨some 24, .move (.tmp 0), _, _, _, none⟩) (v := .pointer (some ⟨J, 0, none⟩)) rfl hS ?_
   simp only [Act.put, lsE, lsZ, lsS]
   refine tkE (S := S) (i := 1) (oi := ⟨some 25, .nilCheck (.tmp 24), _, _, _, none⟩) (v := .pointer (some ⟨J, 0, none⟩)) rfl hS ?_
   simp only [Act.put, lsE, lsZ, lsS]
   refine tkE (S := S) (i := 2) (oi := ⟨some 26, .fieldAddr 179 (.tmp 25) 0, _, _, _, none⟩) (v := .pointer (some ⟨J, 0, none⟩)) rfl hS ?_
   simp only [Act.put, lsE, lsZ, lsS]
   refine tkY (S := S) (i := 3) (oi := ⟨some 27, .load 155 (.tmp 26), _, _, _, none⟩) (v := .pointer (some ⟨V, 0, none⟩)) rfl (Or.inl ⟨rfl, fun w' hs => exec_load 155 (.tmp 26) rfl ⟨J, 0, none⟩ rfl (run_loadAt_one hs.1 Tryz.underlying155 rfl)⟩) hS ?_
   simp only [Act.put, lsE, lsZ, lsS]
   refine tkE (S := S) (i := 4) (oi := ⟨some 28, .move (.tmp 0), _, _, _, none⟩) (v := .pointer (some ⟨J, 0, none⟩)) rfl hS ?_
   simp only [Act.put, lsE, lsZ, lsS]
   refine tkE (S := S) (i := 5) (oi := ⟨some 29, .nilCheck (.tmp 28), _, _, _, none⟩) (v := .pointer (some ⟨J, 0, none⟩)) rfl hS ?_
   simp only [Act.put, lsE, lsZ, lsS]
   refine tkE (S := S) (i := 6) (oi := ⟨some 30, .fieldAddr 179 (.tmp 29) 1, _, _, _, none⟩) (v := .pointer (some ⟨J, 1, none⟩)) rfl hS ?_
   simp only [Act.put, lsE, lsZ, lsS]
   refine tkY (S := S) (i := 7) (oi := ⟨some 31, .load 3 (.tmp 30), _, _, _, none⟩) (v := .int .i64 ((i + 1 : Nat) : Int)) rfl (Or.inl ⟨rfl, fun w' hs => exec_load 3 (.tmp 30) rfl ⟨J, 1, none⟩ rfl (run_loadAt_one hs.2 Tryz.underlying3 rfl)⟩) hS ?_
   simp only [Act.put, lsE, lsZ, lsS]
   refine wpAnyH_all (rs := [8, 9]) (by kernel_rfl) (by simp) ?_
   intro i8 hi8
   have hi8' : i8 = 8 ∨ i8 = 9 := by simpa using hi8
   clear hi8
   rcases hi8' with rfl | rfl
   case' inl =>
    have hld := Load_ds hS1.v hS1.d hok (i + 1) hin (fun hg => HIT'.out (fun h => hg (h.after _)) _ hin) (HGO.out _ hF1) hgA
    rcases Bool.eq_false_or_eq_true (s.after cl).d.bad with hbd | hbd
    ·refine wpOp_panics (o := ⟨some 32, .call { callee := .value (.func 112), args := #[.tmp 27, .tmp 31], argTypes := _ }, _, _, _, none⟩) (f := 112) (args := #[.pointer (some ⟨V, 0, none⟩), .int .i64 ((i + 1 : Nat) : Int)]) rfl rfl (by kernel_rfl) ?_
     refine hld.mono ?_
     rintro e w2 ⟨hd2, hf2, he2⟩
     rw [if_pos hbd] at he2
     obtain ⟨gg, rfl, htr⟩ := he2
     exact ⟨_, rfl, rfl, .inr ⟨gg, cl, rfl, htr, hd2, hbd, by omega, hF1.trans hf2 (fun _ _ h => .inl h)⟩⟩
    refine wpOp_call (o := ⟨some 32, .call { callee := .value (.func 112), args := #[.tmp 27, .tmp 31], argTypes := _ }, _, _, _, none⟩) (f := 112) (args := #[.pointer (some ⟨V, 0, none⟩), .int .i64 ((i + 1 : Nat) : Int)]) rfl rfl (by kernel_rfl) ?_
    refine hld.mono ?_
    rintro e w2 ⟨hd2, hf2, he2⟩
    rw [if_neg (by rw [hbd]; simp)] at he2
    subst he2
    have hS2 : RdG w2 J V A B n base cache (s.after (cl + 1)) i := ⟨hS1.v.fr hf2 nVA, hd2, hS1.j.fr hf2 nJA⟩
    have hf2' : Fr (fun b => b = A ∨ b = J) W1 w2 := hf2.mono (fun _ _ h => .inl h)
    refine ⟨_, rfl, ⟨hS2.j.c0, hS2.j.c1⟩, ?_⟩
    simp only [Act.put, lsE, lsZ, lsS]
    have hfA : Fr (fun _ => False) w2 (w2.alloc (.cells zB.toArray 130)) := (Fr.refl _ _).alloc _
    have hS3 := hS2.frz hfA
    have hrow3 : (w2.alloc (.cells zB.toArray 130)).heap[w2.heap.size]? = some (.cells zB.toArray 130 (0, 0)) := heap_alloc_at _ _
    have hgw : W1.heap.size ≤ w2.heap.size := hf2.size
    have hf13 : Fr (fun b => b = A ∨ b = J) W1 (w2.alloc (.cells zB.toArray 130)) := hf2'.trans hfA (fun _ _ h => h.elim)
    refine wpAnyH_all (rs := [9]) (by kernel_rfl) (by simp) ?_
    intro i9 hi9
    obtain rfl : i9 = 9 := by simpa using hi9
    refine wpOp_value (o := ⟨some 5, .alloc 130, _, _, _, none⟩) (v := .pointer (some ⟨w2.heap.size, 0, none⟩)) (w' := w2.alloc (.cells zB.toArray 130)) rfl rfl (exec_alloc_blk _ _ rfl _) ⟨⟨hS3.j.c0, hS3.j.c1⟩, ?_⟩
    simp only [Act.put, lsE, lsZ, lsS]
    clear hS2 hf2 hf2' hd2 hfA
    obtain ⟨W3, HW3⟩ : ∃ W3, Hid (W3 = w2.alloc (.cells zB.toArray 130)) := ⟨_, rfl⟩
    obtain ⟨g, HG⟩ : ∃ g, Hid (g = w2.heap.size) := ⟨_, rfl⟩
    rw [← HW3.out] at hS3 hf13 hrow3 ⊢
    rw [← HG.out] at hrow3 hgw ⊢
    clear HW3 HG
   case' inr =>
    have hfA : Fr (fun _ => False) W1 (W1.alloc (.cells zB.toArray 130)) := (Fr.refl _ _).alloc _
    have hS2 := hS1.frz hfA
    have hrow2 : (W1.alloc (.cells zB.toArray 130)).heap[W1.heap.size]? = some (.cells zB.toArray 130 (0, 0)) := heap_alloc_at _ _
    refine wpOp_value (o := ⟨some 5, .alloc 130, _, _, _, none⟩) (v := .pointer (some ⟨W1.heap.size, 0, none⟩)) (w' := W1.alloc (.cells zB.toArray 130)) rfl rfl (exec_alloc_blk _ _ rfl _) ⟨⟨hS2.j.c0, hS2.j.c1⟩, ?_⟩
    simp only [Act.put, lsE, lsZ, lsS]
    obtain ⟨W2, HW2⟩ : ∃ W2, Hid (W2 = W1.alloc (.cells zB.toArray 130)) := ⟨_, rfl⟩
    obtain ⟨g, HG⟩ : ∃ g, Hid (g = W1.heap.size) := ⟨_, rfl⟩
    rw [← HW2.out] at hS2 hfA hrow2 ⊢
    have hgw : W1.heap.size ≤ g := by rw [HG.out]; exact Nat.le_refl _
    rw [← HG.out] at hrow2 ⊢
    clear HW2 HG
    refine wpAnyH_all (rs := [8]) (by kernel_rfl) (by simp) ?_
    intro i9 hi9
    obtain rfl : i9 = 8 := by simpa using hi9
    have hF2 : Fr (fun b => b = A ∨ b = J ∨ SR b) w W2 := hF1.trans (hfA.mono (fun _ _ h => h.elim)) (fun _ _ h => h)
    have hld := Load_ds hS2.v hS2.d hok (i + 1) hin (fun hg => HIT'.out (fun h => hg (h.after _)) _ hin) (HGO.out _ hF2) hgA
    rcases Bool.eq_false_or_eq_true (s.after cl).d.bad with hbd | hbd
    ·refine wpOp_panics (o := ⟨some 32, .call { callee := .value (.func 112), args := #[.tmp 27, .tmp 31], argTypes := _ }, _, _, _, none⟩) (f := 112) (args := #[.pointer (some ⟨V, 0, none⟩), .int .i64 ((i + 1 : Nat) : Int)]) rfl rfl (by kernel_rfl) ?_
     refine hld.mono ?_
     rintro e w2 ⟨hd2, hf2, he2⟩
     rw [if_pos hbd] at he2
     obtain ⟨gg, rfl, htr⟩ := he2
     exact ⟨_, rfl, rfl, .inr ⟨gg, cl, rfl, htr, hd2, hbd, by omega, hF2.trans hf2 (fun _ _ h => .inl h)⟩⟩
    refine wpOp_call (o := ⟨some 32, .call { callee := .value (.func 112), args := #[.tmp 27, .tmp 31], argTypes := _ }, _, _, _, none⟩) (f := 112) (args := #[.pointer (some ⟨V, 0, none⟩), .int .i64 ((i + 1 : Nat) : Int)]) rfl rfl (by kernel_rfl) ?_
    refine hld.mono ?_
    rintro e W3 ⟨hd3, hf3, he3⟩
    rw [if_neg (by rw [hbd]; simp)] at he3
    subst he3
    have hS3 : RdG W3 J V A B n base cache (s.after (cl + 1)) i := ⟨hS2.v.fr hf3 nVA, hd3, hS2.j.fr hf3 nJA⟩
    have hf3' : Fr (fun b => b = A ∨ b = J) W2 W3 := hf3.mono (fun _ _ h => .inl h)
    have hf13 : Fr (fun b => b = A ∨ b = J) W1 W3 := (hfA.mono (fun _ _ h => h.elim)).trans hf3' (fun _ _ h => h)
    have hrow3 : W3.heap[g]? = some (.cells zB.toArray 130 (0, 0)) := hf3.keep hrow2 (by have := hF1.size; omega)
    refine ⟨_, rfl, ⟨hS3.j.c0, hS3.j.c1⟩, ?_⟩
    simp only [Act.put, lsE, lsZ, lsS]
    clear hS2 hf3 hf3' hd3 hrow2 hfA
   all_goals
    clear hS hS1
    have hst := run_store_blk hrow3 zB_len hbl hb1
    have hrow4 := setRow_heap W3 g _ blk.toArray 130 (0, 0) hrow3
    obtain ⟨W4, HW4⟩ : ∃ W4, Hid (W4 = W3.setRow g blk.toArray) := ⟨_, rfl⟩
    rw [← HW4.out] at hst hrow4
    have hf4 : Fr (· = g) W3 W4 := by rw [HW4.out]; exact (Fr.refl (fun x => x = g) _).setRow _ (fun _ => rfl) _
    have hw1 := hF1.size
    have hS4 : RdG W4 J V A B n base cache (s.after (cl + 1)) i := ⟨hS3.v.fr hf4 (by omega), hS3.d.fr hf4 (fun b hb e => by have := hdl b hb; omega), hS3.j.fr hf4 (by omega)⟩
    have hf14 : Fr (fun b => b = A ∨ b = J) W1 W4 := hf13.trans hf4 (fun b hb h => by omega)
    have hRP4 : RP i W4 := HP.out i _ W4 hRP1 hf14
    have hF4 : Fr (fun b => b = A ∨ b = J ∨ SR b) w W4 := hF1.trans hf14 (fun b _ h => by rcases h with h | h; exact .inl h; exact .inr (.inl h))
    have hgw' : w.heap.size ≤ g := by omega
    clear HW4 hf4 hf13 hf14 hrow3 hS3 hRP1 hF1 hgw
    refine wpAnyH_all (rs := [10]) (by kernel_rfl) (by simp) ?_
    intro i10 hi10
    obtain rfl : i10 = 10 := by simpa using hi10
    have heb2 : blkOf (lain (s.after cl).bs (s.after cl).ents) (i + 1) = blk := heb
    rw [heb2]
    refine wpOp_skip (o := ⟨none, .store 130 (.tmp 5) (.tmp 32), _, _, _, none⟩) (w' := W4) rfl rfl (exec_store 130 _ _ rfl ⟨g, 0, none⟩ _ rfl rfl hst) ⟨⟨hS4.j.c0, hS4.j.c1⟩, ?_⟩
    simp only [Act.put]
    refine wpAnyH_done (by kernel_rfl) ?_ _

    have hM4 : W4.rangeAt g 0 blk := fun j v hv => (cell_of_row W4 _ (0 + j) _ _ _ hrow4).trans (by simpa using hv)
    clear hst
    by_cases hlt : i < recs.length
    ·obtain ⟨r, hr⟩ : ∃ r, recs[i]? = some r := ⟨_, List.getElem?_eq_getElem hlt⟩
     obtain ⟨rl, r1, bk, hbk, hwk⟩ := HREC.out r (List.mem_of_getElem? hr)
     have hbr : blk = r := by rw [← heb]; exact HLY.out.get i r hr
     clear heb heb2
     subst hbr
     go_wp2_with (first | (refine wpList_load_mid rfl 130 (.tmp 5) rfl g 0 ?_ blk _ hM4 Tryz.underlying130 rfl ?_ ?_; rfl; (rw [block_size, hbl])))
     refine (rcWhole_ok W4 blk bk hbk).mono ?_
     rintro e w5 ⟨rfl, hf5⟩
     have hS5 := hS4.frz hf5
     have hRP5 : RP i w5 := HP.out i _ w5 hRP4 (hf5.mono (fun _ _ h => h.elim))
     have hF5 : Fr (fun b => b = A ∨ b = J ∨ SR b) w w5 := hF4.trans hf5 (fun _ _ h => h.elim)
     have hM5 : w5.rangeAt g 0 blk := fun j v hv => hf5.cell (hM4 j v hv) (fun h => h)
     have HC := HH.out i blk w5 hr hRP5 hF5
     rw [hwk]
     clear hS4 hRP4 hF4 hM4 hf5 hrow4 hRP5
     go_wp2_with (first | (refine wpList_load_mid rfl 130 (.tmp 5) rfl g 0 ?_ blk _ hM5 Tryz.underlying130 rfl ?_ ?_; rfl; (rw [block_size, hbl])))
     refine HC.mono ?_
     rintro e w6 ⟨rfl, hRP6, hf6⟩
     have hS6 : RdG w6 J V A B n base cache (s.after (cl + 1)) i := ⟨hS5.v.fr hf6 HS.out.2.2, hS5.d.fr hf6 HS.out.1, hS5.j.fr hf6 HS.out.2.1⟩
     have hF6 : Fr (fun b => b = A ∨ b = J ∨ SR b) w w6 := hF5.trans hf6 (fun _ _ h => .inr (.inr h))
     have c1 := hS6.j.c1
     have z1 := hS6.j.fz 1
     have HN : ∀ v : Int, v = ((i + 1 + 1 : Nat) : Int) → Hid (RgI RP SR J V A B n base cache s w (i + 1) 0 (w6.setCell ⟨J, 1, none⟩ (.int .i64 v))) ∧ endOf (w6.setCell ⟨J, 1, none⟩ (.int .i64 v)) J = i + 2 := by
      rintro v rfl
      have hj := hS6.j.set1 ((i + 1 + 1 : Nat) : Int)
      have hfj : Fr (fun b => b = J) w6 (w6.setCell ⟨J, 1, none⟩ (.int .i64 ((i + 1 + 1 : Nat) : Int))) := Fr.set1 _ _ _ _
      refine ⟨⟨cl + 1, by omega, ⟨hS6.v.fr hfj nJV.symm, hS6.d.fr hfj nJd, hj⟩, ?_, ?_⟩, by rw [endOf_eq hj]; omega⟩
      ·exact HP.out _ _ _ hRP6 ((Fr.refl _ _).setCell _ (fun _ => .inr rfl) _)
      ·exact hF6.setCell _ (fun _ => .inr (.inl rfl)) _
     have HN' := HN ((i : Int) + 1 + 1) (by push_cast; rfl)
     have HN1 := HN'.1
     have HN2 := HN'.2
     clear HN HN' hS5 hF5 hM5 HC hRP6 hf6 hF6
     push_cast at c1
     go_wp2
     go_roundw
     case rel => exact ⟨i + 1, by omega, HN1⟩
     case measure => rw [HMo.out, HN2]; omega
    ·obtain rfl : i = recs.length := by omega
     have hbz : blk = tl := by rw [← heb]; exact HLY.out.tail hin
     obtain ⟨kb, hkb, hwk⟩ := HLY.out.torn hin
     clear heb heb2
     rw [hbz] at hM4 hbl
     go_wp2_with (first | (refine wpList_load_mid rfl 130 (.tmp 5) rfl g 0 ?_ tl _ hM4 Tryz.underlying130 rfl ?_ ?_; rfl; (rw [block_size, hbl])))
     refine (rcWhole_ok W4 tl kb hkb).mono ?_
     rintro e w5 ⟨rfl, hf5⟩
     have hS5 := hS4.frz hf5
     have hRP5 : RP recs.length w5 := HP.out _ _ w5 hRP4 (hf5.mono (fun _ _ h => h.elim))
     have hF5 : Fr (fun b => b = A ∨ b = J ∨ SR b) w w5 := hF4.trans hf5 (fun _ _ h => h.elim)
     rw [hwk]
     have c1 := hS5.j.c1
     push_cast at c1
     clear hS4 hRP4 hF4 hM4 hf5 hrow4
     have HQ : Hid (RgK RP SR J V A B n base cache s w recs.length (recs.length + 2) w5) := ⟨_, by omega, hS5, hRP5, hF5⟩
     clear hS5 hRP5 hF5
     go_wp2
     go_loopw [6] (fun c wq => ∃ k : Nat, recs.length + 2 ≤ k ∧ k ≤ n + 1 ∧ c = .int .i64 k ∧ Hid (RgK RP SR J V A B n base cache s w recs.length k wq)) (fun c _ => n - (intOf c).toNat)
     case atStart => exact ⟨recs.length + 2, by omega, by omega, by push_cast; go_num, HQ⟩
     case round =>
      clear HQ
      obtain ⟨k, hk1, hk2, rfl, HQ⟩ := hrel
      obtain ⟨clk, hk4, hSk, hRPk, hFk⟩ := HQ.out
      have c0 := hSk.j.c0
      by_cases hkn : k < n
      ·have hkn' : (k : Int) < n := by omega
       go_wp2_with fail
       refine (vBlocks_ok hSk.v).mono ?_
       rintro e w7 ⟨rfl, rfl⟩
       go_wp2_with fail
       refine (Load_ds hSk.v hSk.d (HDP.out.after (c := clk) (by omega)) k hkn (fun hg => HIT'.out (fun h => hg (h.after _)) _ hkn) (HGO.out _ hFk) hgA).mono ?_
       rintro e w8 ⟨hd8, hf8, he8⟩
       have hF8 : Fr (fun b => b = A ∨ b = J ∨ SR b) w w8 := hFk.trans hf8 (fun _ _ h => .inl h)
       rcases Bool.eq_false_or_eq_true (s.after clk).d.bad with hbd | hbd
       ·rw [if_pos hbd] at he8
        obtain ⟨gg, rfl, htr⟩ := he8
        exact ⟨rfl, .inr ⟨gg, clk, rfl, htr, hd8, hbd, by omega, hF8⟩⟩
       rw [if_neg (by rw [hbd]; simp)] at he8
       subst he8
       have hez : blkOf (lain (s.after clk).bs (s.after clk).ents) k = zB := HLY.out.zero k (by omega) hkn
       rw [hez]
       have HN : Hid (RgK RP SR J V A B n base cache s w recs.length (k + 1) w8) := ⟨clk + 1, by omega, ⟨hSk.v.fr hf8 nVA, hd8, hSk.j.fr hf8 nJA⟩, HP.out _ _ _ hRPk (hf8.mono (fun _ _ h => .inl h)), hF8⟩
       have hq := neq_zB w8
       clear HQ hSk hRPk hFk hd8 hf8 hez hF8
       go_wp2_with (first | (refine wpList_buildOf 130 #[] (v := .agg zB.toArray) (w' := w8) rfl rfl #[] ?_ ?_ ?_; rfl; exact build_zB w8) | (refine wpList_value rfl (v := .bool false) (w' := w8) (exec_neq_block rfl rfl rfl hq) ?_))
       go_roundw
       case rel => exact ⟨k + 1, by omega, by omega, by go_num, HN⟩
       case measure => simp [intOf]; omega
      ·have hkn' : ¬ (k : Int) < n := by omega
       go_wp2_with fail
       refine (vBlocks_ok hSk.v).mono ?_
       rintro e w7 ⟨rfl, rfl⟩
       clear hSk hRPk hFk
       go_wp2
       try rw [Exit.noGoto_ret]
       go_ret
       obtain ⟨clk, hk4, hSk, hRPk, hFk⟩ := HQ.out
       exact .inl ⟨rfl, clk, by omega, hSk, hRPk, hFk⟩
  ·obtain rfl : i = recs.length := by omega
   have hd : decide (((recs.length + 1 : Nat) : Int) < (n : Int)) = false := by simp; omega
   rw [hd]
   clear hd
   have hS5 := hS0
   have hRP5 := hRP0
   have hF5 := hF0
   have c1 := hS5.j.c1
   push_cast at c1
   clear hS0 hRP0 hF0
   obtain ⟨w5, HW5⟩ : ∃ w5, Hid (w5 = w') := ⟨_, rfl⟩
   rw [← HW5.out] at hS5 hRP5 hF5 c1 ⊢
   clear HW5
   have HQ : Hid (RgK RP SR J V A B n base cache s w recs.length (recs.length + 2) w5) := ⟨_, by omega, hS5, hRP5, hF5⟩
   clear hS5 hRP5 hF5
   go_wp2
   go_loopw [6] (fun c wq => ∃ k : Nat, recs.length + 2 ≤ k ∧ k ≤ n + 1 ∧ c = .int .i64 k ∧ Hid (RgK RP SR J V A B n base cache s w recs.length k wq)) (fun c _ => n - (intOf c).toNat)
   case atStart => exact ⟨recs.length + 2, by omega, by omega, by push_cast; go_num, HQ⟩
   case round =>
    clear HQ
    obtain ⟨k, hk1, hk2, rfl, HQ⟩ := hrel
    obtain ⟨clk, hk4, hSk, hRPk, hFk⟩ := HQ.out
    have c0 := hSk.j.c0
    by_cases hkn : k < n
    ·exact absurd hkn (by omega)
    ·have hkn' : ¬ (k : Int) < n := by omega
     go_wp2_with fail
     refine (vBlocks_ok hSk.v).mono ?_
     rintro e w7 ⟨rfl, rfl⟩
     clear hSk hRPk hFk
     go_wp2
     try rw [Exit.noGoto_ret]
     go_ret
     obtain ⟨clk, hk4, hSk, hRPk, hFk⟩ := HQ.out
     exact .inl ⟨rfl, clk, by omega, hSk, hRPk, hFk⟩
end Go.Proofs.YteebjgfalllbjaaGreatDoor
namespace Go.Proofs.YteebjgfalllbjaaGreatDoor
open Go.RowKit
structure JnG (w : World) (J V A B n base : Nat) (cache : Value) (s : DS) (e : Int) (sb : Bool) : Prop where
 v : VolAt w V A n
 d : DSAt w A B n base cache s
 j : JAt w J V e sb
def settleD (sb : Bool) (s : DS) (e : Nat) : Bool × DS := if sb = true then (true, s) else s.put e zB
def addD (sb : Bool) (s : DS) (e : Nat) (blk : List Value) : Bool × DS := if (settleD sb s e).1 = true then (settleD sb s e).2.put e blk else (false, (settleD sb s e).2)
def Hi (base A B J : Nat) : Prop := 0 < base ∧ base ≤ A ∧ base ≤ B ∧ base ≤ J
def JnF (A B J : Nat) (cache : Value) (b : Nat) : Prop := DkF A B cache b ∨ b = J
section
variable {w w' : World} {J V A B n base e : Nat} {cache : Value} {s : DS} {sb : Bool}
theorem JnG.frz {e : Int} (h : JnG w J V A B n base cache s e sb) (hf : Fr (fun _ => False) w w') : JnG w' J V A B n base cache s e sb := ⟨h.v.fr hf id, h.d.frz hf, h.j.fr hf id⟩
theorem JnG.fr {e : Int} {S : Nat → Prop} (h : JnG w J V A B n base cache s e sb) (hf : Fr S w w') (hS : ∀ b, JnF A B J cache b ∨ b = V → ¬ S b) : JnG w' J V A B n base cache s e sb := ⟨h.v.fr hf (hS _ (.inr rfl)), h.d.fr hf (fun b hb => hS b (.inl (.inl hb))), h.j.fr hf (hS _ (.inl (.inr rfl)))⟩
theorem CB.trans {w w1 : World} {c c1 c2 : Value} (h : CB w c c1) (h1 : CB w1 c1 c2) (hs : w.heap.size ≤ w1.heap.size) : CB w c c2 := fun b hb => by
 rcases h1 b hb with h2 | h2
 ·exact h b h2
 ·right; omega
theorem CB.refl (w : World) (c : Value) : CB w c c := fun _ h => .inl h
theorem jnf_step {w w1 w2 : World} {c c1 : Value} (hf : Fr (JnF A B J c) w w1) (hc : CB w c c1) (hf1 : Fr (JnF A B J c1) w1 w2) : Fr (JnF A B J c) w w2 := hf.trans hf1 (fun b hb h => by
 rcases h with (h | h | h) | h
 ·exact .inl (.inl h)
 ·exact .inl (.inr (.inl h))
 ·rcases hc b h with h2 | h2
  ·exact .inl (.inr (.inr h2))
  ·omega
 ·exact .inr h)
theorem gok_jnf (hG : GOk w) (hH : Hi base A B J) (h : DSAt w A B n base cache s) (hf : Fr (JnF A B J cache) w w') : GOk w' := hG.fr hf (by
 rintro ((e | e | e) | e)
 ·have := hH; unfold Hi at this; omega
 ·have := hH; unfold Hi at this; omega
 ·have := (h.q.o.lt _ e).1; have := hH.1; omega
 ·have := hH; unfold Hi at this; omega)
def ErrQ (ok : Bool) (w' : World) (v : Value) (P Q : Prop) : Prop := Sel ok (v = .nilIface ∧ P) (Q ∧ ∃ g, v = trV g ∧ TrAt w' g)
set_option maxRecDepth 100000 in
set_option maxHeartbeats 1000000 in
theorem Settle_gen (h : JnG w J V A B n base cache s e sb) (hH : Hi base A B J) (hq : s.d.Q) (hel : s.ents.length < 900000) (he : e < n) (HI : ItH e) (hG : GOk w) :
  Calls Tryz.prog 91 #[.pointer (some ⟨J, 0, none⟩)] w fun e' w' => ∃ v cache', e' = .returned v ∧ DSAt w' A B n base cache' (settleD sb s e).2 ∧ CB w cache cache' ∧ VolAt w' V A n ∧ Fr (JnF A B J cache) w w' ∧ ErrQ (settleD sb s e).1 w' v (JAt w' J V e true) (JAt w' J V e false) := by
 have hmf : ∀ (fn : Fn) (first cap : Array Value) (w : World), (Instr.makeFunc fn first cap).run Tryz.prog w = .ok (.func fn first cap) w := fun _ _ _ _ => rfl
 have hfa : Fr (fun _ => False) w (w.alloc (.cells #[.pointer (some ⟨J, 0, none⟩)] 87)) := (Fr.refl _ _).alloc _
 have hx := heap_alloc_at w (.cells #[.pointer (some ⟨J, 0, none⟩)] 87)
 have hA := h.frz hfa
 have c2 := hA.j.c2
 have hJl := lt_of_heap h.j
 have hAl := h.d.d.lt
 have hBl := lt_of_heap h.d.r.1
 have hVl := lt_of_heap h.v
 have hcl : ∀ b, cache.ownBlock = some b → b < w.heap.size := fun b hb => (h.d.q.o.lt b hb).2
 cases sb
 ·have hT := Try_gen (w := w.alloc (.cells #[.pointer (some ⟨J, 0, none⟩)] 87)) (f := 138) (caps := #[.pointer (some ⟨w.heap.size, 0, none⟩)])
   (Q := fun v w' => ∃ cache', DSAt w' A B n base cache' (settleD false s e).2 ∧ CB w cache cache' ∧ VolAt w' V A n ∧ Fr (JnF A B J cache) w w' ∧ ErrQ (settleD false s e).1 w' v (JAt w' J V e true) (JAt w' J V e false)) (fun _ => by kernel_rfl) (by
    have hfb : Fr (fun _ => False) (w.alloc (.cells #[.pointer (some ⟨J, 0, none⟩)] 87)) ((w.alloc (.cells #[.pointer (some ⟨J, 0, none⟩)] 87)).alloc (.cells #[.nilIface] 36)) := (Fr.refl _ _).alloc _
    have hB := hA.frz hfb
    have hab := hfa.trans hfb (fun _ _ h => h)
    refine (Settle1_gen (hfb.keep hx (fun h => h)) hB.j hB.v hB.d hq hel he HI (hG.fr hab (fun h => h)) (by have := hH; unfold Hi at this; omega)).mono ?_
    rintro e' w1 ⟨cache1, d1, cb1, v1, f1, r1⟩
    have hno : ∀ b, w.heap.size ≤ b → ¬ (DkF A B cache b ∨ b = J) := by
     rintro b hb ((e | e | e) | e)
     ·omega
     ·omega
     ·have := hcl b e; omega
     ·omega
    have hE : w1.heap[(w.alloc (.cells #[.pointer (some ⟨J, 0, none⟩)] 87)).heap.size]? = some (.cells #[.nilIface] 36 (0, 0)) := f1.keep (heap_alloc_at _ _) (hno _ (by simp))
    have cb1' : CB w cache cache1 := fun b hb => (cb1 b hb).imp_right (fun h => Nat.le_trans hab.size h)
    have f1' : Fr (JnF A B J cache) w w1 := (hab.mono (fun _ _ h => h.elim)).trans f1 (fun _ _ h => h)
    have hset : ∀ (u : World) (v : Value), Fr (fun b => b = w.heap.size + 1) u (u.setCell ⟨(w.alloc (.cells #[.pointer (some ⟨J, 0, none⟩)] 87)).heap.size, 0, none⟩ v) := fun u v => by
     have := Fr.set1 u (w.alloc (.cells #[.pointer (some ⟨J, 0, none⟩)] 87)).heap.size 0 v
     simpa using this
    have hcn : ∀ {u : World} {s' : DS}, DSAt u A B n base cache1 s' → u.heap[(w.alloc (.cells #[.pointer (some ⟨J, 0, none⟩)] 87)).heap.size]? = some (.cells #[.nilIface] 36 (0, 0)) → ∀ b, DkF A B cache1 b → ¬ b = w.heap.size + 1 := by
     intro u s' hu hEu b hb e
     subst e
     have hEu' : u.heap[w.heap.size + 1]? = some (.cells #[.nilIface] 36 (0, 0)) := by simpa using hEu
     exact hu.not hEu' (by decide) hb
    refine ⟨hE, ?_⟩
    have hsD : settleD false s e = s.put e zB := rfl
    rcases r1.out with ⟨ok, rfl, j1⟩ | ⟨bad, j1, g, rfl, ht⟩
    ·refine .inl ⟨_, rfl, rfl, cache1, d1.fr (hset _ _) (hcn d1 hE), cb1', v1.fr (hset _ _) (by omega), (f1'.trans (hset _ _) (fun b hb h => by omega)), Sel.pos ok ⟨rfl, j1.fr (hset _ _) (by omega)⟩⟩
    ·refine .inr ⟨g, rfl, gok_jnf hG hH h.d f1', fun w2 hf2 => ?_⟩
     have hE2 := hf2.keep hE (fun h => h)
     have d2 := d1.frz hf2
     refine ⟨cache1, d2.fr (hset _ _) (hcn d2 hE2), cb1', (v1.fr hf2 id).fr (hset _ _) (by omega), ((f1'.trans (hf2.mono (fun _ _ h => h.elim)) (fun _ _ h => h)).trans (hset _ _) (fun b hb h => by omega)), Sel.neg bad ⟨(j1.fr hf2 id).fr (hset _ _) (by omega), g, rfl, ?_⟩⟩
     refine (ht.fr hf2 (fun _ _ _ _ _ h => h)).fr (hset _ _) (fun b c t hb ht e => ?_)
     subst e
     have hE3 : w2.heap[w.heap.size + 1]? = some (.cells #[.nilIface] 36 (0, 0)) := by simpa using hE2
     rw [hE3] at hb; simp at hb
     rw [← hb.2] at ht
     revert ht; decide)
  clear hfa hx hA
  go_enter Tryz.func91, Tryz.ntmps91
  go_wp2_with fail
  refine hT.mono ?_
  rintro e' w1 ⟨v, rfl, hQ⟩
  have HQ : Hid (∃ cache', DSAt w1 A B n base cache' (settleD false s e).2 ∧ CB w cache cache' ∧ VolAt w1 V A n ∧ Fr (JnF A B J cache) w w1 ∧ ErrQ (settleD false s e).1 w1 v (JAt w1 J V e true) (JAt w1 J V e false)) := hQ
  clear hT hQ
  go_wp2
  go_ret
  obtain ⟨c', q⟩ := HQ.out
  exact ⟨_, c', rfl, q⟩
 ·have HQ : Hid (∃ cache', DSAt (w.alloc (.cells #[.pointer (some ⟨J, 0, none⟩)] 87)) A B n base cache' (settleD true s e).2 ∧ CB w cache cache' ∧ VolAt (w.alloc (.cells #[.pointer (some ⟨J, 0, none⟩)] 87)) V A n ∧ Fr (JnF A B J cache) w (w.alloc (.cells #[.pointer (some ⟨J, 0, none⟩)] 87)) ∧ ErrQ (settleD true s e).1 (w.alloc (.cells #[.pointer (some ⟨J, 0, none⟩)] 87)) .nilIface (JAt (w.alloc (.cells #[.pointer (some ⟨J, 0, none⟩)] 87)) J V e true) (JAt (w.alloc (.cells #[.pointer (some ⟨J, 0, none⟩)] 87)) J V e false)) := ⟨cache, hA.d, CB.refl _ _, hA.v, hfa.mono (fun _ _ h => h.elim), Sel.pos rfl ⟨rfl, hA.j⟩⟩
  clear hfa hx hA
  go_enter Tryz.func91, Tryz.ntmps91
  go_wp2
  go_ret
  obtain ⟨c', q⟩ := HQ.out
  exact ⟨_, c', rfl, q⟩
set_option maxRecDepth 100000 in
set_option maxHeartbeats 1000000 in
theorem Add_gen {blk : List Value} (h : JnG w J V A B n base cache s e sb) (hH : Hi base A B J) (hq : s.d.Q) (hq2 : (settleD sb s e).2.d.Q) (hel : s.ents.length < 800000) (he : e < n) (hn : n ≤ 400) (HI : ItH e) (hG : GOk w) (hl : blk.length = 128) (hb1 : ∀ v ∈ blk, v.oneCell' = true) :
  Calls Tryz.prog 61 #[.pointer (some ⟨J, 0, none⟩), .agg blk.toArray] w fun e' w' => ∃ v cache', e' = .returned v ∧ DSAt w' A B n base cache' (addD sb s e blk).2 ∧ CB w cache cache' ∧ VolAt w' V A n ∧ Fr (JnF A B J cache) w w' ∧ ErrQ (addD sb s e blk).1 w' v (JAt w' J V ((e : Int) + 1) true) (∃ sb', JAt w' J V e sb') := by
 have hmf : ∀ (fn : Fn) (first cap : Array Value) (w : World), (Instr.makeFunc fn first cap).run Tryz.prog w = .ok (.func fn first cap) w := fun _ _ _ _ => rfl
 obtain ⟨W, HW⟩ : ∃ W, Hid (W = (w.alloc (.cells #[.pointer (some ⟨J, 0, none⟩)] 87)).alloc (.cells blk.toArray 130)) := ⟨_, rfl⟩
 have hfa : Fr (fun _ => False) w W := by rw [HW.out]; exact ((Fr.refl _ _).alloc _).alloc _
 have hx : W.heap[w.heap.size]? = some (.cells #[.pointer (some ⟨J, 0, none⟩)] 87 (0, 0)) := by rw [HW.out, heap_alloc_lt _ _ _ (by simp)]; exact heap_alloc_at _ _
 have hx2 : W.heap[w.heap.size + 1]? = some (.cells blk.toArray 130 (0, 0)) := by rw [HW.out]; exact heap_alloc2_new w _ _
 have hA := h.frz hfa
 have cx : ((w.alloc (.cells #[.pointer (some ⟨J, 0, none⟩)] 87)).alloc (.cells blk.toArray 130)).cell? ⟨w.heap.size, 0, none⟩ = some (.pointer (some ⟨J, 0, none⟩)) := by rw [← HW.out]; exact (cell_of_row W _ 0 _ _ _ hx).trans rfl
 have hJl := lt_of_heap h.j
 have hAl := h.d.d.lt
 have hBl := lt_of_heap h.d.r.1
 have hVl := lt_of_heap h.v
 have hcl : ∀ b, cache.ownBlock = some b → b < w.heap.size := fun b hb => (h.d.q.o.lt b hb).2
 have hno : ∀ b, w.heap.size ≤ b → ¬ JnF A B J cache b := by
  rintro b hb ((e | e | e) | e)
  ·omega
  ·omega
  ·have := hcl b e; omega
  ·omega
 have hs := Settle_gen hA hH hq (by omega) he HI (hG.fr hfa (fun h => h))
 have hGw := hG
 go_enter Tryz.func61, Tryz.ntmps61
 go_wp2_with fail
 rw [← HW.out]
 refine hs.mono ?_
 rintro e' w1 ⟨v1, cache1, rfl, d1, cb1, vo1, hf1, r1⟩
 have x1 := hf1.keep hx (hno _ (Nat.le_refl _))
 have x2 := hf1.keep hx2 (hno _ (by omega))
 have cb1' : CB w cache cache1 := fun b hb => (cb1 b hb).imp_right (fun h => Nat.le_trans hfa.size h)
 have hF1 : Fr (JnF A B J cache) w w1 := (hfa.mono (fun _ _ h => h.elim)).trans hf1 (fun _ _ h => h)
 have hG1 : GOk w1 := gok_jnf hG hH h.d hF1
 have hsz1 : w.heap.size + 1 < w1.heap.size := lt_of_heap x2
 have hlen1 : (settleD sb s e).2.ents.length < 900000 := by
  unfold settleD DS.put DS.store DS.secure DS.fail
  repeat' split
  all_goals simp
  all_goals omega
 rcases r1.out with ⟨ok, rfl, j1⟩ | ⟨bad, j1, g, rfl, ht⟩
 ·clear HW hfa hx hx2 hA cx hs hf1
  have hcl1 : ∀ b, cache1.ownBlock = some b → b < w1.heap.size := fun b hb => (d1.q.o.lt b hb).2
  have hno1 : ∀ b, w1.heap.size ≤ b → ¬ JnF A B J cache1 b := by
   rintro b hb ((e | e | e) | e)
   ·omega
   ·omega
   ·have := hcl1 b e; omega
   ·omega
  have haD : addD sb s e blk = (settleD sb s e).2.put e blk := by unfold addD; rw [if_pos ok]
  obtain ⟨s1, HS1⟩ : ∃ s1, Hid (s1 = (settleD sb s e).2) := ⟨_, rfl⟩
  rw [← HS1.out] at d1 haD hq2 hlen1
  have hT := Try_gen (w := w1) (f := 93) (caps := #[.pointer (some ⟨w.heap.size, 0, none⟩), .pointer (some ⟨w.heap.size + 1, 0, none⟩)])
   (Q := fun v w' => ∃ cache', DSAt w' A B n base cache' (addD sb s e blk).2 ∧ CB w cache cache' ∧ VolAt w' V A n ∧ Fr (JnF A B J cache) w w' ∧ ErrQ (addD sb s e blk).1 w' v (JAt w' J V ((e : Int) + 1) true) (∃ sb', JAt w' J V e sb')) (fun _ => by kernel_rfl) (by
    have hfb : Fr (fun _ => False) w1 (w1.alloc (.cells #[.nilIface] 36)) := (Fr.refl _ _).alloc _
    refine (Add1_gen (hfb.keep x1 (fun h => h)) (hfb.keep x2 (fun h => h)) hl hb1 (j1.fr hfb id) (vo1.fr hfb id) (d1.frz hfb) hq2 hlen1 he hn HI (hG1.fr hfb (fun h => h)) (by have := hH; unfold Hi at this; omega)).mono ?_
    rintro e' w2 ⟨cache2, d2, cb2, v2, f2, r2⟩
    have cb2' : CB w cache cache2 := cb1'.trans (fun b hb => (cb2 b hb).imp_right (fun h => Nat.le_trans hfb.size h)) hF1.size
    have f2' : Fr (JnF A B J cache) w w2 := jnf_step hF1 cb1' ((hfb.mono (fun _ _ h => h.elim)).trans f2 (fun _ _ h => h))
    have hE : w2.heap[w1.heap.size]? = some (.cells #[.nilIface] 36 (0, 0)) := f2.keep (heap_alloc_at _ _) (hno1 _ (Nat.le_refl _))
    have hset : ∀ (u : World) (v : Value), Fr (fun b => b = w1.heap.size) u (u.setCell ⟨w1.heap.size, 0, none⟩ v) := fun u v => Fr.set1 _ _ _ _
    have hcn : ∀ {u : World} {s' : DS}, DSAt u A B n base cache2 s' → u.heap[w1.heap.size]? = some (.cells #[.nilIface] 36 (0, 0)) → ∀ b, DkF A B cache2 b → ¬ b = w1.heap.size := by
     intro u s' hu hEu b hb e
     subst e
     exact hu.not hEu (by decide) hb
    rw [haD]
    refine ⟨hE, ?_⟩
    rcases r2.out with ⟨ok2, rfl, j2⟩ | ⟨bad2, j2, g, rfl, ht⟩
    ·exact .inl ⟨_, rfl, rfl, cache2, d2.fr (hset _ _) (hcn d2 hE), cb2', v2.fr (hset _ _) (by omega), (f2'.trans (hset _ _) (fun b hb h => by omega)), Sel.pos ok2 ⟨rfl, j2.fr (hset _ _) (by omega)⟩⟩
    ·refine .inr ⟨g, rfl, gok_jnf hGw hH h.d f2', fun w3 hf3 => ?_⟩
     have hE3 := hf3.keep hE (fun h => h)
     have d3 := d2.frz hf3
     refine ⟨cache2, d3.fr (hset _ _) (hcn d3 hE3), cb2', (v2.fr hf3 id).fr (hset _ _) (by omega), ((f2'.trans (hf3.mono (fun _ _ h => h.elim)) (fun _ _ h => h)).trans (hset _ _) (fun b hb h => by omega)), Sel.neg bad2 ⟨⟨true, (j2.fr hf3 id).fr (hset _ _) (by omega)⟩, g, rfl, ?_⟩⟩
     refine (ht.fr hf3 (fun _ _ _ _ _ h => h)).fr (hset _ _) (fun b c t hb ht e => ?_)
     subst e
     rw [hE3] at hb; simp at hb
     rw [← hb.2] at ht
     revert ht; decide)
  go_wp2_with fail
  refine hT.mono ?_
  rintro e' w3 ⟨v, rfl, hQ⟩
  have HQ : Hid (∃ cache', DSAt w3 A B n base cache' (addD sb s e blk).2 ∧ CB w cache cache' ∧ VolAt w3 V A n ∧ Fr (JnF A B J cache) w w3 ∧ ErrQ (addD sb s e blk).1 w3 v (JAt w3 J V ((e : Int) + 1) true) (∃ sb', JAt w3 J V e sb')) := hQ
  clear hT hQ
  go_wp2
  go_ret
  obtain ⟨c', q⟩ := HQ.out
  exact ⟨_, c', rfl, q⟩
 ·have haD : addD sb s e blk = (false, (settleD sb s e).2) := by unfold addD; rw [if_neg bad]
  have HQ : Hid (∃ cache', DSAt w1 A B n base cache' (addD sb s e blk).2 ∧ CB w cache cache' ∧ VolAt w1 V A n ∧ Fr (JnF A B J cache) w w1 ∧ ErrQ (addD sb s e blk).1 w1 (trV g) (JAt w1 J V ((e : Int) + 1) true) (∃ sb', JAt w1 J V e sb')) := by
   rw [haD]
   exact ⟨cache1, d1, cb1', vo1, hF1, Sel.neg (by simp) ⟨⟨_, j1⟩, g, rfl, ht⟩⟩
  clear HW hfa hx hx2 hA cx hs hf1 d1 vo1 j1 ht
  unfold trV at *
  go_wp2
  go_ret
  obtain ⟨c', q⟩ := HQ.out
  exact ⟨_, c', rfl, q⟩
end
end Go.Proofs.YteebjgfalllbjaaGreatDoor
