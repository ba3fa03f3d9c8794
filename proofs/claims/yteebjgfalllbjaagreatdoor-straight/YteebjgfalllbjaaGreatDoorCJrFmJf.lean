import Derived.Test.YteebjgfalllbjaaGreatDoorCLayEqWh
import Derived.Test.YteebjgfalllbjaaGreatDoorCFrRfRg
import Derived.StillTail
import Derived.WalkMore
import Derived.Test.YteebjgfalllbjaaGreatDoorCAsTlLm
namespace Go.Proofs.YteebjgfalllbjaaGreatDoor
open Go.RowKit

def JAt (w : World) (J V : Nat) (e : Int) (s : Bool) : Prop := w.heap[J]? = some (.cells #[.pointer (some ⟨V, 0, none⟩), .int .i64 e, .bool s] 179 (0, 0))
theorem JAt.c0 {w : World} {J V : Nat} {e : Int} {s : Bool} (h : JAt w J V e s) : w.cell? ⟨J, 0, none⟩ = some (.pointer (some ⟨V, 0, none⟩)) := (cell_of_row w J 0 _ _ _ h).trans rfl
theorem JAt.c1 {w : World} {J V : Nat} {e : Int} {s : Bool} (h : JAt w J V e s) : w.cell? ⟨J, 1, none⟩ = some (.int .i64 e) := (cell_of_row w J 1 _ _ _ h).trans rfl
theorem JAt.c2 {w : World} {J V : Nat} {e : Int} {s : Bool} (h : JAt w J V e s) : w.cell? ⟨J, 2, none⟩ = some (.bool s) := (cell_of_row w J 2 _ _ _ h).trans rfl
theorem JAt.fz {w : World} {J V : Nat} {e : Int} {s : Bool} (h : JAt w J V e s) (j : Nat) : w.frozen? ⟨J, j, none⟩ = false := frozen_of_row w J j _ _ h
theorem JAt.fr {S : Nat → Prop} {w w' : World} {J V : Nat} {e : Int} {s : Bool} (h : JAt w J V e s) (hf : Fr S w w') (hn : ¬ S J) : JAt w' J V e s := hf.keep h hn
theorem JAt.set1 {w : World} {J V : Nat} {e : Int} {s : Bool} (h : JAt w J V e s) (e' : Int) : JAt (w.setCell ⟨J, 1, none⟩ (.int .i64 e')) J V e' s := by
 unfold JAt; rw [heap_setCell_at _ _ _ _ _ _ h]; rfl
theorem JAt.set2 {w : World} {J V : Nat} {e : Int} {s : Bool} (h : JAt w J V e s) (s' : Bool) : JAt (w.setCell ⟨J, 2, none⟩ (.bool s')) J V e s' := by
 unfold JAt; rw [heap_setCell_at _ _ _ _ _ _ h]; rfl
def layB (n : Nat) (recs : List (List Value)) : List Value := headB n ++ (recs.flatten ++ List.replicate ((n - 1 - recs.length) * 128) (Value.int .u8 0))
theorem layB_nil (n : Nat) : layB n [] = emptyB n := by simp [layB, emptyB]
theorem flatB_len (recs : List (List Value)) (h : ∀ r ∈ recs, r.length = 128) : recs.flatten.length = recs.length * 128 := by
 induction recs with
 | nil => rfl
 | cons a l ih => rw [List.flatten_cons, List.length_append, ih (fun r hr => h r (by simp [hr])), h a (by simp), List.length_cons]; omega
theorem layB_head (n : Nat) (recs : List (List Value)) : (layB n recs).take 128 = headB n := by
 rw [layB, List.take_left' (headB_len n)]
theorem layB_rec (n : Nat) (a b : List (List Value)) (r : List Value) (h : ∀ r' ∈ a ++ r :: b, r'.length = 128) : ((layB n (a ++ r :: b)).drop ((a.length + 1) * 128)).take 128 = r := by
 have ha := flatB_len a (fun x hx => h x (by simp [hx]))
 have hr : r.length = 128 := h r (by simp)
 have e : layB n (a ++ r :: b) = (headB n ++ a.flatten) ++ (r ++ (b.flatten ++ List.replicate ((n - 1 - (a ++ r :: b).length) * 128) (Value.int .u8 0))) := by simp [layB]
 rw [e, List.drop_left' (by rw [List.length_append, headB_len, ha]; omega), List.take_left' hr]
theorem layB_zero (n : Nat) (recs : List (List Value)) (h : ∀ r ∈ recs, r.length = 128) (i : Nat) (hi : recs.length < i) (hn : i < n) : ((layB n recs).drop (i * 128)).take 128 = zB := by
 have ha := flatB_len recs h
 have e : layB n recs = (headB n ++ recs.flatten) ++ List.replicate ((n - 1 - recs.length) * 128) (Value.int .u8 0) := by simp [layB]
 rw [e, List.drop_append, List.drop_of_length_le (by rw [List.length_append, headB_len, ha]; omega), List.nil_append, List.drop_replicate, List.take_replicate, zB]
 congr 1
 rw [List.length_append, headB_len, ha]
 have : (n - 1 - recs.length) * 128 = (n - 1) * 128 - recs.length * 128 := Nat.sub_mul _ _ _
 omega
def RecOk (r : List Value) : Prop := r.length = 128 ∧ (∀ v ∈ r, v.oneCell' = true) ∧ ∃ b : Nat → Nat, (∀ i, i < 4 → r[i * 32]? = some (.int .u8 (b i))) ∧ wholeK b = true
structure RdS (w : World) (J V A B n : Nat) (calls writes : Int) (i : Nat) (bs : List Value) : Prop where
 v : VolAt w V A n
 d : DiskAt w A B n (.slice none 0 0) calls writes
 r : RowsAt w B n bs
 j : JAt w J V ((i + 1 : Nat) : Int) false
def endOf (w : World) (J : Nat) : Nat := match w.cell? ⟨J, 1, none⟩ with | some (.int _ e) => e.toNat | _ => 0
theorem endOf_eq {w : World} {J V : Nat} {e : Int} {s : Bool} (h : JAt w J V e s) : endOf w J = e.toNat := by simp [endOf, h.c1]

section
variable {J V A B n : Nat} {writes : Int} {bs : List Value}
def RdI (RP : Nat → World → Prop) (SR : Nat → Prop) (J V A B n : Nat) (calls writes : Int) (bs : List Value) (w : World) (i m : Nat) (wr : World) : Prop :=
 ∃ calls', calls ≤ calls' ∧ calls' ≤ calls + i + m ∧ RdS wr J V A B n calls' writes i bs ∧ RP i wr ∧ Fr (fun b => b = A ∨ b = J ∨ SR b) w wr
end
theorem exec_alloc_blk (ρ : Operand → Value) (o : Oper) (ho : o.op = .alloc 130) (w : World) : (execOp ρ o).run Tryz.prog w = .ok (.value (.pointer (some ⟨w.heap.size, 0, none⟩))) (w.alloc (.cells zB.toArray 130)) := by
 simp only [execOp, ho]
 kernel_rfl
theorem run_store_blk {w : World} {g : Nat} {cs r : List Value} (hg : w.heap[g]? = some (.cells cs.toArray 130 (0, 0))) (hc : cs.length = 128) (hl : r.length = 128) (h1 : ∀ v ∈ r, v.oneCell' = true) : (Instr.storeAt 130 (.pointer (some ⟨g, 0, none⟩)) (.agg r.toArray)).run Tryz.prog w = .ok () (w.setRow g r.toArray) := by
 have := run_storeAt_row (P := Tryz.prog) (o := 0) (ty := 130) (vs := r) hg (by omega) h1 (by rw [block_size, hl])
 rwa [show splice cs 0 r = r from by simp [splice, hl, hc]] at this
theorem RdS.fr {S : Nat → Prop} {w w' : World} {J V A B n i : Nat} {calls writes calls' : Int} {bs : List Value} (h : RdS w J V A B n calls writes i bs) (hf : Fr S w w') (hV : ¬ S V) (hB : ¬ S B) (hJ : ¬ S J) (hd : DiskAt w' A B n (.slice none 0 0) calls' writes) : RdS w' J V A B n calls' writes i bs :=
 ⟨h.v.fr hf hV, hd, ⟨hf.keep h.r.1 hB, h.r.2⟩, h.j.fr hf hJ⟩
theorem exec_lss {ρ : Operand → Value} {o : Oper} {x y : Operand} {a b : Int} (ho : o.op = .binOp .lss 3 x y 3) (hx : ρ x = .int .i64 a) (hy : ρ y = .int .i64 b) (w : World) : (execOp ρ o).run Tryz.prog w = .ok (.value (.bool (decide (a < b)))) w := by
 simp only [execOp, ho, hx, hy]
 kernel_rfl
theorem layB_get (n : Nat) (recs : List (List Value)) (i : Nat) (r : List Value) (hr : recs[i]? = some r) (h : ∀ r' ∈ recs, r'.length = 128) : ((layB n recs).drop ((i + 1) * 128)).take 128 = r := by
 obtain ⟨hi, rfl⟩ := List.getElem?_eq_some_iff.1 hr
 have e : recs = recs.take i ++ recs[i] :: recs.drop (i + 1) := by rw [List.getElem_cons_drop, List.take_append_drop]
 have hl : (recs.take i).length = i := by rw [List.length_take]; omega
 have := layB_rec n (recs.take i) (recs.drop (i + 1)) recs[i] (by rw [← e]; exact h)
 rw [← e, hl] at this
 exact this
def RdK (RP : Nat → World → Prop) (SR : Nat → Prop) (J V A B n : Nat) (calls writes : Int) (bs : List Value) (w : World) (i k : Nat) (wr : World) : Prop :=
 ∃ calls', calls ≤ calls' ∧ calls' ≤ calls + k - 1 ∧ RdS wr J V A B n calls' writes i bs ∧ RP i wr ∧ Fr (fun b => b = A ∨ b = J ∨ SR b) w wr
theorem zB_kinds : ∀ i, i < 4 → zB[i * 32]? = some (.int .u8 (((fun _ => 0) : Nat → Nat) i : Nat)) := by
 intro i hi
 have : i = 0 ∨ i = 1 ∨ i = 2 ∨ i = 3 := by omega
 rcases this with rfl | rfl | rfl | rfl <;> rfl
theorem zB_ints : ∀ i, i < 128 → ∃ z : Int, zB.toArray[i]? = some (.int .u8 z) := by
 intro i hi
 exact ⟨0, by rw [zB, List.getElem?_toArray, List.getElem?_replicate, if_pos hi]⟩
theorem neq_zB (w : World) : (binOp .neq 130 (.agg zB.toArray) (.agg zB.toArray)).run Tryz.prog w = .ok (.bool false) w := by
 rw [run_neq_struct]
 have := equal_self 9998 zB.toArray w zB_ints
 rw [this]; rfl
set_option maxRecDepth 100000 in
set_option maxHeartbeats 20000000 in
theorem jread_ok {w : World} {J V A B n t1 t2 : Nat} {calls writes : Int} {recs : List (List Value)} (RP : Nat → World → Prop) (SR : Nat → Prop)
  (h : RdS w J V A B n calls writes 0 (layB n recs)) (h0 : 0 ≤ calls) (h1 : calls < 100000000) (hn8 : 8 ≤ n) (hn : n ≤ 400) (hrl : recs.length < n) (hrec : ∀ r ∈ recs, RecOk r) (hR : RP 0 w)
  (hP : ∀ i W W', RP i W → Fr (fun b => b = A ∨ b = J) W W' → RP i W') (hSR : ¬ SR A ∧ ¬ SR J ∧ ¬ SR V ∧ ¬ SR B)
  (hH : ∀ i r W, recs[i]? = some r → RP i W → Fr (fun b => b = A ∨ b = J ∨ SR b) w W → Calls Tryz.prog 115 #[.agg r.toArray, .pointer (some ⟨t1, 0, none⟩), .pointer (some ⟨t2, 0, none⟩)] W fun e w' => e = .returned (.bool true) ∧ RP (i + 1) w' ∧ Fr SR W w') :
  Calls Tryz.prog 114 #[.pointer (some ⟨J, 0, none⟩), .func (.func 115) #[] #[.pointer (some ⟨t1, 0, none⟩), .pointer (some ⟨t2, 0, none⟩)]] w fun e w' => e = .returned .nilIface ∧ ∃ calls', calls ≤ calls' ∧ calls' ≤ calls + n ∧ RdS w' J V A B n calls' writes recs.length (layB n recs) ∧ RP recs.length w' ∧ Fr (fun b => b = A ∨ b = J ∨ SR b) w w' := by
 have HI : Hid (RdI RP SR J V A B n calls writes (layB n recs) w 0 0 w) := ⟨calls, Int.le_refl _, by omega, h, hR, Fr.refl _ _⟩
 have HH : Hid (∀ i r W, recs[i]? = some r → RP i W → Fr (fun b => b = A ∨ b = J ∨ SR b) w W → Calls Tryz.prog 115 #[.agg r.toArray, .pointer (some ⟨t1, 0, none⟩), .pointer (some ⟨t2, 0, none⟩)] W fun e w' => e = .returned (.bool true) ∧ RP (i + 1) w' ∧ Fr SR W w') := hH
 have HP : Hid (∀ i W W', RP i W → Fr (fun b => b = A ∨ b = J) W W' → RP i W') := hP
 have HS : Hid (¬ SR A ∧ ¬ SR J ∧ ¬ SR V ∧ ¬ SR B) := hSR
 have HREC : Hid (∀ r ∈ recs, RecOk r) := hrec
 have nVA : V ≠ A := h.v.ne h.d
 have nJA : J ≠ A := fun e => by have := h.j; rw [e] at this; have := this.symm.trans h.d; simp [dcells] at this
 have nJB : J ≠ B := fun e => by have := h.j; rw [e] at this; have := this.symm.trans h.r.1; simp at this
 have nJV : J ≠ V := fun e => by have := h.j; rw [e] at this; have := this.symm.trans h.v; simp at this
 have nAB : A ≠ B := fun e => by have := h.d; rw [e] at this; have := this.symm.trans h.r.1; simp [dcells] at this
 have hJl := lt_of_heap h.j
 have hVl := lt_of_heap h.v
 have hAl := lt_of_heap h.d
 have hBl := lt_of_heap h.r.1
 have hrows := h.r.2
 have hlift : Tryz.prog.follows .mixedOrders = true := by kernel_rfl
 clear hR hH hP hSR hrec h
 go_enter Tryz.func114, Tryz.ntmps114
 go_wp2
 go_step3
 go_wp2
 go_step3
 go_wp2
 go_loopw [5] (fun _ wr => ∃ i : Nat, i ≤ recs.length ∧ Hid (RdI RP SR J V A B n calls writes (layB n recs) w i 0 wr)) (fun _ wr => n - endOf wr J)
 case atStart => exact ⟨0, by omega, HI⟩
 case round =>
  obtain ⟨i, hi, HR⟩ := hrel
  obtain ⟨cl, hcl1, hcl2, hS, hRP, hF⟩ := HR.out
  have c0 := hS.j.c0
  have c1 := hS.j.c1
  have hend : endOf wr J = i + 1 := by rw [endOf_eq hS.j]; simp
  have HMo : Hid (n - endOf wr J = n - (i + 1)) := by rw [hend]; rfl
  clear HR
  go_wp2
  obtain ⟨W0, HW0⟩ : ∃ W0, Hid (W0 = wr.drew) := ⟨_, rfl⟩
  have hf0 : Fr (fun _ => False) wr W0 := by rw [HW0.out]; exact (Fr.refl _ _).drew
  have hS0 : RdS W0 J V A B n cl writes i (layB n recs) := hS.fr hf0 id id id (hS.d.fr hf0 id)
  have hRP0 : RP i W0 := HP.out i wr W0 hRP (hf0.mono (fun _ _ h => h.elim))
  have hF0 := hF.trans hf0 (fun _ _ h => h.elim)
  clear hS hRP hF hf0 hend c0 c1
  let S : World → Prop := fun w' => w'.cell? ⟨J, 0, none⟩ = some (.pointer (some ⟨V, 0, none⟩)) ∧ w'.cell? ⟨J, 1, none⟩ = some (.int .i64 ((i + 1 : Nat) : Int))
  have hS : S W0 := ⟨hS0.j.c0, hS0.j.c1⟩
  refine wp_region_held (S := S) hlift ?_
  change wpAnyH _ _ _ _ S _ _ _ (World.drew _)
  rw [← HW0.out]
  clear HW0
  refine tkE (S := S) (i := 0) (oi := ⟨some 7, .move (.tmp 0), _, _, _, none⟩) (v := .pointer (some ⟨J, 0, none⟩)) rfl hS ?_
  simp only [Act.put, lsE, lsZ, lsS]
  refine tkE (S := S) (i := 1) (oi := ⟨some 8, .nilCheck (.tmp 7), _, _, _, none⟩) (v := .pointer (some ⟨J, 0, none⟩)) rfl hS ?_
  simp only [Act.put, lsE, lsZ, lsS]
  refine tkE (S := S) (i := 2) (oi := ⟨some 9, .fieldAddr 179 (.tmp 8) 1, _, _, _, none⟩) (v := .pointer (some ⟨J, 1, none⟩)) rfl hS ?_
  simp only [Act.put, lsE, lsZ, lsS]
  refine tkY (S := S) (i := 3) (oi := ⟨some 10, .load 3 (.tmp 9), _, _, _, none⟩) (v := .int .i64 ((i + 1 : Nat) : Int)) rfl (Or.inl ⟨rfl, fun w' hs => exec_load 3 (.tmp 9) rfl ⟨J, 1, none⟩ rfl (run_loadAt_one hs.2 Tryz.underlying3 rfl)⟩) hS ?_
  simp only [Act.put, lsE, lsZ, lsS]
  refine tkE (S := S) (i := 4) (oi := ⟨some 11, .move (.tmp 0), _, _, _, none⟩) (v := .pointer (some ⟨J, 0, none⟩)) rfl hS ?_
  simp only [Act.put, lsE, lsZ, lsS]
  refine tkE (S := S) (i := 5) (oi := ⟨some 12, .nilCheck (.tmp 11), _, _, _, none⟩) (v := .pointer (some ⟨J, 0, none⟩)) rfl hS ?_
  simp only [Act.put, lsE, lsZ, lsS]
  refine tkE (S := S) (i := 6) (oi := ⟨some 13, .fieldAddr 179 (.tmp 12) 0, _, _, _, none⟩) (v := .pointer (some ⟨J, 0, none⟩)) rfl hS ?_
  simp only [Act.put, lsE, lsZ, lsS]
  refine tkY (S := S) (i := 7) (oi := ⟨some 14, .load 155 (.tmp 13), _, _, _, none⟩) (v := .pointer (some ⟨V, 0, none⟩)) rfl (Or.inl ⟨rfl, fun w' hs => exec_load 155 (.tmp 13) rfl ⟨J, 0, none⟩ rfl (run_loadAt_one hs.1 Tryz.underlying155 rfl)⟩) hS ?_
  simp only [Act.put, lsE, lsZ, lsS]
  refine wpAnyH_all (rs := [8]) (by kernel_rfl) (by simp) ?_
  intro i8 hi8
  obtain rfl : i8 = 8 := by simpa using hi8
  refine wpOp_call (o := ⟨some 15, .call { callee := .value (.func 110), args := #[.tmp 14], argTypes := _ }, _, _, _, none⟩) (f := 110) (args := #[.pointer (some ⟨V, 0, none⟩)]) rfl rfl (by kernel_rfl) ?_
  refine (vBlocks_ok hS0.v).mono ?_
  rintro e w' ⟨rfl, rfl⟩
  refine ⟨_, rfl, hS, ?_⟩
  simp only [Act.put, lsE, lsZ, lsS]
  refine tkY (S := S) (i := 9) (oi := ⟨some 16, .binOp .lss 3 (.tmp 10) (.tmp 15) 3, _, _, _, none⟩) (v := .bool (decide (((i + 1 : Nat) : Int) < (n : Int)))) rfl (Or.inl ⟨rfl, fun w' _ => exec_lss rfl rfl rfl w'⟩) hS ?_
  simp only [Act.put, lsE, lsZ, lsS]
  refine wpAnyH_done (by kernel_rfl) ?_ _
  clear hS
  by_cases hin : i + 1 < n
  ·have hd : decide (((i + 1 : Nat) : Int) < (n : Int)) = true := by simp; omega
   rw [hd]
   clear hd
   obtain ⟨blk, heb⟩ : ∃ blk, ((layB n recs).drop ((i + 1) * 128)).take 128 = blk := ⟨_, rfl⟩
   have hbl : blk.length = 128 := by rw [← heb]; simp [hrows.1]; omega
   have hb1 : ∀ v ∈ blk, v.oneCell' = true := fun v hv => by rw [← heb] at hv; exact hrows.2 v (List.mem_of_mem_drop (List.mem_of_mem_take hv))
   go_wp2
   obtain ⟨W1, HW1⟩ : ∃ W1, Hid (W1 = w'.drew) := ⟨_, rfl⟩
   have hf1 : Fr (fun _ => False) w' W1 := by rw [HW1.out]; exact (Fr.refl _ _).drew
   have hS1 : RdS W1 J V A B n cl writes i (layB n recs) := hS0.fr hf1 id id id (hS0.d.fr hf1 id)
   have hRP1 : RP i W1 := HP.out i _ W1 hRP0 (hf1.mono (fun _ _ h => h.elim))
   have hF1 := hF0.trans hf1 (fun _ _ h => h.elim)
   have hS : S W1 := ⟨hS1.j.c0, hS1.j.c1⟩
   clear hS0 hRP0 hF0 hf1
   refine wp_region_held (S := S) hlift ?_
   change wpAnyH _ _ _ _ S _ _ _ (World.drew _)
   rw [← HW1.out]
   clear HW1
   refine tkE (S := S) (i := 0) (oi := ⟨some 24, .move (.tmp 0), _, _, _, none⟩) (v := .pointer (some ⟨J, 0, none⟩)) rfl hS ?_
   simp only [Act.put, lsE, lsZ, lsS]
   refine tkE (S := S) (i := 1) (oi := ⟨some 25, .nilCheck (.tmp 24), _, _, _, none⟩) (v := .pointer (some ⟨J, 0, none⟩)) rfl hS ?_
   simp only [Act.put, lsE, lsZ, lsS]
   refine tkE (S := S) (i := 2) (oi := ⟨some 26, .fieldAddr 179 (.tmp 25) 0, _, _, _, none⟩) (v := .pointer (some ⟨J, 0, none⟩)) rfl hS ?_
   simp only [Act.put, lsE, lsZ, lsS]
   refine tkY (S := S) (i := 3) (oi := ⟨some 27, .load 155 (.tmp 26), _, _, _, none⟩) (v := .pointer (some ⟨V, 0, none⟩)) rfl (Or.inl ⟨rfl, fun w' hs => exec_load 155 (.tmp 26) rfl ⟨J, 0, none⟩ rfl (run_loadAt_one hs.1 Tryz.underlying155 rfl)⟩) hS ?_
   simp only [Act.put, lsE, lsZ, lsS]
   refine tkE (S := S) (i := 4) (oi := ⟨some 28, .move (.tmp 0), _, _, _, none⟩) (v := .pointer (some ⟨J, 0, none⟩)) rfl hS ?_
   simp only [Act.put, lsE, lsZ, lsS]
   refine tkE (S := S) (i := 5) (oi := ⟨some 29, .nilCheck (.tmp 28), _, _, _, none⟩) (v := .pointer (some ⟨J, 0, none⟩)) rfl hS ?_
   simp only [Act.put, lsE, lsZ, lsS]
   refine tkE (S := S) (i := 6) (oi := ⟨some 30, .fieldAddr 179 (.tmp 29) 1, _, _, _, none⟩) (v := .pointer (some ⟨J, 1, none⟩)) rfl hS ?_
   simp only [Act.put, lsE, lsZ, lsS]
   refine tkY (S := S) (i := 7) (oi := ⟨some 31, .load 3 (.tmp 30), _, _, _, none⟩) (v := .int .i64 ((i + 1 : Nat) : Int)) rfl (Or.inl ⟨rfl, fun w' hs => exec_load 3 (.tmp 30) rfl ⟨J, 1, none⟩ rfl (run_loadAt_one hs.2 Tryz.underlying3 rfl)⟩) hS ?_
   simp only [Act.put, lsE, lsZ, lsS]
   refine wpAnyH_all (rs := [8, 9]) (by kernel_rfl) (by simp) ?_
   intro i8 hi8
   have hi8' : i8 = 8 ∨ i8 = 9 := by simpa using hi8
   clear hi8
   rcases hi8' with rfl | rfl
   case' inl =>
    refine wpOp_call (o := ⟨some 32, .call { callee := .value (.func 112), args := #[.tmp 27, .tmp 31], argTypes := _ }, _, _, _, none⟩) (f := 112) (args := #[.pointer (some ⟨V, 0, none⟩), .int .i64 ((i + 1 : Nat) : Int)]) rfl rfl (by kernel_rfl) ?_
    refine (Load_ok hS1.v hS1.d hS1.r (by omega) (by omega) (i + 1) hin).mono ?_
    rintro e w2 ⟨rfl, hd2, hf2⟩
    have hS2 : RdS w2 J V A B n (cl + 1) writes i (layB n recs) := hS1.fr hf2 nVA nAB.symm nJA hd2
    have hf2' : Fr (fun b => b = A ∨ b = J) W1 w2 := hf2.mono (fun _ _ h => .inl h)
    refine ⟨_, rfl, ⟨hS2.j.c0, hS2.j.c1⟩, ?_⟩
    simp only [Act.put, lsE, lsZ, lsS]
    have hfA : Fr (fun _ => False) w2 (w2.alloc (.cells zB.toArray 130)) := (Fr.refl _ _).alloc _
    have hS3 := hS2.fr hfA id id id (hS2.d.fr hfA id)
    have hrow3 : (w2.alloc (.cells zB.toArray 130)).heap[w2.heap.size]? = some (.cells zB.toArray 130 (0, 0)) := heap_alloc_at _ _
    have hgw : W1.heap.size ≤ w2.heap.size := hf2.size
    have hf13 : Fr (fun b => b = A ∨ b = J) W1 (w2.alloc (.cells zB.toArray 130)) := hf2'.trans hfA (fun _ _ h => h.elim)
    refine wpAnyH_all (rs := [9]) (by kernel_rfl) (by simp) ?_
    intro i9 hi9
    obtain rfl : i9 = 9 := by simpa using hi9
    refine wpOp_value (o := ⟨some 5, .alloc 130, _, _, _, none⟩) (v := .pointer (some ⟨w2.heap.size, 0, none⟩)) (w' := w2.alloc (.cells zB.toArray 130)) rfl rfl (exec_alloc_blk _ _ rfl _) ⟨⟨hS3.j.c0, hS3.j.c1⟩, ?_⟩
    simp only [Act.put, lsE, lsZ, lsS]
    clear hS2 hf2 hf2' hd2 hfA
    obtain ⟨W3, HW3⟩ : ∃ W3, Hid (W3 = w2.alloc (.cells zB.toArray 130)) := ⟨_, rfl⟩
    obtain ⟨g, HG⟩ : ∃ g, Hid (g = w2.heap.size) := ⟨_, rfl⟩
    rw [← HW3.out] at hS3 hf13 hrow3 ⊢
    rw [← HG.out] at hrow3 hgw ⊢
    clear HW3 HG
   case' inr =>
    have hfA : Fr (fun _ => False) W1 (W1.alloc (.cells zB.toArray 130)) := (Fr.refl _ _).alloc _
    have hS2 := hS1.fr hfA id id id (hS1.d.fr hfA id)
    have hrow2 : (W1.alloc (.cells zB.toArray 130)).heap[W1.heap.size]? = some (.cells zB.toArray 130 (0, 0)) := heap_alloc_at _ _
    refine wpOp_value (o := ⟨some 5, .alloc 130, _, _, _, none⟩) (v := .pointer (some ⟨W1.heap.size, 0, none⟩)) (w' := W1.alloc (.cells zB.toArray 130)) rfl rfl (exec_alloc_blk _ _ rfl _) ⟨⟨hS2.j.c0, hS2.j.c1⟩, ?_⟩
    simp only [Act.put, lsE, lsZ, lsS]
    obtain ⟨W2, HW2⟩ : ∃ W2, Hid (W2 = W1.alloc (.cells zB.toArray 130)) := ⟨_, rfl⟩
    obtain ⟨g, HG⟩ : ∃ g, Hid (g = W1.heap.size) := ⟨_, rfl⟩
    rw [← HW2.out] at hS2 hfA hrow2 ⊢
    have hgw : W1.heap.size ≤ g := by rw [HG.out]; exact Nat.le_refl _
    rw [← HG.out] at hrow2 ⊢
    clear HW2 HG
    refine wpAnyH_all (rs := [8]) (by kernel_rfl) (by simp) ?_
    intro i9 hi9
    obtain rfl : i9 = 8 := by simpa using hi9
    refine wpOp_call (o := ⟨some 32, .call { callee := .value (.func 112), args := #[.tmp 27, .tmp 31], argTypes := _ }, _, _, _, none⟩) (f := 112) (args := #[.pointer (some ⟨V, 0, none⟩), .int .i64 ((i + 1 : Nat) : Int)]) rfl rfl (by kernel_rfl) ?_
    refine (Load_ok hS2.v hS2.d hS2.r (by omega) (by omega) (i + 1) hin).mono ?_
    rintro e W3 ⟨rfl, hd3, hf3⟩
    have hS3 : RdS W3 J V A B n (cl + 1) writes i (layB n recs) := hS2.fr hf3 nVA nAB.symm nJA hd3
    have hf3' : Fr (fun b => b = A ∨ b = J) W2 W3 := hf3.mono (fun _ _ h => .inl h)
    have hf13 : Fr (fun b => b = A ∨ b = J) W1 W3 := (hfA.mono (fun _ _ h => h.elim)).trans hf3' (fun _ _ h => h)
    have hrow3 : W3.heap[g]? = some (.cells zB.toArray 130 (0, 0)) := hf3.keep hrow2 (by have := hF1.size; omega)
    refine ⟨_, rfl, ⟨hS3.j.c0, hS3.j.c1⟩, ?_⟩
    simp only [Act.put, lsE, lsZ, lsS]
    clear hS2 hf3 hf3' hd3 hrow2 hfA
   all_goals
    clear hS hS1
    have hst := run_store_blk hrow3 zB_len hbl hb1
    have hrow4 := setRow_heap W3 g _ blk.toArray 130 (0, 0) hrow3
    obtain ⟨W4, HW4⟩ : ∃ W4, Hid (W4 = W3.setRow g blk.toArray) := ⟨_, rfl⟩
    rw [← HW4.out] at hst hrow4
    have hf4 : Fr (· = g) W3 W4 := by rw [HW4.out]; exact (Fr.refl (fun x => x = g) _).setRow _ (fun _ => rfl) _
    have hw1 := hF1.size
    have hS4 : RdS W4 J V A B n (cl + 1) writes i (layB n recs) := hS3.fr hf4 (by omega) (by omega) (by omega) (hS3.d.fr hf4 (by omega))
    have hf14 : Fr (fun b => b = A ∨ b = J) W1 W4 := hf13.trans hf4 (fun b hb h => by omega)
    have hRP4 : RP i W4 := HP.out i _ W4 hRP1 hf14
    have hF4 : Fr (fun b => b = A ∨ b = J ∨ SR b) w W4 := hF1.trans hf14 (fun b _ h => by rcases h with h | h; exact .inl h; exact .inr (.inl h))
    have hgw' : w.heap.size ≤ g := by omega
    clear HW4 hf4 hf13 hf14 hrow3 hS3 hRP1 hF1 hgw
    refine wpAnyH_all (rs := [10]) (by kernel_rfl) (by simp) ?_
    intro i10 hi10
    obtain rfl : i10 = 10 := by simpa using hi10
    rw [heb]
    refine wpOp_skip (o := ⟨none, .store 130 (.tmp 5) (.tmp 32), _, _, _, none⟩) (w' := W4) rfl rfl (exec_store 130 _ _ rfl ⟨g, 0, none⟩ _ rfl rfl hst) ⟨⟨hS4.j.c0, hS4.j.c1⟩, ?_⟩
    simp only [Act.put]
    refine wpAnyH_done (by kernel_rfl) ?_ _

    have hM4 : W4.rangeAt g 0 blk := fun j v hv => (cell_of_row W4 _ (0 + j) _ _ _ hrow4).trans (by simpa using hv)
    clear hst
    by_cases hlt : i < recs.length
    ·obtain ⟨r, hr⟩ : ∃ r, recs[i]? = some r := ⟨_, List.getElem?_eq_getElem hlt⟩
     obtain ⟨rl, r1, bk, hbk, hwk⟩ := HREC.out r (List.mem_of_getElem? hr)
     have hbr : blk = r := by rw [← heb]; exact layB_get n recs i r hr (fun x hx => (HREC.out x hx).1)
     clear heb
     subst hbr
     go_wp2_with (first | (refine wpList_load_mid rfl 130 (.tmp 5) rfl g 0 ?_ blk _ hM4 Tryz.underlying130 rfl ?_ ?_; rfl; (rw [block_size, hbl])))
     refine (rcWhole_ok W4 blk bk hbk).mono ?_
     rintro e w5 ⟨rfl, hf5⟩
     have hS5 := hS4.fr hf5 id id id (hS4.d.fr hf5 id)
     have hRP5 : RP i w5 := HP.out i _ w5 hRP4 (hf5.mono (fun _ _ h => h.elim))
     have hF5 : Fr (fun b => b = A ∨ b = J ∨ SR b) w w5 := hF4.trans hf5 (fun _ _ h => h.elim)
     have hM5 : w5.rangeAt g 0 blk := fun j v hv => hf5.cell (hM4 j v hv) (fun h => h)
     have HC := HH.out i blk w5 hr hRP5 hF5
     rw [hwk]
     clear hS4 hRP4 hF4 hM4 hf5 hrow4 hRP5
     go_wp2_with (first | (refine wpList_load_mid rfl 130 (.tmp 5) rfl g 0 ?_ blk _ hM5 Tryz.underlying130 rfl ?_ ?_; rfl; (rw [block_size, hbl])))
     refine HC.mono ?_
     rintro e w6 ⟨rfl, hRP6, hf6⟩
     have hS6 : RdS w6 J V A B n (cl + 1) writes i (layB n recs) := hS5.fr hf6 HS.out.2.2.1 HS.out.2.2.2 HS.out.2.1 (hS5.d.fr hf6 HS.out.1)
     have hF6 : Fr (fun b => b = A ∨ b = J ∨ SR b) w w6 := hF5.trans hf6 (fun _ _ h => .inr (.inr h))
     have c1 := hS6.j.c1
     have z1 := hS6.j.fz 1
     have HN : ∀ v : Int, v = ((i + 1 + 1 : Nat) : Int) → Hid (RdI RP SR J V A B n calls writes (layB n recs) w (i + 1) 0 (w6.setCell ⟨J, 1, none⟩ (.int .i64 v))) ∧ endOf (w6.setCell ⟨J, 1, none⟩ (.int .i64 v)) J = i + 2 := by
      rintro v rfl
      have hj := hS6.j.set1 ((i + 1 + 1 : Nat) : Int)
      refine ⟨⟨cl + 1, by omega, by push_cast; omega, ⟨?_, hS6.d.setCell _ _ nJA.symm, ⟨?_, hrows⟩, hj⟩, ?_, ?_⟩, by rw [endOf_eq hj]; omega⟩
      ·unfold VolAt; rw [heap_setCell_ne _ _ _ _ nJV.symm]; exact hS6.v
      ·rw [heap_setCell_ne _ _ _ _ nJB.symm]; exact hS6.r.1
      ·exact HP.out _ _ _ hRP6 ((Fr.refl _ _).setCell _ (fun _ => .inr rfl) _)
      ·exact hF6.setCell _ (fun _ => .inr (.inl rfl)) _
     have HN' := HN ((i : Int) + 1 + 1) (by push_cast; rfl)
     have HN1 := HN'.1
     have HN2 := HN'.2
     clear HN HN' hS5 hF5 hM5 HC hRP6 hf6 hF6
     push_cast at c1
     go_wp2
     go_roundw
     case rel => exact ⟨i + 1, by omega, HN1⟩
     case measure => rw [HMo.out, HN2]; omega
    ·obtain rfl : i = recs.length := by omega
     have hbz : blk = zB := by rw [← heb]; exact layB_zero n recs (fun x hx => (HREC.out x hx).1) (recs.length + 1) (by omega) hin
     clear heb
     subst hbz
     go_wp2_with (first | (refine wpList_load_mid rfl 130 (.tmp 5) rfl g 0 ?_ zB _ hM4 Tryz.underlying130 rfl ?_ ?_; rfl; (rw [block_size, hbl])))
     refine (rcWhole_ok W4 zB (fun _ => 0) zB_kinds).mono ?_
     rintro e w5 ⟨rfl, hf5⟩
     have hS5 := hS4.fr hf5 id id id (hS4.d.fr hf5 id)
     have hRP5 : RP recs.length w5 := HP.out _ _ w5 hRP4 (hf5.mono (fun _ _ h => h.elim))
     have hF5 : Fr (fun b => b = A ∨ b = J ∨ SR b) w w5 := hF4.trans hf5 (fun _ _ h => h.elim)
     have hwk : wholeK (fun _ => 0) = false := by decide
     rw [hwk]
     have c1 := hS5.j.c1
     push_cast at c1
     clear hS4 hRP4 hF4 hM4 hf5 hrow4
     have HQ : Hid (RdK RP SR J V A B n calls writes (layB n recs) w recs.length (recs.length + 2) w5) := ⟨_, by omega, by push_cast; omega, hS5, hRP5, hF5⟩
     clear hS5 hRP5 hF5
     go_wp2
     go_loopw [6] (fun c wq => ∃ k : Nat, recs.length + 2 ≤ k ∧ k ≤ n + 1 ∧ c = .int .i64 k ∧ Hid (RdK RP SR J V A B n calls writes (layB n recs) w recs.length k wq)) (fun c _ => n - (intOf c).toNat)
     case atStart => exact ⟨recs.length + 2, by omega, by omega, by push_cast; go_num, HQ⟩
     case round =>
      clear HQ
      obtain ⟨k, hk1, hk2, rfl, HQ⟩ := hrel
      obtain ⟨clk, hk3, hk4, hSk, hRPk, hFk⟩ := HQ.out
      have c0 := hSk.j.c0
      by_cases hkn : k < n
      ·have hkn' : (k : Int) < n := by omega
       go_wp2_with fail
       refine (vBlocks_ok hSk.v).mono ?_
       rintro e w7 ⟨rfl, rfl⟩
       go_wp2_with fail
       refine (Load_ok hSk.v hSk.d hSk.r (by omega) (by omega) k hkn).mono ?_
       rintro e w8 ⟨rfl, hd8, hf8⟩
       have hez : ((layB n recs).drop (k * 128)).take 128 = zB := layB_zero n recs (fun x hx => (HREC.out x hx).1) k (by omega) hkn
       rw [hez]
       have HN : Hid (RdK RP SR J V A B n calls writes (layB n recs) w recs.length (k + 1) w8) := ⟨clk + 1, by omega, by push_cast; omega, hSk.fr hf8 nVA nAB.symm nJA hd8, HP.out _ _ _ hRPk (hf8.mono (fun _ _ h => .inl h)), hFk.trans hf8 (fun _ _ h => .inl h)⟩
       have hq := neq_zB w8
       clear HQ hSk hRPk hFk hd8 hf8 hez
       go_wp2_with (first | (refine wpList_buildOf 130 #[] (v := .agg zB.toArray) (w' := w8) rfl rfl #[] ?_ ?_ ?_; rfl; exact build_zB w8) | (refine wpList_value rfl (v := .bool false) (w' := w8) (exec_neq_block rfl rfl rfl hq) ?_))
       go_roundw
       case rel => exact ⟨k + 1, by omega, by omega, by go_num, HN⟩
       case measure => simp [intOf]; omega
      ·have hkn' : ¬ (k : Int) < n := by omega
       go_wp2_with fail
       refine (vBlocks_ok hSk.v).mono ?_
       rintro e w7 ⟨rfl, rfl⟩
       clear hSk hRPk hFk
       go_wp2
       try rw [Exit.noGoto_ret]
       go_ret
       obtain ⟨clk, hk3, hk4, hSk, hRPk, hFk⟩ := HQ.out
       exact ⟨rfl, clk, hk3, by omega, hSk, hRPk, hFk⟩
  ·obtain rfl : i = recs.length := by omega
   have hd : decide (((recs.length + 1 : Nat) : Int) < (n : Int)) = false := by simp; omega
   rw [hd]
   clear hd
   have hS5 := hS0
   have hRP5 := hRP0
   have hF5 := hF0
   have c1 := hS5.j.c1
   push_cast at c1
   clear hS0 hRP0 hF0
   obtain ⟨w5, HW5⟩ : ∃ w5, Hid (w5 = w') := ⟨_, rfl⟩
   rw [← HW5.out] at hS5 hRP5 hF5 c1 ⊢
   clear HW5
   have HQ : Hid (RdK RP SR J V A B n calls writes (layB n recs) w recs.length (recs.length + 2) w5) := ⟨_, by omega, by push_cast; omega, hS5, hRP5, hF5⟩
   clear hS5 hRP5 hF5
   go_wp2
   go_loopw [6] (fun c wq => ∃ k : Nat, recs.length + 2 ≤ k ∧ k ≤ n + 1 ∧ c = .int .i64 k ∧ Hid (RdK RP SR J V A B n calls writes (layB n recs) w recs.length k wq)) (fun c _ => n - (intOf c).toNat)
   case atStart => exact ⟨recs.length + 2, by omega, by omega, by push_cast; go_num, HQ⟩
   case round =>
    clear HQ
    obtain ⟨k, hk1, hk2, rfl, HQ⟩ := hrel
    obtain ⟨clk, hk3, hk4, hSk, hRPk, hFk⟩ := HQ.out
    have c0 := hSk.j.c0
    by_cases hkn : k < n
    ·exact absurd hkn (by omega)
    ·have hkn' : ¬ (k : Int) < n := by omega
     go_wp2_with fail
     refine (vBlocks_ok hSk.v).mono ?_
     rintro e w7 ⟨rfl, rfl⟩
     clear hSk hRPk hFk
     go_wp2
     try rw [Exit.noGoto_ret]
     go_ret
     obtain ⟨clk, hk3, hk4, hSk, hRPk, hFk⟩ := HQ.out
     exact ⟨rfl, clk, hk3, by omega, hSk, hRPk, hFk⟩
end Go.Proofs.YteebjgfalllbjaaGreatDoor
namespace Go.Proofs.YteebjgfalllbjaaGreatDoor
open Go.RowKit
theorem Held.alloc {w : World} {X V A B n : Nat} {cache : Value} {calls writes : Int} {bs : List Value} (h : Held w X V A B n cache calls writes bs) (o : Obj) : Held (w.alloc o) X V A B n cache calls writes bs :=
 ⟨by rw [heap_alloc_lt _ _ _ (lt_of_heap h.x)]; exact h.x, by unfold VolAt; rw [heap_alloc_lt _ _ _ (lt_of_heap h.v)]; exact h.v, h.d.alloc _, by rw [heap_alloc_lt _ _ _ (lt_of_heap h.r.1)]; exact h.r.1, h.r.2⟩
theorem Held.set {w : World} {X V A B n : Nat} {cache : Value} {calls writes : Int} {bs : List Value} (h : Held w X V A B n cache calls writes bs) (p : Addr) (u : Value) (hp : X ≠ p.block ∧ V ≠ p.block ∧ A ≠ p.block ∧ B ≠ p.block) : Held (w.setCell p u) X V A B n cache calls writes bs :=
 ⟨by rw [heap_setCell_ne _ _ _ _ hp.1]; exact h.x, by unfold VolAt; rw [heap_setCell_ne _ _ _ _ hp.2.1]; exact h.v, h.d.setCell _ _ hp.2.2.1, by rw [heap_setCell_ne _ _ _ _ hp.2.2.2]; exact h.r.1, h.r.2⟩

set_option maxRecDepth 100000 in
set_option maxHeartbeats 1000000 in
theorem TryLay_ok {w : World} {X V A B n : Nat} {calls writes : Int} {bs : List Value} (h : Held w X V A B n (.slice none 0 0) calls writes bs) (h0 : 0 ≤ calls) (h1 : calls < 100000000) (h2 : 0 ≤ writes) (h3 : writes < 100000000) (hn8 : 8 ≤ n) (hn : n ≤ 400) :
  Calls Tryz.prog 92 #[.func (.func 136) #[] #[.pointer (some ⟨X, 0, none⟩)]] w fun e w' => e = .returned .nilIface ∧ ∃ bs', Held w' X V A B n (.slice none 0 0) (calls + (n + 4)) (writes + (n + 1)) bs' ∧ bs' = emptyB n ∧ Fr (fun b => b = A ∨ b = B) w w' := by
 have hmf : ∀ (fn : Fn) (first cap : Array Value) (w : World), (Instr.makeFunc fn first cap).run Tryz.prog w = .ok (.func fn first cap) w := fun _ _ _ _ => rfl
 have hXl := lt_of_heap h.x
 have hVl := lt_of_heap h.v
 have hAl := lt_of_heap h.d
 have hBl := lt_of_heap h.r.1
 go_enter_defers Tryz.func92, Tryz.ntmps92
 go_wp2_with fail
 refine (Lay1_ok (h.alloc _) h0 h1 h2 h3 hn8 hn).mono ?_
 rintro e w2 ⟨rfl, bs2, hh2, hbs2, hf2⟩
 have hE : w2.heap[w.heap.size]? = some (.cells #[.nilIface] 36 (0, 0)) := hf2.keep (heap_alloc_at w _) (by omega)
 have cE : w2.cell? ⟨w.heap.size, 0, none⟩ = some .nilIface := by rw [cell_of_row w2 w.heap.size 0 _ _ _ hE]; rfl
 have fE : w2.frozen? ⟨w.heap.size, 0, none⟩ = false := frozen_of_row w2 w.heap.size 0 _ _ hE
 have hF : Fr (fun b => b = A ∨ b = B) w w2 := ((Fr.refl _ _).alloc _).trans hf2 (fun _ _ h => h)
 go_wp2
 refine leaves_cons (f := 139) (args := #[.pointer (some ⟨w.heap.size, 0, none⟩)]) (by simp) (by simp [go_sem]) ?_
 refine (Try1_idle ⟨w.heap.size, 0, none⟩ _).mono ?_
 rintro e u' w'' ⟨rfl, rfl, rfl⟩
 have cE' : (w2.setCell ⟨w.heap.size, 0, none⟩ .nilIface).cell? ⟨w.heap.size, 0, none⟩ = some .nilIface := World.cell?_setCell_same _ _ _ cE
 simp [Leaves, settle, results, Tryz.results92, go_sem, cE']
 exact ⟨bs2, hh2.set _ _ ⟨by simp; omega, by simp; omega, by simp; omega, by simp; omega⟩, hbs2, hF.setCell _ (fun hh => by simp at hh) _⟩

set_option maxRecDepth 100000 in
theorem Lay_ok {w : World} {V A B n : Nat} {calls writes : Int} {bs : List Value} (hv : VolAt w V A n) (hd : DiskAt w A B n (.slice none 0 0) calls writes) (hr : RowsAt w B n bs) (h0 : 0 ≤ calls) (h1 : calls < 100000000) (h2 : 0 ≤ writes) (h3 : writes < 100000000) (hn8 : 8 ≤ n) (hn : n ≤ 400) :
  Calls Tryz.prog 88 #[.pointer (some ⟨V, 0, none⟩)] w fun e w' => e = .returned .nilIface ∧ ∃ bs', DiskAt w' A B n (.slice none 0 0) (calls + (n + 4)) (writes + (n + 1)) ∧ RowsAt w' B n bs' ∧ bs' = emptyB n ∧ Fr (fun b => b = A ∨ b = B) w w' := by
 have hmf : ∀ (fn : Fn) (first cap : Array Value) (w : World), (Instr.makeFunc fn first cap).run Tryz.prog w = .ok (.func fn first cap) w := fun _ _ _ _ => rfl
 have hh : Held (w.alloc (.cells #[.pointer (some ⟨V, 0, none⟩)] 155)) w.heap.size V A B n (.slice none 0 0) calls writes bs :=
  ⟨heap_alloc_at _ _, by unfold VolAt; rw [heap_alloc_lt _ _ _ (lt_of_heap hv)]; exact hv, hd.alloc _, by rw [heap_alloc_lt _ _ _ (lt_of_heap hr.1)]; exact hr.1, hr.2⟩
 go_enter Tryz.func88, Tryz.ntmps88
 go_wp2_with fail
 refine (TryLay_ok hh h0 h1 h2 h3 hn8 hn).mono ?_
 rintro e w2 ⟨rfl, bs2, hh2, hbs2, hf2⟩
 go_wp2
 go_ret
 exact ⟨rfl, bs2, hh2.d, hh2.r, hbs2, ((Fr.refl _ _).alloc _).trans hf2 (fun _ _ h => h)⟩

theorem New_ok {w : World} {A B n : Nat} {cache : Value} {calls writes : Int} (h : DiskAt w A B n cache calls writes) (hn8 : 8 ≤ n) (hn : n ≤ 400) :
  Calls Tryz.prog 72 #[.iface 31 (.pointer (some ⟨A, 0, none⟩))] w fun e w' => ∃ V, e = .returned (.tuple #[.pointer (some ⟨V, 0, none⟩), .nilIface]) ∧ VolAt w' V A n ∧ w.heap.size ≤ V ∧ Fr (fun _ => False) w w' := by
 have hn' : ¬ (n : Int) < 8 := by omega
 have hn'' : ¬ (400 : Int) < n := by omega
 have hd : decide ((n : Int) < 8) = false := by simpa using hn'
 have hd2 : decide ((400 : Int) < n) = false := by simpa using hn''
 go_enter Tryz.func72, Tryz.ntmps72
 go_wp2_with fail
 refine (count_ok h).mono ?_
 rintro e w2 ⟨rfl, hf⟩
 go_wp2
 go_ret2
 exact ⟨w2.heap.size, rfl, heap_alloc_at _ _, hf.size, hf.alloc _⟩

theorem wrapped_nil (s : ByteArray) (w : World) : Calls Tryz.prog 41 #[.string s, .nilIface] w fun e w' => e = .returned .nilIface ∧ w' = w := by
 go_enter Tryz.func41, Tryz.ntmps41
 go_wp2
 go_ret
 exact ⟨rfl, rfl⟩
theorem wrapped_err (s : ByteArray) (k : Int) (w : World) : Calls Tryz.prog 41 #[.string s, .iface 59 (.int .i64 k)] w fun e w' => e = .returned (.iface 117 (.pointer (some ⟨w.heap.size, 0, none⟩))) ∧ w' = w.alloc (.cells #[.string s, .iface 59 (.int .i64 k)] 119) := by
 go_enter Tryz.func41, Tryz.ntmps41
 go_wp2
 go_ret
 exact ⟨rfl, rfl⟩
theorem sFormat_ok {w : World} {A B n : Nat} {calls writes : Int} {bs : List Value} (h : DiskAt w A B n (.slice none 0 0) calls writes) (hr : RowsAt w B n bs) (h0 : 0 ≤ calls) (h1 : calls < 100000000) (h2 : 0 ≤ writes) (h3 : writes < 100000000) (hn8 : 8 ≤ n) (hn : n ≤ 400) :
  Calls Tryz.prog 56 #[.iface 31 (.pointer (some ⟨A, 0, none⟩))] w fun e w' => ∃ v, e = .returned v ∧ ErrAt w' v 0 ∧ ∃ bs', DiskAt w' A B n (.slice none 0 0) (calls + (n + 4)) (writes + (n + 1)) ∧ RowsAt w' B n bs' ∧ bs' = emptyB n ∧ Fr (fun b => b = A ∨ b = B) w w' := by
 go_enter Tryz.func56, Tryz.ntmps56
 go_wp2_with fail
 refine (New_ok h hn8 hn).mono ?_
 rintro e w2 ⟨V, rfl, hv, hVl, hf⟩
 go_wp2_with fail
 refine (Lay_ok hv (h.fr hf id) ⟨hf.keep hr.1 id, hr.2⟩ h0 h1 h2 h3 hn8 hn).mono ?_
 rintro e w3 ⟨rfl, bs3, hd3, hr3, hb3, hf3⟩
 go_wp2_with fail
 refine (wrapped_nil _ _).mono ?_
 rintro e w4 ⟨rfl, rfl⟩
 go_wp2
 go_ret
 exact ⟨_, rfl, Or.inl ⟨rfl, rfl⟩, bs3, hd3, hr3, hb3, (hf.mono (fun _ _ h => h.elim)).trans hf3 (fun _ _ h => h)⟩
theorem pFormat_ok {w : World} {A B n : Nat} {calls writes : Int} {bs : List Value} (h : DiskAt w A B n (.slice none 0 0) calls writes) (hr : RowsAt w B n bs) (h0 : 0 ≤ calls) (h1 : calls < 100000000) (h2 : 0 ≤ writes) (h3 : writes < 100000000) (hn8 : 8 ≤ n) (hn : n ≤ 400) :
  Calls Tryz.prog 40 #[.pointer (some ⟨A, 0, none⟩)] w fun e w' => ∃ v, e = .returned v ∧ ErrAt w' v 0 ∧ ∃ bs', DiskAt w' A B n (.slice none 0 0) (calls + (n + 4)) (writes + (n + 1)) ∧ RowsAt w' B n bs' ∧ bs' = emptyB n ∧ Fr (fun b => b = A ∨ b = B) w w' := by
 go_enter Tryz.func40, Tryz.ntmps40
 go_wp2_with fail
 refine (sFormat_ok h hr h0 h1 h2 h3 hn8 hn).mono ?_
 rintro e w2 ⟨v, rfl, hv, hf⟩
 go_wp2
 go_ret
 exact ⟨_, rfl, hv, hf⟩

end Go.Proofs.YteebjgfalllbjaaGreatDoor
namespace Go.Proofs.YteebjgfalllbjaaGreatDoor
open Go.RowKit

structure FdS (w : World) (X1 X2 X3 X4 V J A B n : Nat) (tv fv : Value) (calls writes : Int) (bs : List Value) : Prop where
 x1 : w.heap[X1]? = some (.cells #[.pointer (some ⟨V, 0, none⟩)] 155 (0, 0))
 x2 : w.heap[X2]? = some (.cells #[.pointer (some ⟨J, 0, none⟩)] 87 (0, 0))
 x3 : w.heap[X3]? = some (.cells #[tv] 127 (0, 0))
 x4 : w.heap[X4]? = some (.cells #[fv] 162 (0, 0))
 s : RdS w J V A B n calls writes 0 bs
section
variable {w w' : World} {X1 X2 X3 X4 V J A B n : Nat} {tv fv : Value} {calls writes calls' : Int} {bs : List Value}
theorem FdS.c1 (h : FdS w X1 X2 X3 X4 V J A B n tv fv calls writes bs) : w.cell? ⟨X1, 0, none⟩ = some (.pointer (some ⟨V, 0, none⟩)) := (cell_of_row w X1 0 _ _ _ h.x1).trans rfl
theorem FdS.c2 (h : FdS w X1 X2 X3 X4 V J A B n tv fv calls writes bs) : w.cell? ⟨X2, 0, none⟩ = some (.pointer (some ⟨J, 0, none⟩)) := (cell_of_row w X2 0 _ _ _ h.x2).trans rfl
theorem FdS.fr {S : Nat → Prop} (h : FdS w X1 X2 X3 X4 V J A B n tv fv calls writes bs) (hf : Fr S w w') (h1 : ¬ S X1) (h2 : ¬ S X2) (h3 : ¬ S X3) (h4 : ¬ S X4) (hV : ¬ S V) (hB : ¬ S B) (hJ : ¬ S J) (hd : DiskAt w' A B n (.slice none 0 0) calls' writes) : FdS w' X1 X2 X3 X4 V J A B n tv fv calls' writes bs :=
 ⟨hf.keep h.x1 h1, hf.keep h.x2 h2, hf.keep h.x3 h3, hf.keep h.x4 h4, h.s.fr hf hV hB hJ hd⟩
theorem FdS.frz (h : FdS w X1 X2 X3 X4 V J A B n tv fv calls writes bs) (hf : Fr (fun _ => False) w w') : FdS w' X1 X2 X3 X4 V J A B n tv fv calls writes bs :=
 h.fr hf id id id id id id id (h.s.d.fr hf id)
theorem FdS.ne (h : FdS w X1 X2 X3 X4 V J A B n tv fv calls writes bs) : X1 ≠ A ∧ X2 ≠ A ∧ X3 ≠ A ∧ X4 ≠ A ∧ V ≠ A ∧ B ≠ A ∧ J ≠ A ∧ X1 ≠ J ∧ X2 ≠ J ∧ X3 ≠ J ∧ X4 ≠ J := by
 have hd := h.s.d
 have hj := h.s.j
 refine ⟨?_, ?_, ?_, ?_, h.s.v.ne hd, ?_, ?_, ?_, ?_, ?_, ?_⟩ <;> intro e
 ·rw [← e] at hd; have := hd.symm.trans h.x1; simp [dcells] at this
 ·rw [← e] at hd; have := hd.symm.trans h.x2; simp [dcells] at this
 ·rw [← e] at hd; have := hd.symm.trans h.x3; simp [dcells] at this
 ·rw [← e] at hd; have := hd.symm.trans h.x4; simp [dcells] at this
 ·rw [← e] at hd; have := hd.symm.trans h.s.r.1; simp [dcells] at this
 ·rw [← e] at hd; have := hd.symm.trans hj; simp [dcells] at this
 ·rw [← e] at hj; have := hj.symm.trans h.x1; simp at this
 ·rw [← e] at hj; have := hj.symm.trans h.x2; simp at this
 ·rw [← e] at hj; have := hj.symm.trans h.x3; simp at this
 ·rw [← e] at hj; have := hj.symm.trans h.x4; simp at this
end
set_option maxRecDepth 100000 in
set_option maxHeartbeats 4000000 in
theorem Find1_ok {recs : List (List Value)} {w : World} {X1 X2 X3 X4 V J A B n : Nat} {tv fv : Value} {calls writes : Int} {bs : List Value} (h : FdS w X1 X2 X3 X4 V J A B n tv fv calls writes bs) (h0 : 0 ≤ calls) (h1 : calls < 90000000) (hn8 : 8 ≤ n) (hn : n ≤ 400) (hbs : bs = layB n recs) (hrl : recs.length < n) (hrec : ∀ r ∈ recs, RecOk r)
  (RP : Nat → World → Prop) (SR : Nat → Prop) (hR : ∀ w', Fr (fun b => b = A) w w' → RP 0 w') (hP : ∀ i W W', RP i W → Fr (fun b => b = A ∨ b = J) W W' → RP i W') (hSR : ¬ SR A ∧ ¬ SR J ∧ ¬ SR V ∧ ¬ SR B ∧ ¬ SR X2 ∧ ¬ SR X3 ∧ ¬ SR X4)
  (hH : ∀ i r W, recs[i]? = some r → RP i W → W.heap[X3]? = some (.cells #[tv] 127 (0, 0)) → W.heap[X4]? = some (.cells #[fv] 162 (0, 0)) → Calls Tryz.prog 115 #[.agg r.toArray, .pointer (some ⟨X3, 0, none⟩), .pointer (some ⟨X4, 0, none⟩)] W fun e w' => e = .returned (.bool true) ∧ RP (i + 1) w' ∧ Fr SR W w') :
  Calls Tryz.prog 111 #[.pointer (some ⟨X1, 0, none⟩), .pointer (some ⟨X2, 0, none⟩), .pointer (some ⟨X3, 0, none⟩), .pointer (some ⟨X4, 0, none⟩)] w fun e w' => e = .returned .nilIface ∧ ∃ calls', calls ≤ calls' ∧ calls' ≤ calls + 1 + n ∧ RdS w' J V A B n calls' writes recs.length (layB n recs) ∧ RP recs.length w' ∧ Fr (fun b => b = A ∨ b = J ∨ SR b) w w' := by
 obtain ⟨n1, n2, n3, n4, nV, nB, nJ, m1, m2, m3, m4⟩ := h.ne
 obtain ⟨bq, hbq⟩ : ∃ bq, bq = false := ⟨_, rfl⟩
 have hq : ∀ w, (binOp .neq 130 (.agg ((bs.drop (0 * 128)).take 128).toArray) (.agg (headB n).toArray)).run Tryz.prog w = .ok (.bool bq) w := by
  intro w; rw [hbq, Nat.zero_mul, List.drop_zero, hbs, layB_head]; exact neq_head n w
 go_enter Tryz.func111, Tryz.ntmps111
 go_wp2_with fail
 have hlift : Tryz.prog.follows .mixedOrders = true := by kernel_rfl
 obtain ⟨W, HW⟩ : ∃ W, Hid (W = w.drew) := ⟨_, rfl⟩
 have hfW : Fr (fun _ => False) w W := by rw [HW.out]; exact (Fr.refl _ _).drew
 have hhW := h.frz hfW
 have hFW : Fr (fun b => b = A) w W := hfW.mono (fun _ _ h => h.elim)
 let S : World → Prop := fun w' => w'.cell? ⟨X1, 0, none⟩ = some (.pointer (some ⟨V, 0, none⟩))
 have hS : S W := hhW.c1
 refine wp_region_held (S := S) hlift ?_
 change wpAnyH _ _ _ _ S _ _ _ (World.drew _)
 rw [← HW.out]
 clear HW
 refine tkY (S := S) (i := 0) (oi := ⟨some 5, .load 155 (.tmp 0), _, _, _, none⟩) (v := .pointer (some ⟨V, 0, none⟩)) rfl (Or.inl ⟨rfl, fun w' hs => exec_load 155 (.tmp 0) rfl ⟨X1, 0, none⟩ rfl (run_loadAt_one hs Tryz.underlying155 rfl)⟩) hS ?_
 simp only [Act.put, lsE, lsZ, lsS]
 refine tkY (S := S) (i := 2) (oi := ⟨some 7, .load 155 (.tmp 0), _, _, _, none⟩) (v := .pointer (some ⟨V, 0, none⟩)) rfl (Or.inl ⟨rfl, fun w' hs => exec_load 155 (.tmp 0) rfl ⟨X1, 0, none⟩ rfl (run_loadAt_one hs Tryz.underlying155 rfl)⟩) hS ?_
 simp only [Act.put, lsE, lsZ, lsS]
 refine wpAnyH_all (rs := [1]) (by kernel_rfl) (by simp) ?_
 intro i1 hi1
 obtain rfl : i1 = 1 := by simpa using hi1
 refine wpOp_call (o := ⟨some 6, .call { callee := .value (.func 112), args := #[.tmp 5, .const (.int .i64 0)], argTypes := _ }, _, _, _, none⟩) (f := 112) (args := #[.pointer (some ⟨V, 0, none⟩), .int .i64 0]) rfl rfl (by kernel_rfl) ?_
 refine (Load_ok hhW.s.v hhW.s.d hhW.s.r h0 (by omega) 0 (by omega)).mono ?_
 rintro e w2 ⟨rfl, hd2, hf2⟩
 have hh2 : FdS w2 X1 X2 X3 X4 V J A B n tv fv (calls + 1) writes bs := hhW.fr hf2 n1 n2 n3 n4 nV nB nJ hd2
 have hF2 : Fr (fun b => b = A) w w2 := hFW.trans hf2 (fun _ _ h => h)
 refine ⟨_, rfl, hh2.c1, ?_⟩
 simp only [Act.put, lsE, lsZ, lsS]
 refine wpAnyH_all (rs := [3]) (by kernel_rfl) (by simp) ?_
 intro i3 hi3
 obtain rfl : i3 = 3 := by simpa using hi3
 refine wpOp_call (o := ⟨some 8, .call { callee := .value (.func 110), args := #[.tmp 7], argTypes := _ }, _, _, _, none⟩) (f := 110) (args := #[.pointer (some ⟨V, 0, none⟩)]) rfl rfl (by kernel_rfl) ?_
 refine (vBlocks_ok hh2.s.v).mono ?_
 rintro e w' ⟨rfl, rfl⟩
 refine ⟨_, rfl, hh2.c1, ?_⟩
 simp only [Act.put, lsE, lsZ, lsS]
 refine wpAnyH_all (rs := [4]) (by kernel_rfl) (by simp) ?_
 intro i4 hi4
 obtain rfl : i4 = 4 := by simpa using hi4
 refine wpOp_call (o := ⟨some 9, .call { callee := .value (.func 113), args := #[.tmp 8], argTypes := _ }, _, _, _, none⟩) (f := 113) (args := #[.int .i64 n]) rfl rfl (by kernel_rfl) ?_
 refine (Head_ok _ n hn).mono ?_
 rintro e w3 ⟨rfl, hf3⟩
 have hh3 := hh2.frz hf3
 have hF3 : Fr (fun b => b = A) w w3 := hF2.trans hf3 (fun _ _ h => h.elim)
 have hS3 : S w3 := hh3.c1
 refine ⟨_, rfl, hh3.c1, ?_⟩
 simp only [Act.put, lsE, lsZ, lsS]
 refine tkY (S := S) (i := 5) (oi := ⟨some 10, .binOp .neq 130 (.tmp 6) (.tmp 9) 130, _, _, _, none⟩) (v := .bool bq) rfl (Or.inl ⟨rfl, fun w' _ => exec_neq_block rfl rfl rfl (hq w')⟩) hS3 ?_
 simp only [Act.put, lsE, lsZ, lsS]
 refine wpAnyH_done (by kernel_rfl) ?_ _
 clear hS hS3
 subst hbq
 have c2 := hh3.c2
 have HR3 : RP 0 w3 := hR w3 hF3
 have hSR' := hSR
 obtain ⟨q1, q2, q3, q4, q5, q6, q7⟩ := hSR
 subst hbs
 have HJ := jread_ok (t1 := X3) (t2 := X4) RP SR hh3.s (by omega) (by omega) hn8 hn hrl hrec HR3 hP ⟨q1, q2, q3, q4⟩ (fun i r W hr hRP hf => hH i r W hr hRP (hf.keep hh3.x3 (by rintro (e | e | e); exact n3 e; exact m3 e; exact q6 e)) (hf.keep hh3.x4 (by rintro (e | e | e); exact n4 e; exact m4 e; exact q7 e)))
 go_wp2_with fail
 refine HJ.mono ?_
 rintro e w4 ⟨rfl, cl, g1, g2, g3, g4, g5⟩
 have hF4 : Fr (fun b => b = A ∨ b = J ∨ SR b) w w4 := (hF3.mono (fun _ _ h => .inl h)).trans g5 (fun _ _ h => h)
 go_wp2
 go_ret
 exact ⟨rfl, cl, by omega, by omega, g3, g4, hF4⟩
end Go.Proofs.YteebjgfalllbjaaGreatDoor
