import Derived.Test.YteebjgfalllbjaaGreatDoorCHeadSecureTry
import Derived.WalkSpells
namespace Go.Proofs.YteebjgfalllbjaaGreatDoor
open Go.RowKit

def emptyB (n : Nat) : List Value := headB n ++ List.replicate ((n - 1) * 128) (.int .u8 0)
theorem lain_nil (b : List Value) : lain b [] = b := rfl
theorem lain_one (b : List Value) (p : Nat × List Value) : lain b [p] = splice b (p.1 * 128) p.2 := rfl
theorem lain_app (b : List Value) (x y : List (Nat × List Value)) : lain b (x ++ y) = lain (lain b x) y := by unfold lain; rw [List.foldl_append]
theorem splice_at (a c d : List Value) (o : Nat) (ha : a.length = o) : splice (a ++ d) o c = a ++ (c ++ d.drop c.length) := by
 unfold splice
 rw [List.take_left' ha, List.drop_append, ha, List.drop_of_length_le (by omega), List.nil_append, Nat.add_sub_cancel_left]
theorem wiped (b : List Value) (m : Nat) : lain (lain b [(0, zB)]) (wipes m) = List.replicate ((m + 1) * 128) (.int .u8 0) ++ b.drop ((m + 1) * 128) := by
 induction m with
 | zero =>
  have e : wipes 0 = [] := rfl
  have h0 := splice_at [] zB b 0 rfl
  rw [List.nil_append, List.nil_append, zB_len] at h0
  rw [e, lain_one]
  simp only []
  rw [lain_nil, Nat.zero_mul, h0, Nat.zero_add, Nat.one_mul, zB]
 | succ m ih =>
  have hl : (List.replicate ((m + 1) * 128) (Value.int .u8 0)).length = (m + 1) * 128 := List.length_replicate
  have hs := splice_at (List.replicate ((m + 1) * 128) (Value.int .u8 0)) zB (b.drop ((m + 1) * 128)) ((m + 1) * 128) hl
  rw [wipes_succ, lain_app, ih, lain_one]
  simp only []
  rw [hs, zB_len, List.drop_drop]
  have e2 : (m + 1) * 128 + 128 = (m + 1 + 1) * 128 := (Nat.succ_mul (m + 1) 128).symm
  rw [e2, ← List.append_assoc]
  congr 1
  unfold zB
  rw [List.replicate_append_replicate, e2]
theorem laid_empty (b : List Value) (m n : Nat) (hm : m + 1 = n) (h : b.length = n * 128) : lain (lain (lain b [(0, zB)]) (wipes m)) [(0, headB n)] = emptyB n := by
 subst hm
 rw [wiped, List.drop_of_length_le (Nat.le_of_eq h), List.append_nil, lain_one]
 simp only []
 have h0 := splice_at [] (headB (m + 1)) (List.replicate ((m + 1) * 128) (Value.int .u8 0)) 0 rfl
 rw [List.nil_append, List.nil_append, headB_len] at h0
 rw [Nat.zero_mul, h0, List.drop_replicate, Nat.succ_mul m 128, Nat.add_sub_cancel]
 rfl
structure Held (w : World) (X V A B n : Nat) (cache : Value) (calls writes : Int) (bs : List Value) : Prop where
 x : w.heap[X]? = some (.cells #[.pointer (some ⟨V, 0, none⟩)] 155 (0, 0))
 v : VolAt w V A n
 d : DiskAt w A B n cache calls writes
 r : RowsAt w B n bs
theorem Held.cx {w : World} {X V A B n : Nat} {cache : Value} {calls writes : Int} {bs : List Value} (h : Held w X V A B n cache calls writes bs) : w.cell? ⟨X, 0, none⟩ = some (.pointer (some ⟨V, 0, none⟩)) := by rw [cell_of_row w X 0 _ _ _ h.x]; rfl
theorem Held.ne {w : World} {X V A B n : Nat} {cache : Value} {calls writes : Int} {bs : List Value} (h : Held w X V A B n cache calls writes bs) : X ≠ A ∧ X ≠ B ∧ V ≠ A ∧ V ≠ B ∧ A ≠ B := by
 refine ⟨?_, ?_, ?_, ?_, ?_⟩ <;> intro e <;> subst e
 ·have := h.x.symm.trans h.d; simp at this
 ·have := h.x.symm.trans h.r.1; simp at this
 ·have := h.v.symm.trans h.d; simp at this
 ·have := h.v.symm.trans h.r.1; simp at this
 ·have := h.d.symm.trans h.r.1; simp at this

set_option maxRecDepth 100000 in
set_option maxHeartbeats 2000000 in
theorem Lay1_ok {w : World} {X V A B n : Nat} {calls writes : Int} {bs : List Value} (h : Held w X V A B n (.slice none 0 0) calls writes bs) (h0 : 0 ≤ calls) (h1 : calls < 100000000) (h2 : 0 ≤ writes) (h3 : writes < 100000000) (hn8 : 8 ≤ n) (hn : n ≤ 400) :
  Calls Tryz.prog 136 #[.pointer (some ⟨X, 0, none⟩)] w fun e w' => e = .returned .nilIface ∧ ∃ bs', Held w' X V A B n (.slice none 0 0) (calls + (n + 4)) (writes + (n + 1)) bs' ∧ bs' = emptyB n ∧ Fr (fun b => b = A ∨ b = B) w w' := by
 obtain ⟨nXA, nXB, nVA, nVB, nAB⟩ := h.ne
 have hXl := lt_of_heap h.x
 have hVl := lt_of_heap h.v
 have hAl := lt_of_heap h.d
 have hBl := lt_of_heap h.r.1
 have cx := h.cx
 -- how the rest stands behind a piece of work on the disk
 have next : ∀ {w1 w2 : World} {c1 c2 : Value} {x1 y1 x2 y2 : Int} {b1 b2 : List Value} {S : Nat → Prop}, Held w1 X V A B n c1 x1 y1 b1 → Fr S w1 w2 → (∀ b, b < w.heap.size → S b → b = A ∨ b = B) → DiskAt w2 A B n c2 x2 y2 → RowsAt w2 B n b2 → Held w2 X V A B n c2 x2 y2 b2 := by
  intro w1 w2 c1 c2 x1 y1 x2 y2 b1 b2 S hh hf hs hd hr
  exact ⟨hf.keep hh.x (fun e => by rcases hs X hXl e with e | e; exact nXA e; exact nXB e), hf.keep hh.v (fun e => by rcases hs V hVl e with e | e; exact nVA e; exact nVB e), hd, hr⟩
 go_enter Tryz.func136, Tryz.ntmps136
 go_wp2_with (first | (refine wpList_buildOf 130 #[] (v := .agg zB.toArray) (w' := w) rfl rfl #[] ?_ ?_ ?_; rfl; exact build_zB w))
 try go_simp
 refine (Store_ok h.v h.d h0 (by omega) h2 (by omega) (base := w.heap.size) (k := 0) (xs := []) (World.ownsRow_nil _ _ _ _) (by decide) (Nat.le_refl _) 0 (by omega) zB zB_len zB_one).mono ?_
 rintro e w1 ⟨rfl, cache1, hd1, ho1, hf1⟩
 have hr1 : RowsAt w1 B n bs := ⟨hf1.keep h.r.1 (by rintro (e | e); exact nAB e.symm; simp [Value.ownBlock] at e), h.r.2⟩
 have hh1 : Held w1 X V A B n cache1 (calls + 1) (writes + 1) bs := next h hf1 (by rintro b _ (e | e); exact .inl e; simp [Value.ownBlock] at e) hd1 hr1
 have hF1 : Fr (fun b => b = A ∨ b = B) w w1 := hf1.mono (by rintro b _ (e | e); exact .inl e; simp [Value.ownBlock] at e)
 have cx1 := hh1.cx
 clear cx
 go_wp2_with fail
 refine (Secure_ok hh1.v hh1.d hh1.r (by omega) (by omega) (k := 1) (ents := [(0, zB)]) (base := w.heap.size) ho1 (by decide) (by decide) (by simp [zB_len]) (by simpa using zB_one) (by simp; omega)).mono ?_
 rintro e w2 ⟨rfl, hd2, hr2, hf2⟩
 have hh2 : Held w2 X V A B n (.slice none 0 0) (calls + 1 + 1) (writes + 1) _ := next hh1 hf2 (fun _ _ h => h) hd2 hr2
 have hF2 : Fr (fun b => b = A ∨ b = B) w w2 := hF1.trans hf2 (fun _ _ h => h)
 have HI : Hid (∃ cache, Held w2 X V A B n cache (calls + 2 + (0 : Nat)) (writes + 1 + (0 : Nat)) (lain bs [(0, zB)]) ∧ w2.ownsRow w.heap.size 101 129 cache 0 (flat (wipes 0)) ∧ Fr (fun b => b = A ∨ b = B) w w2) :=
  ⟨_, (by
   have e : calls + 1 + 1 = calls + 2 + ((0 : Nat) : Int) := by omega
   have e2 : writes + 1 = writes + 1 + ((0 : Nat) : Int) := by omega
   rw [← e, ← e2]; exact hh2), World.ownsRow_nil _ _ _ _, hF2⟩
 clear hh1 hf1 hd1 hr1 ho1 hF1 cx1 hd2 hr2 hf2 hh2 hF2
 go_wp2
 go_loopw [2] (fun c wr => ∃ m : Nat, m + 1 ≤ n ∧ c = .int .i64 (m + 1 : Nat) ∧ Hid (∃ cache, Held wr X V A B n cache (calls + 2 + m) (writes + 1 + m) (lain bs [(0, zB)]) ∧ wr.ownsRow w.heap.size 101 129 cache m (flat (wipes m)) ∧ Fr (fun b => b = A ∨ b = B) w wr)) (fun c _ => n - (intOf c).toNat)
 case atStart => exact ⟨0, by omega, rfl, HI⟩
 case round =>
  obtain ⟨m, hm, rfl, HR⟩ := hrel
  obtain ⟨cache, hh, hown, hF⟩ := HR.out
  have cx := hh.cx
  have hcb : ∀ b, cache.ownBlock = some b → w.heap.size ≤ b := fun b hb => (hown.lt b hb).1
  by_cases hlt : m + 1 < n
  ·have hlt' : (m : Int) + 1 < n := by omega
   go_wp2_with fail
   refine (vBlocks_ok hh.v).mono ?_
   rintro e w' ⟨rfl, rfl⟩
   go_wp2_with fail
   refine (Store_ok hh.v hh.d (by omega) (by omega) (by omega) (by omega) hown (by omega) hF.size (m + 1) hlt zB zB_len zB_one).mono ?_
   rintro e w3 ⟨rfl, cache3, hd3, ho3, hf3⟩
   have hr3 : RowsAt w3 B n (lain bs [(0, zB)]) := ⟨hf3.keep hh.r.1 (by rintro (e | e); exact nAB e.symm; have := hcb _ e; omega), hh.r.2⟩
   have hS3 : ∀ b, b < w.heap.size → (b = A ∨ cache.ownBlock = some b) → b = A ∨ b = B := by rintro b hb (e | e); exact .inl e; have := hcb _ e; omega
   have HN : Hid (∃ cache, Held w3 X V A B n cache (calls + 2 + (m + 1 : Nat)) (writes + 1 + (m + 1 : Nat)) (lain bs [(0, zB)]) ∧ w3.ownsRow w.heap.size 101 129 cache (m + 1) (flat (wipes (m + 1))) ∧ Fr (fun b => b = A ∨ b = B) w w3) := by
    refine ⟨cache3, ?_, ?_, hF.trans hf3 hS3⟩
    ·have e1 : calls + 2 + ((m + 1 : Nat) : Int) = calls + 2 + m + 1 := by omega
     have e2 : writes + 1 + ((m + 1 : Nat) : Int) = writes + 1 + m + 1 := by omega
     rw [e1, e2]; exact next hh hf3 hS3 hd3 hr3
    ·rw [wipes_succ, flat_append, flat_one]; exact ho3
   clear HR hd3 ho3 hf3 hr3 hS3 hown hF hh cx hcb
   go_wp2
   go_roundw
   case rel => exact ⟨m + 1, by omega, by go_num, HN⟩
   case measure => simp [intOf]; omega
  ·have hmn : m + 1 = n := by omega
   have hlt' : ¬ ((m : Int) + 1 < n) := by omega
   have hm0 : 0 < m := by omega
   go_wp2_with fail
   refine (vBlocks_ok hh.v).mono ?_
   rintro e w' ⟨rfl, rfl⟩
   go_wp2_with fail
   refine (Secure_ok hh.v hh.d hh.r (by omega) (by omega) (k := m) (ents := wipes m) (base := w.heap.size) hown (by omega) hm0 (fun p hp => by rw [(mem_wipes hp).2.2]; exact zB_len) (fun p hp => by rw [(mem_wipes hp).2.2]; exact zB_one) (fun p hp => by have := mem_wipes hp; omega)).mono ?_
   rintro e w4 ⟨rfl, hd4, hr4, hf4⟩
   have hh4 := next hh hf4 (fun _ _ h => h) hd4 hr4
   have hF4 : Fr (fun b => b = A ∨ b = B) w w4 := hF.trans hf4 (fun _ _ h => h)
   clear HR hd4 hr4 hf4 hh hF hown cx hcb
   go_wp2_with fail
   try go_simp
   have hlift : Tryz.prog.follows .mixedOrders = true := by kernel_rfl
   obtain ⟨W, HW⟩ : ∃ W, Hid (W = w4.drew) := ⟨_, rfl⟩
   have hhW : Held W X V A B n (.slice none 0 0) (calls + 2 + m + 1) (writes + 1 + m) (lain (lain bs [(0, zB)]) (wipes m)) := by rw [HW.out]; exact ⟨hh4.x, hh4.v, hh4.d, hh4.r⟩
   have hFW : Fr (fun b => b = A ∨ b = B) w W := by rw [HW.out]; exact hF4.drew
   clear hh4 hF4
   let S : World → Prop := fun w' => w'.cell? ⟨X, 0, none⟩ = some (.pointer (some ⟨V, 0, none⟩))
   have hS : S W := hhW.cx
   refine wp_region_held (S := S) hlift ?_
   change wpAnyH _ _ _ _ S _ _ _ (World.drew _)
   rw [← HW.out]
   refine tkY (S := S) (i := 0) (oi := ⟨some 20, .load 155 (.tmp 0), _, _, _, none⟩) (v := .pointer (some ⟨V, 0, none⟩)) rfl (Or.inl ⟨rfl, fun w' hs => exec_load 155 (.tmp 0) rfl ⟨X, 0, none⟩ rfl (run_loadAt_one hs Tryz.underlying155 rfl)⟩) hS ?_
   simp only [Act.put, lsE, lsZ, lsS]
   refine tkY (S := S) (i := 1) (oi := ⟨some 21, .load 155 (.tmp 0), _, _, _, none⟩) (v := .pointer (some ⟨V, 0, none⟩)) rfl (Or.inl ⟨rfl, fun w' hs => exec_load 155 (.tmp 0) rfl ⟨X, 0, none⟩ rfl (run_loadAt_one hs Tryz.underlying155 rfl)⟩) hS ?_
   simp only [Act.put, lsE, lsZ, lsS]
   refine wpAnyH_all (rs := [2]) (by kernel_rfl) (by simp) ?_
   intro i2 hi2
   obtain rfl : i2 = 2 := by simpa using hi2
   refine wpOp_call (o := ⟨some 22, .call { callee := .value (.func 110), args := #[.tmp 21], argTypes := _ }, _, _, _, none⟩) (f := 110) (args := #[.pointer (some ⟨V, 0, none⟩)]) rfl rfl (by kernel_rfl) ?_
   refine (vBlocks_ok hhW.v).mono ?_
   rintro e w' ⟨rfl, rfl⟩
   refine ⟨_, rfl, hS, ?_⟩
   simp only [Act.put, lsE, lsZ, lsS]
   refine wpAnyH_all (rs := [3]) (by kernel_rfl) (by simp) ?_
   intro i3 hi3
   obtain rfl : i3 = 3 := by simpa using hi3
   refine wpOp_call (o := ⟨some 23, .call { callee := .value (.func 113), args := #[.tmp 22], argTypes := _ }, _, _, _, none⟩) (f := 113) (args := #[.int .i64 n]) rfl rfl (by kernel_rfl) ?_
   refine (Head_ok _ n hn).mono ?_
   rintro e w5 ⟨rfl, hf5⟩
   have hh5 : Held w5 X V A B n (.slice none 0 0) (calls + 2 + m + 1) (writes + 1 + m) (lain (lain bs [(0, zB)]) (wipes m)) := next hhW hf5 (fun _ _ h => h.elim) (hhW.d.fr hf5 id) ⟨hf5.keep hhW.r.1 id, hhW.r.2⟩
   have hF5 : Fr (fun b => b = A ∨ b = B) w w5 := hFW.trans hf5 (fun _ _ h => h.elim)
   refine ⟨_, rfl, hh5.cx, ?_⟩
   simp only [Act.put, lsE, lsZ, lsS]
   refine wpAnyH_all (rs := [4]) (by kernel_rfl) (by simp) ?_
   intro i4 hi4
   obtain rfl : i4 = 4 := by simpa using hi4
   refine wpOp_call (o := ⟨some 24, .call { callee := .value (.func 94), args := #[.tmp 20, .const (.int .i64 0), .tmp 23], argTypes := _ }, _, _, _, none⟩) (f := 94) (args := #[.pointer (some ⟨V, 0, none⟩), .int .i64 0, .agg (headB n).toArray]) rfl rfl (by kernel_rfl) ?_
   refine (Store_ok hh5.v hh5.d (by omega) (by omega) (by omega) (by omega) (base := w.heap.size) (k := 0) (xs := []) (World.ownsRow_nil _ _ _ _) (by decide) hF5.size 0 (by omega) (headB n) (headB_len n) (headB_one n)).mono ?_
   rintro e w6 ⟨rfl, cache6, hd6, ho6, hf6⟩
   have hS6 : ∀ b, b < w.heap.size → (b = A ∨ (Value.slice none 0 0).ownBlock = some b) → b = A ∨ b = B := by rintro b _ (e | e); exact .inl e; simp [Value.ownBlock] at e
   have hr6 : RowsAt w6 B n (lain (lain bs [(0, zB)]) (wipes m)) := ⟨hf6.keep hh5.r.1 (by rintro (e | e); exact nAB e.symm; simp [Value.ownBlock] at e), hh5.r.2⟩
   have hh6 := next hh5 hf6 hS6 hd6 hr6
   have hF6 : Fr (fun b => b = A ∨ b = B) w w6 := hF5.trans hf6 hS6
   refine ⟨_, rfl, hh6.cx, ?_⟩
   simp only [Act.put, lsE, lsZ, lsS]
   refine wpAnyH_done (by kernel_rfl) ?_ _
   have ho6' : w6.ownsRow w.heap.size 101 129 cache6 1 (flat [(0, headB n)]) := by rw [flat_one]; simpa using ho6
   have cx6 := hh6.cx
   clear hS hhW hh5 hF5 hFW hf5 hf6 hS6 hd6 hr6
   go_wp2_with fail
   refine (Secure_ok hh6.v hh6.d hh6.r (by omega) (by omega) (k := 1) (ents := [(0, headB n)]) (base := w.heap.size) ho6' (by decide) (by decide) (by simp [headB_len]) (by simpa using headB_one n) (by simp; omega)).mono ?_
   rintro e w7 ⟨rfl, hd7, hr7, hf7⟩
   have hh7 := next hh6 hf7 (fun _ _ h => h) hd7 hr7
   have hF7 : Fr (fun b => b = A ∨ b = B) w w7 := hF6.trans hf7 (fun _ _ h => h)
   clear cx6 hh6 hF6 ho6 hd7 hr7 hf7
   go_wp2
   go_ret
   refine ⟨rfl, lain (lain (lain bs [(0, zB)]) (wipes m)) [(0, headB n)], ?_, ?_, hF7⟩
   ·have e1 : calls + ((n : Int) + 4) = calls + 2 + m + 1 + 1 + 1 := by omega
    have e2 : writes + ((n : Int) + 1) = writes + 1 + m + 1 := by omega
    rw [e1, e2]; exact hh7
   ·exact laid_empty bs m n hmn h.r.2.1
end Go.Proofs.YteebjgfalllbjaaGreatDoor
namespace Go.Proofs.YteebjgfalllbjaaGreatDoor
open Go.RowKit

theorem equal_self (d : Nat) (xs : Array Value) (w : World) (hi : ∀ i, i < 128 → ∃ z : Int, xs[i]? = some (.int .u8 z)) :
  (Op.equalIn (d + 2) 130 (.agg xs) (.agg xs)).run Tryz.prog w = .ok true w := by
 have hsz : (sizeOf 5).run Tryz.prog w = .ok 1 w := by kernel_rfl
 unfold Op.equalIn
 simp only [Sem.run_bind, run_underlying Tryz.underlying130, Result.andThen_ok, hsz, Std.Legacy.Range.forIn_eq_forIn_range', Std.Legacy.Range.size, Nat.sub_zero, Nat.add_sub_cancel, Nat.div_one]
 have hsub : ∀ i ∈ List.range' 0 128, i < 128 := by intro i h; simp at h; omega
 generalize List.range' 0 128 = l at hsub
 induction l with
 | nil => simp
 | cons i l ih =>
  obtain ⟨z, hz⟩ := hi i (hsub i (by simp))
  have hp : (part 5 xs (i * 1)).run Tryz.prog w = .ok (.int .u8 z) w := by
   have ha : (isAgg 5).run Tryz.prog w = .ok false w := by kernel_rfl
   simp [part, Sem.run_bind, ha, hz]
  simp only [List.forIn_cons, Sem.run_bind, hp, Result.andThen_ok, run_equalIn_int w d 5 .u8 .u8 z z Tryz.underlying5, beq_self_eq_true, Bool.not_true, Bool.false_eq_true, if_false, Sem.run_pure]
  exact ih (fun j hj => hsub j (by simp [hj]))

theorem headB_ints (n : Nat) : ∀ i, i < 128 → ∃ z : Int, (headB n).toArray[i]? = some (.int .u8 z) := by
 intro i hi
 have hl := headB_len n
 have hm : ∀ v ∈ headB n, ∃ z : Int, v = .int .u8 z := by
  intro v hv
  simp only [headB, markB, List.mem_append, List.mem_cons, List.not_mem_nil, or_false, List.mem_map, List.mem_replicate] at hv
  rcases hv with (rfl | rfl | rfl) | ⟨_, _, rfl⟩ | ⟨_, rfl⟩ <;> exact ⟨_, rfl⟩
 have hlt : i < (headB n).length := by omega
 obtain ⟨z, hz⟩ := hm _ (List.getElem_mem hlt)
 exact ⟨z, by simp [List.getElem?_eq_getElem hlt, hz]⟩
theorem neq_head (n : Nat) (w : World) : (binOp .neq 130 (.agg (headB n).toArray) (.agg (headB n).toArray)).run Tryz.prog w = .ok (.bool false) w := by
 rw [run_neq_struct]
 have := equal_self 9998 (headB n).toArray w (headB_ints n)
 rw [this]; rfl
section
variable {P : Program} {ρ : Operand → Value} {o : Oper} {w w' : World} {v : Value}
theorem exec_neq_block {x y : Operand} {xs ys : Array Value} (ho : o.op = .binOp .neq 130 x y 130) (hx : ρ x = .agg xs) (hy : ρ y = .agg ys) {b : Bool} (hr : (binOp .neq 130 (.agg xs) (.agg ys)).run Tryz.prog w = .ok (.bool b) w) : (execOp ρ o).run Tryz.prog w = .ok (.value (.bool b)) w := by
 have hg := run_eqGuard_agg (P := Tryz.prog) w .neq 130 x y xs ys (by kernel_rfl)
 simp only [execOp, ho, hx, hy, Sem.run_bind, hg, hr, Result.andThen_ok, Sem.run_pure]
end
end Go.Proofs.YteebjgfalllbjaaGreatDoor
namespace Go.Proofs.YteebjgfalllbjaaGreatDoor
open Go.RowKit

theorem index_blk (g i : Nat) (h : i < 128) (w : World) : (Instr.indexAt 130 (.pointer (some ⟨g, 0, none⟩)) (.int .i64 i)).run Tryz.prog w = .ok (.pointer (some ⟨g, i, none⟩)) w := by
 have h' : (i : Int) < 128 := by omega
 go_simp
def wholeK (b : Nat → Nat) : Bool := decide ((∀ i : Fin 4, b i = b 0) ∧ (b 0 = 2 ∨ b 0 = 3))
set_option maxRecDepth 100000 in
set_option maxHeartbeats 1000000 in
theorem rcWhole_ok (w : World) (cs : List Value) (b : Nat → Nat) (hb : ∀ i, i < 4 → cs[i * 32]? = some (.int .u8 (b i))) :
  Calls Tryz.prog 153 #[.agg cs.toArray] w fun e w' => e = .returned (.bool (wholeK b)) ∧ Fr (fun _ => False) w w' := by
 obtain ⟨W, HW⟩ : ∃ W, Hid (W = w.alloc (.cells cs.toArray 130)) := ⟨_, rfl⟩
 have hrow : W.heap[w.heap.size]? = some (.cells cs.toArray 130 (0, 0)) := by rw [HW.out]; exact heap_alloc_at _ _
 have HF : Hid (Fr (fun _ => False) w W) := by rw [HW.out]; exact (Fr.refl _ _).alloc _
 go_enter Tryz.func153, Tryz.ntmps153
 have cz : W.cell? ⟨w.heap.size, 0, none⟩ = some (.int .u8 (b 0)) := (cell_of_row W w.heap.size 0 _ _ _ hrow).trans (by simpa using hb 0 (by omega))
 have hx0 := index_blk w.heap.size 0 (by omega) W
 rw [HW.out] at cz hx0
 go_wp2
 rw [← HW.out]
 rw [← HW.out] at cz
 clear HW hx0
 go_loopw [7] (fun c wr => ∃ i : Nat, i ≤ 4 ∧ c = .int .i64 i ∧ (∀ j, j < i → b j = b 0) ∧ wr = W) (fun c _ => 4 - (intOf c).toNat)
 case atStart => exact ⟨0, by omega, rfl, by omega, rfl⟩
 case round =>
  obtain ⟨i, hi, rfl, HA, rfl⟩ := hrel
  by_cases hlt : i < 4
  ·have hlt' : (i : Int) < 4 := by omega
   have c0 : wr.cell? ⟨w.heap.size, i * 32, none⟩ = some (.int .u8 (b i)) := (cell_of_row wr w.heap.size (i * 32) _ _ _ hrow).trans (by simpa using hb i hlt)
   have hx : (Instr.indexAt 130 (.pointer (some ⟨w.heap.size, 0, none⟩)) (.int .i64 (i * 32))).run Tryz.prog wr = .ok (.pointer (some ⟨w.heap.size, i * 32, none⟩)) wr := by
    have := index_blk w.heap.size (i * 32) (by omega) wr
    push_cast at this
    exact this
   by_cases h2 : b i = b 0
   ·rw [h2] at c0
    go_wp2
    go_roundw
    case rel =>
     refine ⟨i + 1, by omega, by go_num, ?_⟩
     first | refine ⟨?_, trivial⟩ | refine ⟨?_, rfl⟩
     intro j hj
     rcases Nat.lt_succ_iff_lt_or_eq.1 hj with h | rfl
     ·exact HA j h
     ·exact h2
    case measure => simp [intOf]; omega
   ·have h2' : ¬ (b i : Int) = b 0 := by omega
    have hw : wholeK b = false := decide_eq_false (fun h => h2 (h.1 ⟨i, hlt⟩))
    go_wp2
    go_ret
    exact ⟨by rw [hw]; rfl, HF.out⟩
  ·obtain rfl : i = 4 := by omega
   have hall : ∀ i : Fin 4, b i = b 0 := fun j => HA j j.isLt
   by_cases e2 : b 0 = 2
   ·have hw : wholeK b = true := decide_eq_true ⟨hall, .inl e2⟩
    rw [e2] at cz
    simp only [e2]
    go_wp2
    go_ret
    exact ⟨by rw [hw]; rfl, HF.out⟩
   ·by_cases e3 : b 0 = 3
    ·have hw : wholeK b = true := decide_eq_true ⟨hall, .inr e3⟩
     simp only [e3]
     go_wp2
     go_ret
     exact ⟨by rw [hw]; rfl, HF.out⟩
    ·have hw : wholeK b = false := decide_eq_false (fun h => by rcases h.2 with h | h; exact e2 h; exact e3 h)
     have e2' : ¬ (b 0 : Int) = 2 := by omega
     have e3' : ¬ (b 0 : Int) = 3 := by omega
     have f2 : ((b 0 : Int) == 2) = false := by simpa using e2'
     have f3 : ((b 0 : Int) == 3) = false := by simpa using e3'
     go_wp2
     go_ret
     exact ⟨by rw [hw]; simp, HF.out⟩
end Go.Proofs.YteebjgfalllbjaaGreatDoor
