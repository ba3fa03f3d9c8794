import Derived.Test.YteebjgfalllbjaaGreatDoorCVnVoVp
import Derived.Test.YteebjgfalllbjaaGreatDoorCLayEqWh
import Derived.Test.YteebjgfalllbjaaGreatDoorCFlushWVolStore
namespace Go.Proofs.YteebjgfalllbjaaGreatDoor
open Go.RowKit
theorem load6m {w : World} {g o : Nat} {s : ST} (h : w.rangeAt g o s.cs) : (Instr.loadAt 138 (.pointer (some ⟨g, o, none⟩))).run Tryz.prog w = .ok (.agg s.cs.toArray) w :=
 run_loadAt_mid w g o 138 s.cs _ h Tryz.underlying138 rfl stand_size
theorem exec_alloc_stand (ρ : Operand → Value) (o : Oper) (ho : o.op = .alloc 138) (w : World) : (execOp ρ o).run Tryz.prog w = .ok (.value (.pointer (some ⟨w.heap.size, 0, none⟩))) (w.alloc (.cells ([.int .i64 0, .int .i64 0, .int .i64 0, .int .i64 0, .int .i64 0, .int .i64 0] : List Value).toArray 138)) := by
 simp only [execOp, ho]
 kernel_rfl
theorem told_moved2 {a : AS} {ck : Int} (h : a.Ok ck) (reply : Int) : (a.told.moved reply).2 = (decide a.open && a.moves reply) := by
 rw [told_moved a h]
 by_cases ho : a.open <;> cases hm : a.moves reply <;> simp [ho]
section
variable {w : World} {R base : Nat} {room : Int} {ev : Value} {es : List (Nat × AS)}
def mvE (es : List (Nat × AS)) (id reply : Int) : Bool := es.any fun p => decide (p.2.id = id ∧ p.2.open) && p.2.moves reply
theorem mvE_of (hs : Sorted es) {p : Nat × AS} (hp : p ∈ es) {id : Int} (hid : p.2.id = id) (reply : Int) : mvE es id reply = (decide p.2.open && p.2.moves reply) := by
 by_cases h : (decide p.2.open && p.2.moves reply) = true
 ·rw [h]
  refine List.any_eq_true.2 ⟨p, hp, ?_⟩
  simp only [Bool.and_eq_true, decide_eq_true_eq] at h ⊢
  exact ⟨⟨hid, h.1⟩, h.2⟩
 ·rw [Bool.not_eq_true] at h
  rw [h]
  refine List.any_eq_false.2 fun q hq hc => ?_
  simp only [Bool.and_eq_true, decide_eq_true_eq] at hc
  have e := sorted_uniq hs hp hq (hid.trans hc.1.1.symm)
  subst e
  simp [hc.1.2, hc.2] at h
theorem mvE_no {id : Int} (hno : ∀ p ∈ es, p.2.id ≠ id) (reply : Int) : mvE es id reply = false := List.any_eq_false.2 fun q hq hc => by
 simp only [Bool.and_eq_true, decide_eq_true_eq] at hc
 exact hno q hq hc.1.1
set_option maxRecDepth 100000 in
set_option maxHeartbeats 4000000 in
theorem rMoves_ok (h : RollAt w R base room ev es) (hs : Sorted es) (hn : es.length ≤ 100000) {ck : Int} (hok : ∀ p ∈ es, p.2.Ok ck) (id reply : Int) : Calls Tryz.prog 117 #[.pointer (some ⟨R, 0, none⟩), .agg #[.int .i64 id, .int .i64 reply]] w fun e w' => e = .returned (.bool (mvE es id reply)) ∧ Fr (fun _ => False) w w' := by
 have hfa : Fr (fun _ => False) w (w.alloc (.cells #[.int .i64 id, .int .i64 reply] 196)) := (Fr.refl _ _).alloc _
 have HC := rfind_ok (h.frz hfa) hs hn id
 have hlift : Tryz.prog.follows .mixedOrders = true := by kernel_rfl
 go_enter Tryz.func117, Tryz.ntmps117
 go_wp2_with fail
 refine HC.mono ?_
 rintro e w2 ⟨v, rfl, hv, hf⟩
 have hM : w2.heap[w.heap.size]? = some (.cells #[.int .i64 id, .int .i64 reply] 196 (0, 0)) := hf.keep (heap_alloc_at _ _) (fun h => h)
 have m1 : w2.cell? ⟨w.heap.size, 1, none⟩ = some (.int .i64 reply) := (cell_of_row _ _ 1 _ _ _ hM).trans rfl
 have h2 := (h.frz hfa).frz hf
 have hF := hfa.trans hf (fun _ _ h => h)
 clear hfa hf HC h
 rcases hv with ⟨p, hp, hid, rfl⟩ | ⟨hno, rfl⟩
 ·unfold epv
  have HB : Hid (mvE es id reply = (decide p.2.open && p.2.moves reply)) := mvE_of hs hp hid reply
  have hpo := hok p hp
  have hr := h2.stand hp hpo.l6
  go_wp2_with (first | (refine wpList_load_mid rfl 138 _ rfl p.1 14 ?_ _ _ hr Tryz.underlying138 rfl ?_ ?_; rfl; exact stand_size))
  have HS : ∀ w', Fr (fun _ => False) w2 w' → w'.rangeAt p.1 14 p.2.told.cs ∧ w'.cell? ⟨w.heap.size, 1, none⟩ = some (.int .i64 reply) := fun w' hf => ⟨fun j v hv => hf.cell (hr j v hv) (fun h => h), hf.cell m1 (fun h => h)⟩
  have HMV := fun W => stMoved_ok W p.2.told reply hpo.s (fun h => ⟨(hpo.p h).1, by have := (hpo.p h).2; have := hpo.l6; show p.2.S.2 ≤ 6; omega⟩)
  obtain ⟨W, HW⟩ : ∃ W, Hid (W = w2.drew) := ⟨_, rfl⟩
  have hfW : Fr (fun _ => False) w2 W := by rw [HW.out]; exact (Fr.refl _ _).drew
  let S : World → Prop := fun w' => w'.rangeAt p.1 14 p.2.told.cs ∧ w'.cell? ⟨w.heap.size, 1, none⟩ = some (.int .i64 reply)
  have hS : S W := HS W hfW
  refine wp_region_held (S := S) hlift ?_
  change wpAnyH _ _ _ _ S _ _ _ (World.drew _)
  rw [← HW.out]
  clear HW
  refine tkE (S := S) (i := 0) (oi := ⟨some 15, .move (.tmp 5), _, _, _, none⟩) (v := .pointer (some ⟨p.1, 0, none⟩)) rfl hS ?_
  simp only [Act.put, lsE, lsZ, lsS]
  refine tkE (S := S) (i := 1) (oi := ⟨some 16, .nilCheck (.tmp 15), _, _, _, none⟩) (v := .pointer (some ⟨p.1, 0, none⟩)) rfl hS ?_
  simp only [Act.put, lsE, lsZ, lsS]
  refine tkE (S := S) (i := 2) (oi := ⟨some 17, .fieldAddr 140 (.tmp 16) 1, _, _, _, none⟩) (v := .pointer (some ⟨p.1, 14, none⟩)) rfl hS ?_
  simp only [Act.put, lsE, lsZ, lsS]
  refine tkY (S := S) (i := 3) (oi := ⟨some 18, .load 138 (.tmp 17), _, _, _, none⟩) (v := .agg p.2.told.cs.toArray) rfl (Or.inl ⟨rfl, fun w' hs => exec_load 138 (.tmp 17) rfl ⟨p.1, 14, none⟩ rfl (load6m hs.1)⟩) hS ?_
  simp only [Act.put, lsE, lsZ, lsS]
  refine tkE (S := S) (i := 4) (oi := ⟨some 19, .fieldAddr 196 (.tmp 3) 1, _, _, _, none⟩) (v := .pointer (some ⟨w.heap.size, 1, none⟩)) rfl hS ?_
  simp only [Act.put, lsE, lsZ, lsS]
  refine tkY (S := S) (i := 5) (oi := ⟨some 20, .load 3 (.tmp 19), _, _, _, none⟩) (v := .int .i64 reply) rfl (Or.inl ⟨rfl, fun w' hs => exec_load 3 (.tmp 19) rfl ⟨w.heap.size, 1, none⟩ rfl (run_loadAt_one hs.2 Tryz.underlying3 rfl)⟩) hS ?_
  simp only [Act.put, lsE, lsZ, lsS]
  refine wpAnyH_all (rs := [6, 10]) (by kernel_rfl) (by simp) ?_
  intro i6 hi6
  have h66 : i6 = 6 ∨ i6 = 10 := by simpa using hi6
  rcases h66 with rfl | rfl
  ·refine wpOp_call (o := ⟨some 21, .call { callee := .value (.func 118), args := #[(.tmp 18), (.tmp 20)], argTypes := _ }, _, _, _, none⟩) (f := 118) (args := #[.agg p.2.told.cs.toArray, .int .i64 reply]) rfl rfl (by kernel_rfl) ?_
   refine (HMV W).mono ?_
   rintro e w3 ⟨rfl, hfw3⟩
   have hw3 : Fr (fun _ => False) w2 w3 := hfW.trans hfw3 (fun _ _ h => h)
   have hSw3 : S w3 := HS _ hw3
   refine ⟨_, rfl, hSw3, ?_⟩
   simp only [Act.put, lsE, lsZ, lsS]
   refine tkE (S := S) (i := 7) (oi := ⟨some 14, .move (.tmp 21), _, _, _, none⟩) (v := .tuple #[.agg (p.2.told.moved reply).1.cs.toArray, .bool (p.2.told.moved reply).2]) rfl hSw3 ?_
   simp only [Act.put, lsE, lsZ, lsS]
   refine tkE (S := S) (i := 8) (oi := ⟨some 22, .extract (.tmp 14) 0, _, _, _, none⟩) (v := .agg (p.2.told.moved reply).1.cs.toArray) rfl hSw3 ?_
   simp only [Act.put, lsE, lsZ, lsS]
   refine tkE (S := S) (i := 9) (oi := ⟨some 23, .extract (.tmp 14) 1, _, _, _, none⟩) (v := .bool (p.2.told.moved reply).2) rfl hSw3 ?_
   simp only [Act.put, lsE, lsZ, lsS]
   refine wpAnyH_all (rs := [10]) (by kernel_rfl) (by simp) ?_
   intro i10 hi10
   obtain rfl : i10 = 10 := by simpa using hi10
   obtain ⟨w4, HWw4⟩ : ∃ w4, Hid (w4 = w3.alloc (.cells ([.int .i64 0, .int .i64 0, .int .i64 0, .int .i64 0, .int .i64 0, .int .i64 0] : List Value).toArray 138)) := ⟨_, rfl⟩
   have hrw4 : w4.heap[w3.heap.size]? = some (.cells ([.int .i64 0, .int .i64 0, .int .i64 0, .int .i64 0, .int .i64 0, .int .i64 0] : List Value).toArray 138 (0, 0)) := by rw [HWw4.out]; exact heap_alloc_at _ _
   have hfw4 : Fr (fun _ => False) w3 w4 := by rw [HWw4.out]; exact (Fr.refl _ _).alloc _
   have hw4 : Fr (fun _ => False) w2 w4 := hw3.trans hfw4 (fun _ _ h => h)
   have hSw4 : S w4 := HS _ hw4
   refine wpOp_value (o := ⟨some 6, .alloc 138, _, _, _, none⟩) (v := .pointer (some ⟨w3.heap.size, 0, none⟩)) (w' := w4) rfl rfl (by rw [HWw4.out]; exact exec_alloc_stand _ _ rfl _) ⟨hSw4, ?_⟩
   simp only [Act.put, lsE, lsZ, lsS]
   refine wpAnyH_all (rs := [11]) (by kernel_rfl) (by simp) ?_
   intro i11 hi11
   obtain rfl : i11 = 11 := by simpa using hi11
   have hst := run_store6 (ty := 138) (hrw4) rfl (ST.len (p.2.told.moved reply).1) (ST.one _) stand_size
   have hFE : Fr (fun _ => False) w2 (w4.setRow w3.heap.size (p.2.told.moved reply).1.cs.toArray) := hw4.setRow _ (fun h => by have := hw3.size; omega) _
   have hSE : S (w4.setRow w3.heap.size (p.2.told.moved reply).1.cs.toArray) := HS _ hFE
   refine wpOp_skip (o := ⟨none, .store 138 (.tmp 6) (.tmp 22), _, _, _, none⟩) (w' := w4.setRow w3.heap.size (p.2.told.moved reply).1.cs.toArray) rfl rfl (exec_store 138 _ _ rfl ⟨w3.heap.size, 0, none⟩ _ rfl rfl hst) ⟨hSE, ?_⟩
   simp only [Act.put]
   refine tkE (S := S) (i := 12) (oi := ⟨some 7, .assign (.tmp 23), _, _, _, none⟩) (v := .bool (p.2.told.moved reply).2) rfl hSE ?_
   simp only [Act.put, lsE, lsZ, lsS]
   refine wpAnyH_done (by kernel_rfl) ?_ _
   have HFE : Hid (Fr (fun _ => False) w (w4.setRow w3.heap.size (p.2.told.moved reply).1.cs.toArray)) := hF.trans hFE (fun _ _ h => h)
   clear hst hFE hSE
   go_wp2
   go_ret
   refine ⟨?_, HFE.out⟩
   rw [HB.out, ← told_moved2 hpo]
   rfl
  ·obtain ⟨w3, HWw3⟩ : ∃ w3, Hid (w3 = W.alloc (.cells ([.int .i64 0, .int .i64 0, .int .i64 0, .int .i64 0, .int .i64 0, .int .i64 0] : List Value).toArray 138)) := ⟨_, rfl⟩
   have hrw3 : w3.heap[W.heap.size]? = some (.cells ([.int .i64 0, .int .i64 0, .int .i64 0, .int .i64 0, .int .i64 0, .int .i64 0] : List Value).toArray 138 (0, 0)) := by rw [HWw3.out]; exact heap_alloc_at _ _
   have hfw3 : Fr (fun _ => False) W w3 := by rw [HWw3.out]; exact (Fr.refl _ _).alloc _
   have hw3 : Fr (fun _ => False) w2 w3 := hfW.trans hfw3 (fun _ _ h => h)
   have hSw3 : S w3 := HS _ hw3
   refine wpOp_value (o := ⟨some 6, .alloc 138, _, _, _, none⟩) (v := .pointer (some ⟨W.heap.size, 0, none⟩)) (w' := w3) rfl rfl (by rw [HWw3.out]; exact exec_alloc_stand _ _ rfl _) ⟨hSw3, ?_⟩
   simp only [Act.put, lsE, lsZ, lsS]
   refine wpAnyH_all (rs := [6]) (by kernel_rfl) (by simp) ?_
   intro i7 hi7
   obtain rfl : i7 = 6 := by simpa using hi7
   refine wpOp_call (o := ⟨some 21, .call { callee := .value (.func 118), args := #[(.tmp 18), (.tmp 20)], argTypes := _ }, _, _, _, none⟩) (f := 118) (args := #[.agg p.2.told.cs.toArray, .int .i64 reply]) rfl rfl (by kernel_rfl) ?_
   refine (HMV w3).mono ?_
   rintro e w4 ⟨rfl, hfw4⟩
   have hw4 : Fr (fun _ => False) w2 w4 := hw3.trans hfw4 (fun _ _ h => h)
   have hSw4 : S w4 := HS _ hw4
   refine ⟨_, rfl, hSw4, ?_⟩
   simp only [Act.put, lsE, lsZ, lsS]
   refine tkE (S := S) (i := 7) (oi := ⟨some 14, .move (.tmp 21), _, _, _, none⟩) (v := .tuple #[.agg (p.2.told.moved reply).1.cs.toArray, .bool (p.2.told.moved reply).2]) rfl hSw4 ?_
   simp only [Act.put, lsE, lsZ, lsS]
   refine tkE (S := S) (i := 8) (oi := ⟨some 22, .extract (.tmp 14) 0, _, _, _, none⟩) (v := .agg (p.2.told.moved reply).1.cs.toArray) rfl hSw4 ?_
   simp only [Act.put, lsE, lsZ, lsS]
   refine tkE (S := S) (i := 9) (oi := ⟨some 23, .extract (.tmp 14) 1, _, _, _, none⟩) (v := .bool (p.2.told.moved reply).2) rfl hSw4 ?_
   simp only [Act.put, lsE, lsZ, lsS]
   refine wpAnyH_all (rs := [11]) (by kernel_rfl) (by simp) ?_
   intro i11 hi11
   obtain rfl : i11 = 11 := by simpa using hi11
   have hst := run_store6 (ty := 138) (hfw4.keep hrw3 (fun h => h)) rfl (ST.len (p.2.told.moved reply).1) (ST.one _) stand_size
   have hFE : Fr (fun _ => False) w2 (w4.setRow W.heap.size (p.2.told.moved reply).1.cs.toArray) := hw4.setRow _ (fun h => by have := hfW.size; omega) _
   have hSE : S (w4.setRow W.heap.size (p.2.told.moved reply).1.cs.toArray) := HS _ hFE
   refine wpOp_skip (o := ⟨none, .store 138 (.tmp 6) (.tmp 22), _, _, _, none⟩) (w' := w4.setRow W.heap.size (p.2.told.moved reply).1.cs.toArray) rfl rfl (exec_store 138 _ _ rfl ⟨W.heap.size, 0, none⟩ _ rfl rfl hst) ⟨hSE, ?_⟩
   simp only [Act.put]
   refine tkE (S := S) (i := 12) (oi := ⟨some 7, .assign (.tmp 23), _, _, _, none⟩) (v := .bool (p.2.told.moved reply).2) rfl hSE ?_
   simp only [Act.put, lsE, lsZ, lsS]
   refine wpAnyH_done (by kernel_rfl) ?_ _
   have HFE : Hid (Fr (fun _ => False) w (w4.setRow W.heap.size (p.2.told.moved reply).1.cs.toArray)) := hF.trans hFE (fun _ _ h => h)
   clear hst hFE hSE
   go_wp2
   go_ret
   refine ⟨?_, HFE.out⟩
   rw [HB.out, ← told_moved2 hpo]
   rfl
 ·have HB : Hid (mvE es id reply = false) := mvE_no hno reply
  clear hno
  go_wp2
  go_ret
  exact ⟨by rw [HB.out]; rfl, hF⟩
end
end Go.Proofs.YteebjgfalllbjaaGreatDoor
namespace Go.Proofs.YteebjgfalllbjaaGreatDoor
open Go.RowKit

theorem bpart_cut (C i n : Nat) (h : i + n ≤ 124) (hn : 0 < n) (w : World) : (Instr.sliceAt 182 (.pointer (some ⟨C, 0, none⟩)) (some (.int .i64 i)) (some (.int .i64 (i + n))) (some (.int .i64 (i + n)))).run Tryz.prog w = .ok (.slice (some ⟨C, i, none⟩) n n) w := by
 have ha : Tryz.prog.arrayLen 182 = 124 := by kernel_rfl
 have hz : (sizeOf (Tryz.prog.elem 182)).run Tryz.prog w = .ok 1 w := by kernel_rfl
 rw [run_sliceAt_array_lhm w 182 ⟨C, 0, none⟩ (by kernel_rfl) .i64 .i64 .i64 i (i + n) (i + n) (by omega) (by omega) (by omega) (by rw [ha]; omega), hz]
 have e1 : ((i : Int) + n).toNat = i + n := by omega
 have e2 : (i : Int).toNat = i := by omega
 have e3 : ¬ i + n = i := by omega
 simp only [Result.andThen_ok, slicedAt, e1, e2, if_neg e3, Nat.add_sub_cancel_left, Nat.mul_one]
 rcases Nat.eq_zero_or_pos i with rfl | hi
 ·rfl
 ·have hne : ¬ i = 0 := by omega
  simp [Addr.add, hne]
set_option maxRecDepth 100000 in
set_option maxHeartbeats 1000000 in
theorem bpart_ok (w : World) (g i n : Nat) (h : i + n ≤ 124) (hn : 0 < n) :
  Calls Tryz.prog 97 #[.pointer (some ⟨g, 0, none⟩), .int .i64 i, .int .i64 n] w fun e w' => e = .returned (.slice (some ⟨g, i, none⟩) n n) ∧ w' = w := by
 have hc := bpart_cut g i n h hn w
 go_enter Tryz.func97, Tryz.ntmps97
 go_wp2_with (refine wpList_sliceAt 182 (.tmp 8) (some (.tmp 9)) (some (.tmp 12)) (some (.tmp 15)) (v := .slice (some ⟨g, i, none⟩) n n) (w' := w) rfl rfl ?_ ?_; exact hc)
 go_ret
 exact ⟨rfl, rfl⟩
theorem Part_cut (C i n : Nat) (h : i + n ≤ 128) (hn : 0 < n) (w : World) : (Instr.sliceAt 130 (.pointer (some ⟨C, 0, none⟩)) (some (.int .i64 i)) (some (.int .i64 (i + n))) (some (.int .i64 (i + n)))).run Tryz.prog w = .ok (.slice (some ⟨C, i, none⟩) n n) w := by
 have ha : Tryz.prog.arrayLen 130 = 128 := by kernel_rfl
 have hz : (sizeOf (Tryz.prog.elem 130)).run Tryz.prog w = .ok 1 w := by kernel_rfl
 rw [run_sliceAt_array_lhm w 130 ⟨C, 0, none⟩ (by kernel_rfl) .i64 .i64 .i64 i (i + n) (i + n) (by omega) (by omega) (by omega) (by rw [ha]; omega), hz]
 have e1 : ((i : Int) + n).toNat = i + n := by omega
 have e2 : (i : Int).toNat = i := by omega
 have e3 : ¬ i + n = i := by omega
 simp only [Result.andThen_ok, slicedAt, e1, e2, if_neg e3, Nat.add_sub_cancel_left, Nat.mul_one]
 rcases Nat.eq_zero_or_pos i with rfl | hi
 ·rfl
 ·have hne : ¬ i = 0 := by omega
  simp [Addr.add, hne]
set_option maxRecDepth 100000 in
set_option maxHeartbeats 1000000 in
theorem Part_ok (w : World) (g i n : Nat) (h : i + n ≤ 128) (hn : 0 < n) :
  Calls Tryz.prog 141 #[.pointer (some ⟨g, 0, none⟩), .int .i64 i, .int .i64 n] w fun e w' => e = .returned (.slice (some ⟨g, i, none⟩) n n) ∧ w' = w := by
 have hc := Part_cut g i n h hn w
 go_enter Tryz.func141, Tryz.ntmps141
 go_wp2_with (refine wpList_sliceAt 130 (.tmp 8) (some (.tmp 9)) (some (.tmp 12)) (some (.tmp 15)) (v := .slice (some ⟨g, i, none⟩) n n) (w' := w) rfl rfl ?_ ?_; exact hc)
 go_ret
 exact ⟨rfl, rfl⟩
end Go.Proofs.YteebjgfalllbjaaGreatDoor
namespace Go.Proofs.YteebjgfalllbjaaGreatDoor
open Go.RowKit

def prt (cs : List Value) (i : Nat) : List Value := (cs.drop (i * 32 + 1)).take 31
def prts (cs : List Value) (i : Nat) : List Value := ((List.range i).map (prt cs)).flatten
def rdB (cs : List Value) (i : Nat) : List Value := prts cs i ++ List.replicate (124 - i * 31) (Value.int .u8 0)
theorem prt_len (cs : List Value) (hl : cs.length = 128) (i : Nat) (h : i < 4) : (prt cs i).length = 31 := by simp [prt, hl]; omega
theorem prts_succ (cs : List Value) (i : Nat) : prts cs (i + 1) = prts cs i ++ prt cs i := by simp [prts, List.range_succ]
theorem prts_len (cs : List Value) (hl : cs.length = 128) (i : Nat) (h : i ≤ 4) : (prts cs i).length = i * 31 := by
 induction i with
 | zero => rfl
 | succ i ih => rw [prts_succ, List.length_append, ih (by omega), prt_len cs hl i (by omega)]; omega
theorem rdB_len (cs : List Value) (hl : cs.length = 128) (i : Nat) (h : i ≤ 4) : (rdB cs i).length = 124 := by
 rw [rdB, List.length_append, prts_len cs hl i h, List.length_replicate]; omega
theorem rdB_step (cs : List Value) (hl : cs.length = 128) (i : Nat) (h : i < 4) : (rdB cs i).take (i * 31) ++ (prt cs i ++ (rdB cs i).drop (i * 31 + (prt cs i).length)) = rdB cs (i + 1) := by
 have hp := prts_len cs hl i (by omega)
 rw [prt_len cs hl i h, rdB, rdB, prts_succ, ← hp, List.take_left, List.drop_append, hp, List.drop_eq_nil_of_le (by omega), List.nil_append, List.append_assoc, List.drop_replicate]
 congr 3
 omega
theorem prt_one (cs : List Value) (h1 : ∀ v ∈ cs, v.oneCell' = true) (i : Nat) : ∀ v ∈ prt cs i, v.oneCell' = true := fun v hv => h1 v (List.mem_of_mem_drop (List.mem_of_mem_take hv))
theorem rdB_one (cs : List Value) (h1 : ∀ v ∈ cs, v.oneCell' = true) (i : Nat) : ∀ v ∈ rdB cs i, v.oneCell' = true := fun v hv => by
 simp only [rdB, prts, List.mem_append, List.mem_flatten, List.mem_map, List.mem_replicate] at hv
 rcases hv with ⟨x, ⟨j, _, rfl⟩, hx⟩ | ⟨_, rfl⟩
 ·exact prt_one cs h1 j v hx
 ·rfl
theorem body_size : (Tryz.prog.info? 182).map (·.size) = some 124 := by kernel_rfl
def RcI (cs : List Value) (w : World) (i : Nat) (wr : World) : Prop := wr.heap[w.heap.size]? = some (.cells cs.toArray 130 (0, 0)) ∧ wr.heap[w.heap.size + 1]? = some (.cells (rdB cs 0).toArray 182 (0, 0)) ∧ wr.heap[w.heap.size + 1 + 1]? = some (.cells (rdB cs i).toArray 182 (0, 0)) ∧ Fr (fun _ => False) w wr
set_option maxRecDepth 100000 in
set_option maxHeartbeats 1000000 in
theorem rcread_ok (w : World) (cs : List Value) (hl : cs.length = 128) (h1 : ∀ v ∈ cs, v.oneCell' = true) :
  Calls Tryz.prog 164 #[.agg cs.toArray] w fun e w' => e = .returned (.agg (rdB cs 4).toArray) ∧ Fr (fun _ => False) w w' := by
 have H1 : Hid (∀ v ∈ cs, v.oneCell' = true) := h1
 clear h1
 have HI : Hid (RcI cs w 0 (((w.alloc (.cells cs.toArray 130)).alloc (.cells (rdB cs 0).toArray 182)).alloc (.cells (rdB cs 0).toArray 182))) :=
  ⟨by rw [heap_alloc_lt _ _ _ (by simp; omega), heap_alloc_lt _ _ _ (by simp)]; exact heap_alloc_at _ _, by rw [heap_alloc_lt _ _ _ (by simp)]; exact heap_alloc2_new w _ _, by
   have := heap_alloc_at ((w.alloc (.cells cs.toArray 130)).alloc (.cells (rdB cs 0).toArray 182)) (.cells (rdB cs 0).toArray 182)
   simpa using this, (((Fr.refl _ _).alloc _).alloc _).alloc _⟩
 go_enter Tryz.func164, Tryz.ntmps164
 go_wp2
 go_loopw [5] (fun c wr => ∃ i : Nat, i ≤ 4 ∧ c = .int .i64 i ∧ Hid (RcI cs w i wr)) (fun c _ => 4 - (intOf c).toNat)
 case atStart => exact ⟨0, by omega, rfl, HI⟩
 case round =>
  obtain ⟨i, hi, rfl, HR⟩ := hrel
  by_cases hlt : i < 4
  ·have hlt' : (i : Int) < 4 := by omega
   have hB : ∀ w2, Calls Tryz.prog 97 #[.pointer (some ⟨w.heap.size + 1 + 1, 0, none⟩), .int .i64 ((i : Int) * 31), .int .i64 31] w2 fun e w' => e = .returned (.slice (some ⟨w.heap.size + 1 + 1, i * 31, none⟩) 31 31) ∧ w' = w2 := fun w2 => by
    have := bpart_ok w2 (w.heap.size + 1 + 1) (i * 31) 31 (by omega) (by omega)
    push_cast at this
    exact this
   have hP : ∀ w2, Calls Tryz.prog 141 #[.pointer (some ⟨w.heap.size, 0, none⟩), .int .i64 ((i : Int) * 32 + 1), .int .i64 31] w2 fun e w' => e = .returned (.slice (some ⟨w.heap.size, i * 32 + 1, none⟩) 31 31) ∧ w' = w2 := fun w2 => by
    have := Part_ok w2 w.heap.size (i * 32 + 1) 31 (by omega) (by omega)
    push_cast at this
    exact this
   go_wp2_with fail
   refine (hB _).mono ?_
   rintro e w' ⟨rfl, rfl⟩
   go_wp2_with fail
   refine (hP _).mono ?_
   rintro e w'' ⟨rfl, rfl⟩
   clear hB hP
   have hlp := prt_len cs hl i hlt
   go_wp2_with (first | (refine wpList_copy_to rfl (.tmp 10) (.tmp 14) 85 85 rfl 5 Tryz.underlying85 u8size (w.heap.size + 1 + 1) (i * 31) 31 31 ⟨w.heap.size, i * 32 + 1, none⟩ 31 31 rfl rfl (rdB cs i).toArray 182 HR.out.2.2.1 (prt cs i) ?_ ?_ ?_ ?_ (rdB cs (i + 1)) (rdB_step cs hl i hlt) ?_; (rw [hlp]; rfl); exact src_of_row HR.out.1 _ _; (rw [hlp, List.size_toArray, rdB_len cs hl i hi]; omega); exact prt_one cs H1.out i; intro w2 HW2))
   have HN : Hid (RcI cs w (i + 1) w2) := by
    have hr := HR.out
    refine ⟨?_, ?_, ?_, ?_⟩
    ·rw [HW2.out, setRow_other _ _ _ _ (by omega)]; exact hr.1
    ·rw [HW2.out, setRow_other _ _ _ _ (by omega)]; exact hr.2.1
    ·rw [HW2.out]; exact setRow_heap _ _ _ _ _ _ hr.2.2.1
    ·rw [HW2.out]; exact hr.2.2.2.setRow _ (fun h => by omega) _
   clear HW2 HR
   go_roundw
   case rel => exact ⟨i + 1, by omega, by go_num, HN⟩
   case measure => simp [intOf]; omega
  ·obtain rfl : i = 4 := by omega
   have hM1 : wr.rangeAt (w.heap.size + 1 + 1) 0 (rdB cs 4) := fun j v hv => (cell_of_row wr _ (0 + j) _ _ _ HR.out.2.2.1).trans (by simpa using hv)
   have hst := run_storeAt_row (P := Tryz.prog) (o := 0) (ty := 182) (vs := rdB cs 4) HR.out.2.1 (by rw [rdB_len cs hl 4 (by omega), rdB_len cs hl 0 (by omega)]; omega) (rdB_one cs H1.out 4) (by rw [body_size, rdB_len cs hl 4 (by omega)])
   rw [show splice (rdB cs 0) 0 (rdB cs 4) = rdB cs 4 from by simp [splice, rdB_len cs hl 4, rdB_len cs hl 0]] at hst
   have hRE := setRow_heap wr (w.heap.size + 1) _ (rdB cs 4).toArray 182 (0, 0) HR.out.2.1
   obtain ⟨WE, HWE⟩ : ∃ WE, Hid (WE = wr.setRow (w.heap.size + 1) (rdB cs 4).toArray) := ⟨_, rfl⟩
   have HFE : Hid (Fr (fun _ => False) w WE) := by rw [HWE.out]; exact HR.out.2.2.2.setRow _ (fun h => by omega) _
   rw [← HWE.out] at hst hRE
   clear HWE
   go_wp2_with (first | (refine wpList_load_mid rfl 182 (.tmp 3) rfl (w.heap.size + 1 + 1) 0 ?_ (rdB cs 4) _ hM1 Tryz.underlying182 rfl ?_ ?_; rfl; (rw [body_size, rdB_len cs hl 4 (by omega)])) | (refine wpList_store 182 (w' := WE) _ _ rfl rfl ?_ ?_; exact hst))
   refine bodyPost_ret (v := .agg (rdB cs 4).toArray) (results_cell_row Tryz.results164 _ _ (w.heap.size + 1) 182 _ (0, 0) _ rfl hRE Tryz.underlying182 rfl (by rw [body_size]; simp [rdB_len cs hl 4])) rfl ⟨rfl, HFE.out⟩
end Go.Proofs.YteebjgfalllbjaaGreatDoor
