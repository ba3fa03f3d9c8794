import Derived.Test.YteebjgfalllbjaaGreatDoorCVqPtRd
import Derived.Test.YteebjgfalllbjaaGreatDoorCHeadSecureTry
import Derived.Test.YteebjgfalllbjaaGreatDoorCNtRoRp
namespace Go.Proofs.YteebjgfalllbjaaGreatDoor
open Go.RowKit

def sct (k : Nat) (bd : List Value) (j : Nat) : List Value := .int .u8 k :: (bd.drop (j * 31)).take 31
def scts (k : Nat) (bd : List Value) (i : Nat) : List Value := ((List.range i).map (sct k bd)).flatten
def ldB (k : Nat) (bd : List Value) (i : Nat) : List Value := scts k bd i ++ List.replicate (128 - i * 32) (Value.int .u8 0)
def ldK (k : Nat) (bd : List Value) (i : Nat) : List Value := scts k bd i ++ .int .u8 k :: List.replicate (127 - i * 32) (Value.int .u8 0)
theorem sct_len (k : Nat) (bd : List Value) (hl : bd.length = 124) (i : Nat) (h : i < 4) : (sct k bd i).length = 32 := by simp [sct, hl]; omega
theorem share_len (bd : List Value) (hl : bd.length = 124) (i : Nat) (h : i < 4) : ((bd.drop (i * 31)).take 31).length = 31 := by simp [hl]; omega
theorem scts_succ (k : Nat) (bd : List Value) (i : Nat) : scts k bd (i + 1) = scts k bd i ++ sct k bd i := by simp [scts, List.range_succ]
theorem scts_len (k : Nat) (bd : List Value) (hl : bd.length = 124) (i : Nat) (h : i ≤ 4) : (scts k bd i).length = i * 32 := by
 induction i with
 | zero => rfl
 | succ i ih => rw [scts_succ, List.length_append, ih (by omega), sct_len k bd hl i (by omega)]; omega
theorem ldB_len (k : Nat) (bd : List Value) (hl : bd.length = 124) (i : Nat) (h : i ≤ 4) : (ldB k bd i).length = 128 := by
 rw [ldB, List.length_append, scts_len k bd hl i h, List.length_replicate]; omega
theorem ldK_len (k : Nat) (bd : List Value) (hl : bd.length = 124) (i : Nat) (h : i < 4) : (ldK k bd i).length = 128 := by
 rw [ldK, List.length_append, scts_len k bd hl i (by omega), List.length_cons, List.length_replicate]; omega
theorem ldB_set (k : Nat) (bd : List Value) (hl : bd.length = 124) (i : Nat) (h : i < 4) : (ldB k bd i).toArray.setIfInBounds (i * 32) (.int .u8 k) = (ldK k bd i).toArray := by
 have hp := scts_len k bd hl i (by omega)
 rw [ldB, ldK, List.setIfInBounds_toArray, List.set_append_right _ _ (by omega), hp, Nat.sub_self, show 128 - i * 32 = (127 - i * 32) + 1 by omega, List.replicate_succ, List.set_cons_zero]
theorem ldK_step (k : Nat) (bd : List Value) (hl : bd.length = 124) (i : Nat) (h : i < 4) : (ldK k bd i).take (i * 32 + 1) ++ ((bd.drop (i * 31)).take 31 ++ (ldK k bd i).drop (i * 32 + 1 + ((bd.drop (i * 31)).take 31).length)) = ldB k bd (i + 1) := by
 have hp := scts_len k bd hl i (by omega)
 have hd : (scts k bd i).drop (i * 32 + 1 + 31) = [] := List.drop_eq_nil_of_le (by omega)
 rw [share_len bd hl i h, ldK, ldB, scts_succ, sct]
 generalize (bd.drop (i * 31)).take 31 = S
 rw [List.take_append, List.drop_append, hd, hp, List.take_of_length_le (by omega), show i * 32 + 1 - i * 32 = 1 by omega, show i * 32 + 1 + 31 - i * 32 = 31 + 1 by omega, List.drop_succ_cons, List.drop_replicate, List.nil_append]
 simp
 omega
theorem share_one (bd : List Value) (h1 : ∀ v ∈ bd, v.oneCell' = true) (i : Nat) : ∀ v ∈ (bd.drop (i * 31)).take 31, v.oneCell' = true := fun v hv => h1 v (List.mem_of_mem_drop (List.mem_of_mem_take hv))
theorem ldB_one (k : Nat) (bd : List Value) (h1 : ∀ v ∈ bd, v.oneCell' = true) (i : Nat) : ∀ v ∈ ldB k bd i, v.oneCell' = true := fun v hv => by
 simp only [ldB, scts, List.mem_append, List.mem_flatten, List.mem_map, List.mem_replicate] at hv
 rcases hv with ⟨x, ⟨j, _, rfl⟩, hx⟩ | ⟨_, rfl⟩
 ·rcases List.mem_cons.1 hx with rfl | hx
  ·rfl
  ·exact share_one bd h1 j v hx
 ·rfl
def LdI (k : Nat) (bd : List Value) (w : World) (l : List Value) (wr : World) : Prop := wr.heap[w.heap.size]? = some (.cells bd.toArray 182 (0, 0)) ∧ wr.heap[w.heap.size + 1]? = some (.cells (ldB k bd 0).toArray 130 (0, 0)) ∧ wr.heap[w.heap.size + 1 + 1]? = some (.cells l.toArray 130 (0, 0)) ∧ Fr (fun _ => False) w wr
set_option maxRecDepth 100000 in
set_option maxHeartbeats 1000000 in
theorem laid_ok (w : World) (k : Nat) (bd : List Value) (hl : bd.length = 124) (h1 : ∀ v ∈ bd, v.oneCell' = true) :
  Calls Tryz.prog 98 #[.int .u8 k, .agg bd.toArray] w fun e w' => e = .returned (.agg (ldB k bd 4).toArray) ∧ Fr (fun _ => False) w w' := by
 have H1 : Hid (∀ v ∈ bd, v.oneCell' = true) := h1
 clear h1
 have HI : Hid (LdI k bd w (ldB k bd 0) (((w.alloc (.cells bd.toArray 182)).alloc (.cells (ldB k bd 0).toArray 130)).alloc (.cells (ldB k bd 0).toArray 130))) :=
  ⟨by rw [heap_alloc_lt _ _ _ (by simp; omega), heap_alloc_lt _ _ _ (by simp)]; exact heap_alloc_at _ _, by rw [heap_alloc_lt _ _ _ (by simp)]; exact heap_alloc2_new w _ _, by
   have := heap_alloc_at ((w.alloc (.cells bd.toArray 182)).alloc (.cells (ldB k bd 0).toArray 130)) (.cells (ldB k bd 0).toArray 130)
   simpa using this, (((Fr.refl _ _).alloc _).alloc _).alloc _⟩
 go_enter Tryz.func98, Tryz.ntmps98
 go_wp2
 go_loopw [7] (fun c wr => ∃ i : Nat, i ≤ 4 ∧ c = .int .i64 i ∧ Hid (LdI k bd w (ldB k bd i) wr)) (fun c _ => 4 - (intOf c).toNat)
 case atStart => exact ⟨0, by omega, rfl, HI⟩
 case round =>
  obtain ⟨i, hi, rfl, HR⟩ := hrel
  by_cases hlt : i < 4
  ·have hlt' : (i : Int) < 4 := by omega
   have hB : ∀ w2, Calls Tryz.prog 97 #[.pointer (some ⟨w.heap.size, 0, none⟩), .int .i64 ((i : Int) * 31), .int .i64 31] w2 fun e w' => e = .returned (.slice (some ⟨w.heap.size, i * 31, none⟩) 31 31) ∧ w' = w2 := fun w2 => by
    have := bpart_ok w2 w.heap.size (i * 31) 31 (by omega) (by omega)
    push_cast at this
    exact this
   have hP : ∀ w2, Calls Tryz.prog 141 #[.pointer (some ⟨w.heap.size + 1 + 1, 0, none⟩), .int .i64 ((i : Int) * 32 + 1), .int .i64 31] w2 fun e w' => e = .returned (.slice (some ⟨w.heap.size + 1 + 1, i * 32 + 1, none⟩) 31 31) ∧ w' = w2 := fun w2 => by
    have := Part_ok w2 (w.heap.size + 1 + 1) (i * 32 + 1) 31 (by omega) (by omega)
    push_cast at this
    exact this
   have hx : (Instr.indexAt 130 (.pointer (some ⟨w.heap.size + 1 + 1, 0, none⟩)) (.int .i64 (i * 32))).run Tryz.prog wr = .ok (.pointer (some ⟨w.heap.size + 1 + 1, i * 32, none⟩)) wr := by
    have := index_blk (w.heap.size + 1 + 1) (i * 32) (by omega) wr
    push_cast at this
    exact this
   have hrow := HR.out.2.2.1
   have hst : (Instr.storeAt 5 (.pointer (some ⟨w.heap.size + 1 + 1, i * 32, none⟩)) (.int .u8 k)).run Tryz.prog wr = .ok () (wr.setRow (w.heap.size + 1 + 1) (ldK k bd i).toArray) := by
    have hc : wr.cell? ⟨w.heap.size + 1 + 1, i * 32, none⟩ = some ((ldB k bd i).getD (i * 32) undef) := (cell_of_row wr _ (i * 32) _ _ _ hrow).trans (by
     have : i * 32 < (ldB k bd i).length := by rw [ldB_len k bd hl i hi]; omega
     simp [List.getD, List.getElem?_eq_getElem this])
    rw [← ldB_set k bd hl i hlt, ← setCell_eq_setRow wr _ (i * 32) _ _ _ _ hrow]
    exact run_storeAt_one hc (by simp [World.frozen?, hrow]) (by kernel_rfl) rfl
   have hrow2 := setRow_heap wr (w.heap.size + 1 + 1) _ (ldK k bd i).toArray 130 (0, 0) hrow
   obtain ⟨wk, HWK⟩ : ∃ wk, Hid (wk = wr.setRow (w.heap.size + 1 + 1) (ldK k bd i).toArray) := ⟨_, rfl⟩
   rw [← HWK.out] at hst hrow2
   have hk0 : wk.heap[w.heap.size]? = some (.cells bd.toArray 182 (0, 0)) := by rw [HWK.out, setRow_other _ _ _ _ (by omega)]; exact HR.out.1
   have hk1 : wk.heap[w.heap.size + 1]? = some (.cells (ldB k bd 0).toArray 130 (0, 0)) := by rw [HWK.out, setRow_other _ _ _ _ (by omega)]; exact HR.out.2.1
   have hkF : Fr (fun _ => False) w wk := by rw [HWK.out]; exact HR.out.2.2.2.setRow _ (fun h => by omega) _
   clear HWK HR hrow
   go_wp2_with (refine wpList_store 5 (w' := wk) _ _ rfl rfl ?_ ?_; exact hst)
   refine (hP _).mono ?_
   rintro e w' ⟨rfl, rfl⟩
   go_wp2_with fail
   refine (hB _).mono ?_
   rintro e w'' ⟨rfl, rfl⟩
   clear hB hP hst hx
   have hlp := share_len bd hl i hlt
   go_wp2_with (first | (refine wpList_copy_to rfl (.tmp 17) (.tmp 20) 85 85 rfl 5 Tryz.underlying85 u8size (w.heap.size + 1 + 1) (i * 32 + 1) 31 31 ⟨w.heap.size, i * 31, none⟩ 31 31 rfl rfl (ldK k bd i).toArray 130 hrow2 ((bd.drop (i * 31)).take 31) ?_ ?_ ?_ ?_ (ldB k bd (i + 1)) (ldK_step k bd hl i hlt) ?_; (rw [hlp]; rfl); exact src_of_row hk0 _ _; (rw [hlp, List.size_toArray, ldK_len k bd hl i hlt]; omega); exact share_one bd H1.out i; intro w2 HW2))
   have HN : Hid (LdI k bd w (ldB k bd (i + 1)) w2) := by
    refine ⟨?_, ?_, ?_, ?_⟩
    ·rw [HW2.out, setRow_other _ _ _ _ (by omega)]; exact hk0
    ·rw [HW2.out, setRow_other _ _ _ _ (by omega)]; exact hk1
    ·rw [HW2.out]; exact setRow_heap _ _ _ _ _ _ hrow2
    ·rw [HW2.out]; exact hkF.setRow _ (fun h => by omega) _
   clear HW2 hk0 hk1 hkF hrow2
   go_roundw
   case rel => exact ⟨i + 1, by omega, by go_num, HN⟩
   case measure => simp [intOf]; omega
  ·obtain rfl : i = 4 := by omega
   have hM1 : wr.rangeAt (w.heap.size + 1 + 1) 0 (ldB k bd 4) := fun j v hv => (cell_of_row wr _ (0 + j) _ _ _ HR.out.2.2.1).trans (by simpa using hv)
   have hst := run_storeAt_row (P := Tryz.prog) (o := 0) (ty := 130) (vs := ldB k bd 4) HR.out.2.1 (by rw [ldB_len k bd hl 4 (by omega), ldB_len k bd hl 0 (by omega)]; omega) (ldB_one k bd H1.out 4) (by rw [block_size, ldB_len k bd hl 4 (by omega)])
   rw [show splice (ldB k bd 0) 0 (ldB k bd 4) = ldB k bd 4 from by simp [splice, ldB_len k bd hl 4, ldB_len k bd hl 0]] at hst
   have hRE := setRow_heap wr (w.heap.size + 1) _ (ldB k bd 4).toArray 130 (0, 0) HR.out.2.1
   obtain ⟨WE, HWE⟩ : ∃ WE, Hid (WE = wr.setRow (w.heap.size + 1) (ldB k bd 4).toArray) := ⟨_, rfl⟩
   have HFE : Hid (Fr (fun _ => False) w WE) := by rw [HWE.out]; exact HR.out.2.2.2.setRow _ (fun h => by omega) _
   rw [← HWE.out] at hst hRE
   clear HWE
   go_wp2_with (first | (refine wpList_load_mid rfl 130 (.tmp 5) rfl (w.heap.size + 1 + 1) 0 ?_ (ldB k bd 4) _ hM1 Tryz.underlying130 rfl ?_ ?_; rfl; (rw [block_size, ldB_len k bd hl 4 (by omega)])) | (refine wpList_store 130 (w' := WE) _ _ rfl rfl ?_ ?_; exact hst))
   refine bodyPost_ret (v := .agg (ldB k bd 4).toArray) (results_cell_row Tryz.results98 _ _ (w.heap.size + 1) 130 _ (0, 0) _ rfl hRE Tryz.underlying130 rfl (by rw [block_size]; simp [ldB_len k bd hl 4])) rfl ⟨rfl, HFE.out⟩
end Go.Proofs.YteebjgfalllbjaaGreatDoor
namespace Go.Proofs.YteebjgfalllbjaaGreatDoor
open Go.RowKit

theorem ldB_cut (k : Nat) (bd : List Value) (i : Nat) (h : i < 4) : ∃ z, ldB k bd 4 = scts k bd i ++ (sct k bd i ++ z) := by
 have e : ldB k bd 4 = scts k bd 4 := by simp [ldB]
 rw [e]
 have hi : i = 0 ∨ i = 1 ∨ i = 2 ∨ i = 3 := by omega
 rcases hi with rfl | rfl | rfl | rfl
 ·exact ⟨sct k bd 1 ++ (sct k bd 2 ++ sct k bd 3), by simp [scts, List.range_succ]⟩
 ·exact ⟨sct k bd 2 ++ sct k bd 3, by simp [scts, List.range_succ]⟩
 ·exact ⟨sct k bd 3, by simp [scts, List.range_succ]⟩
 ·exact ⟨[], by simp [scts, List.range_succ]⟩
theorem ldB_kind (k : Nat) (bd : List Value) (hl : bd.length = 124) (i : Nat) (h : i < 4) : (ldB k bd 4)[i * 32]? = some (.int .u8 k) := by
 obtain ⟨z, e⟩ := ldB_cut k bd i h
 have hp := scts_len k bd hl i (by omega)
 rw [e, List.getElem?_append_right (by omega), hp, Nat.sub_self]
 rfl
theorem prt_ldB (k : Nat) (bd : List Value) (hl : bd.length = 124) (i : Nat) (h : i < 4) : prt (ldB k bd 4) i = (bd.drop (i * 31)).take 31 := by
 obtain ⟨z, e⟩ := ldB_cut k bd i h
 have hp := scts_len k bd hl i (by omega)
 have hs := share_len bd hl i h
 have hd : (scts k bd i).drop (i * 32 + 1) = [] := List.drop_eq_nil_of_le (by omega)
 rw [prt, e, List.drop_append, hd, hp, show i * 32 + 1 - i * 32 = 0 + 1 by omega, sct]
 generalize (bd.drop (i * 31)).take 31 = S at hs
 rw [List.cons_append, List.drop_succ_cons, List.drop_zero, List.nil_append, ← hs, List.take_left]
theorem rdB_ldB (k : Nat) (bd : List Value) (hl : bd.length = 124) : rdB (ldB k bd 4) 4 = bd := by
 have e : rdB (ldB k bd 4) 4 = prt (ldB k bd 4) 0 ++ (prt (ldB k bd 4) 1 ++ (prt (ldB k bd 4) 2 ++ prt (ldB k bd 4) 3)) := by simp [rdB, prts, List.range_succ]
 rw [e, prt_ldB k bd hl 0 (by omega), prt_ldB k bd hl 1 (by omega), prt_ldB k bd hl 2 (by omega), prt_ldB k bd hl 3 (by omega)]
 have h3 : (bd.drop (3 * 31)).take 31 = bd.drop (3 * 31) := List.take_of_length_le (by simp [hl])
 rw [h3]
 have s : ∀ n, (bd.drop n).take 31 ++ bd.drop (n + 31) = bd.drop n := fun n => by rw [← List.drop_drop, List.take_append_drop]
 rw [s (2 * 31), s (1 * 31), s (0 * 31)]
 rfl
end Go.Proofs.YteebjgfalllbjaaGreatDoor
namespace Go.Proofs.YteebjgfalllbjaaGreatDoor
open Go.RowKit

def zv : Value := .int .u8 0
def pad8 (s : ByteArray) : List Value := Lib.byteCells s.data.toList ++ List.replicate (8 - s.size) zv
def stepB (p : SS) : List Value := .int .u8 ((p.1.size * 16 + p.2.size : Nat) : Int) :: (pad8 p.1 ++ pad8 p.2)
def stepsB (l : List SS) (i : Nat) : List Value := ((l.take i).map stepB).flatten
def bodyS (id n : Nat) (l : List SS) (i : Nat) : List Value := [.int .u8 ((id / 256 : Nat) : Int), .int .u8 ((id % 256 : Nat) : Int), .int .u8 (n : Int)] ++ (stepsB l i ++ List.replicate (121 - i * 17) zv)
theorem cells_size (s : ByteArray) : (Lib.byteCells s.data.toList).length = s.size := by simp [Lib.byteCells]
theorem pad8_len (s : ByteArray) (h : s.size ≤ 8) : (pad8 s).length = 8 := by simp only [pad8, List.length_append, cells_size, List.length_replicate]; omega
theorem stepB_len (p : SS) (h : p.1.size ≤ 8 ∧ p.2.size ≤ 8) : (stepB p).length = 17 := by simp only [stepB, List.length_cons, List.length_append, pad8_len _ h.1, pad8_len _ h.2]
theorem stepsB_succ (l : List SS) (i : Nat) (p : SS) (hp : l[i]? = some p) : stepsB l (i + 1) = stepsB l i ++ stepB p := by
 simp [stepsB, List.take_add_one, hp]
theorem stepsB_len (l : List SS) (h : ∀ p ∈ l, p.1.size ≤ 8 ∧ p.2.size ≤ 8) (i : Nat) (hi : i ≤ l.length) : (stepsB l i).length = i * 17 := by
 induction i with
 | zero => rfl
 | succ i ih =>
  have hlt : i < l.length := by omega
  rw [stepsB_succ l i _ (List.getElem?_eq_getElem hlt), List.length_append, ih (by omega), stepB_len _ (h _ (List.getElem_mem hlt))]
  omega
theorem bodyS_len (id n : Nat) (l : List SS) (h : ∀ p ∈ l, p.1.size ≤ 8 ∧ p.2.size ≤ 8) (i : Nat) (hi : i ≤ l.length) (h6 : i ≤ 6) : (bodyS id n l i).length = 124 := by
 simp only [bodyS, List.length_append, stepsB_len l h i hi, List.length_replicate, List.length_cons, List.length_nil]; omega
theorem put_text (a b : List Value) (s : ByteArray) (h : s.size ≤ 8) :
  (a ++ (List.replicate 8 zv ++ b)).take a.length ++ (Lib.byteCells s.data.toList ++ (a ++ (List.replicate 8 zv ++ b)).drop (a.length + (Lib.byteCells s.data.toList).length)) = a ++ (pad8 s ++ b) := by
 have hd : a.drop (a.length + s.size) = [] := List.drop_eq_nil_of_le (by omega)
 rw [cells_size, List.take_left, List.drop_append, hd, show a.length + s.size - a.length = s.size by omega, List.drop_append, List.drop_replicate, List.length_replicate, show s.size - 8 = 0 by omega, List.drop_zero, pad8]
 simp
theorem bodyS_room (id n : Nat) (l : List SS) (i : Nat) (h6 : i < 6) : ∃ b, bodyS id n l i = ([.int .u8 ((id / 256 : Nat) : Int), .int .u8 ((id % 256 : Nat) : Int), .int .u8 (n : Int)] ++ stepsB l i) ++ (zv :: (List.replicate 8 zv ++ (List.replicate 8 zv ++ b))) ∧
  ∀ p, l[i]? = some p → bodyS id n l (i + 1) = ([.int .u8 ((id / 256 : Nat) : Int), .int .u8 ((id % 256 : Nat) : Int), .int .u8 (n : Int)] ++ stepsB l i) ++ (.int .u8 ((p.1.size * 16 + p.2.size : Nat) : Int) :: (pad8 p.1 ++ (pad8 p.2 ++ b))) := by
 refine ⟨List.replicate (104 - i * 17) zv, ?_, ?_⟩
 ·rw [bodyS, List.append_assoc, show 121 - i * 17 = (8 + (8 + (104 - i * 17))) + 1 by omega, List.replicate_succ, ← List.replicate_append_replicate, ← List.replicate_append_replicate]
 ·intro p hp
  rw [bodyS, stepsB_succ l i p hp, stepB, show 121 - (i + 1) * 17 = 104 - i * 17 by omega]
  simp
end Go.Proofs.YteebjgfalllbjaaGreatDoor
