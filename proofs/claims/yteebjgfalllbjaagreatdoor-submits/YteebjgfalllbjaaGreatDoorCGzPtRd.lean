import Derived.Test.YteebjgfalllbjaaGreatDoorCFdOpAl
import Derived.Test.YteebjgfalllbjaaGreatDoorCSmPlTop
import Derived.Test.YteebjgfalllbjaaGreatDoorCEqWhJr
import Derived.Test.YteebjgfalllbjaaGreatDoorCVolStoreHead
namespace Go.Proofs.YteebjgfalllbjaaGreatDoor
open Go.RowKit

/-- The program, as long as no saga is submitted. -/
def Dev0 (w : World) (k : DK) (bs : List Value) : Prop := k.L = [] ∧ ((k.nn = true ∧ bs = List.replicate (k.n * 128) (.int .u8 0)) ∨ (k.nn = false ∧ inB k.n = true ∧ bs = emptyB k.n)) ∧
  ∀ a, k.x = some a → ∃ X J R clock pause cv room, a = ⟨X, 0, none⟩ ∧ EngAt w X J R clock pause cv ∧ Roll0 w R room ∧ k.F X ∧ k.F R
def G0 : Prg where
  Dev := Dev0
  fr := by
    rintro S w w' q bs ⟨h1, h2, h3⟩ hf hF
    refine ⟨h1, h2, fun a ha => ?_⟩
    obtain ⟨X, J, R, clock, pause, cv, room, e, g1, g2, g3, g4⟩ := h3 a ha
    exact ⟨X, J, R, clock, pause, cv, room, e, hf.keep g1 (hF _ g3), hf.keep g2 (hF _ g4), g3, g4⟩
  new := fun w A B Pp n => ⟨rfl, .inl ⟨rfl, rfl⟩, fun a h => by cases h⟩
theorem dev0_shut {w : World} {k : DK} {bs : List Value} (h : Dev0 w k bs) : Dev0 w k.shut bs := ⟨h.1, h.2.1, fun a h => by cases h⟩
theorem inB_iff {n : Nat} : inB n = true ↔ 8 ≤ n ∧ n ≤ 400 := by simp [inB]
theorem take_zeros {n : Nat} (h : 8 ≤ n) : (List.replicate (n * 128) (Value.int .u8 0)).take 128 = zB := by
  rw [List.take_replicate, zB]; congr 1; omega
theorem good0 : Good0 G0 where
  shut := fun h => dev0_shut h
  fmt := by
    rintro w s k ⟨calls, writes, bs, h1, h2, h3, h4, h5, h6, h7⟩ hs hn
    by_cases hi : inB k.n = true
    · obtain ⟨n8, n4⟩ := inB_iff.1 hi
      refine (pFormat_ok h1 h2 h3 (by omega) h5 (by omega) n8 n4).mono ?_
      rintro e w' ⟨v, rfl, hv, bs', hd', hr', rfl, hf⟩
      refine ⟨v, rfl, by rw [if_pos hi]; exact hv, ?_, hf⟩
      rw [if_pos hi]
      exact ⟨_, _, _, hd', hr', by omega, by push_cast; omega, by omega, by push_cast; omega, rfl, .inr ⟨rfl, hi, rfl⟩, fun a h => by cases h⟩
    · have hb : k.n < 8 ∨ 400 < k.n := by
        have := mt inB_iff.2 hi
        omega
      refine (pFormat_bad h1 hb).mono ?_
      rintro e w' ⟨v, rfl, hv, hf⟩
      refine ⟨v, rfl, by rw [if_neg hi]; exact hv, ?_, hf.mono (fun _ _ h => h.elim)⟩
      rw [if_neg hi]
      exact ⟨_, _, _, h1.fr hf id, ⟨hf.keep h2.1 id, h2.2⟩, h3, by push_cast; omega, h5, by push_cast; omega, dev0_shut (G0.fr h7 hf (fun _ _ => id))⟩
  opn := by
    rintro w s k calls0 writes0 p ⟨calls, writes, bs, h1, h2, h3, h4, h5, h6, h7⟩ hd0 hs hn hL hls
    obtain ⟨ec, ew⟩ : calls0 = calls ∧ writes0 = writes := by
      have := hd0.symm.trans h1
      simp [dcells] at this
      exact this
    subst ec ew
    refine pOpen_any ?_
    -- what holds where it answers an error and turns nothing
    have hfail : ∀ (kk : Int), kk ≠ 0 → kk = openK p k.n k.nn → ∀ v w', ErrAt w' v kk → (∃ cl, calls0 ≤ cl ∧ cl ≤ calls0 + 1 ∧ DiskAt w' k.A k.B k.n (.slice none 0 0) cl writes0) → Fr (fun b => b = k.A) w w' → OpenQ (fun xo kk w' => if kk = 0 then ∃ F, FT w' w.heap.size F ∧ DevI G0 w' (s + 1) (k.opened xo p F) else DevI G0 w' (s + 1) k.shut) (fun b => b = k.A) k.A k.B k.n k.nn p writes0 w (.returned (.tuple #[.pointer none, v])) w' := by
      rintro kk hk ek v w' hv ⟨cl, hc1, hc2, hd⟩ hf
      refine ⟨none, v, kk, rfl, hv, ek, by simp [hk], ⟨cl, hd⟩, ?_, hf⟩
      show (if kk = 0 then _ else _)
      rw [if_neg hk]
      have nB : k.B ≠ k.A := fun e => by have := h2.1; rw [e] at this; have := this.symm.trans h1; simp [dcells] at this
      have h7s : Dev0 w k.shut bs := dev0_shut h7
      exact ⟨cl, writes0, bs, hd, ⟨hf.keep h2.1 nB, h2.2⟩, by omega, by push_cast; omega, h5, by push_cast; omega, G0.fr h7s hf (fun b h => h.elim)⟩
    by_cases hp : p < 1 ∨ 64 < p
    · refine (sOpen_pause p hp).mono ?_
      rintro e w' ⟨v, rfl, hv, hf⟩
      exact ⟨_, _, rfl, hfail 8 (by decide) (by simp [openK, hp]) v w' hv ⟨calls0, Int.le_refl _, by omega, h1.fr hf id⟩ (hf.mono (fun _ _ h => h.elim))⟩
    · by_cases hi : inB k.n = true
      · obtain ⟨n8, n4⟩ := inB_iff.1 hi
        rcases h7.2.1 with ⟨hnn, hbs⟩ | ⟨hnn, _, hbs⟩
        · refine (sOpen_corrupt p (by omega) (by omega) h1 h2 h3 (by omega) n8 n4 (by rw [hbs]; exact take_zeros n8)).mono ?_
          rintro e w' ⟨v, rfl, hv, hd', hf⟩
          exact ⟨_, _, rfl, hfail 6 (by decide) (by simp [openK, hp, hi, hnn]) v w' hv ⟨_, by omega, Int.le_refl _, hd'⟩ hf⟩
        · refine (sOpen_ok (recs := []) p (by omega) (by omega) h1 h2 h3 (by omega) n8 n4 (by rw [hbs, layB_nil]) (by simp; omega) (by simp) (fun R _ W => Roll0 W R ((k.n : Int) - 1)) (fun R W _ h _ => h) (fun R i W W' hR h hf => hf.keep h (by have := lt_of_heap h1; omega)) (fun R i r W _ h => by simp at h)).mono ?_
          rintro e w' ⟨X, rfl, V, R, J, cl, g1, g2, g3, g4, g5, g6, g7, g8, g9, g10⟩
          refine ⟨_, _, rfl, some ⟨X, 0, none⟩, _, 0, rfl, .inl ⟨rfl, rfl⟩, by simp [openK, hp, hi, hnn], by simp, ⟨cl, g4.d⟩, ?_, g10⟩
          show (if (0 : Int) = 0 then _ else _)
          rw [if_pos rfl]
          refine ⟨fun b => b = X ∨ b = R, ?_, cl, writes0, _, g4.d, g4.r, by omega, by push_cast; omega, h5, by push_cast; omega, ?_⟩
          · rintro b (rfl | rfl)
            · exact ⟨by omega, _, _, g1, by unfold EngT; decide⟩
            · exact ⟨by omega, _, _, g5, by unfold EngT; decide⟩
          · refine ⟨by simp [DK.opened, h7.1], .inr ⟨rfl, hi, by rw [layB_nil]; rfl⟩, ?_⟩
            intro a ha
            obtain rfl : ⟨X, 0, none⟩ = a := by simpa [DK.opened] using ha
            exact ⟨X, J, R, _, _, _, _, rfl, g1, g5, .inl rfl, .inr rfl⟩
      · have hb : k.n < 8 ∨ 400 < k.n := by
          have := mt inB_iff.2 hi
          omega
        refine (sOpen_size p (by omega) (by omega) h1 hb).mono ?_
        rintro e w' ⟨v, rfl, hv, hf⟩
        exact ⟨_, _, rfl, hfail 7 (by decide) (by simp [openK, hp, hi]) v w' hv ⟨calls0, Int.le_refl _, by omega, h1.fr hf id⟩ (hf.mono (fun _ _ h => h.elim))⟩
  all := by
    rintro w s k X most ⟨calls, writes, bs, h1, h2, h3, h4, h5, h6, h7⟩ hs hx hL hls
    obtain ⟨X', J, R, clock, pause, cv, room, e, g1, g2, _⟩ := h7.2.2 X hx
    subst e
    refine (pAll_none g1 g2 most).mono ?_
    rintro e w' ⟨rfl, hf⟩
    rw [h7.1]
    exact ⟨none, 0, by simp, by intro i r hr; simp at hr, hf⟩
end Go.Proofs.YteebjgfalllbjaaGreatDoor
namespace Go.Proofs.YteebjgfalllbjaaGreatDoor
open Go.RowKit

theorem bpart_cut (C i n : Nat) (h : i + n ≤ 124) (hn : 0 < n) (w : World) : (Instr.sliceAt 182 (.pointer (some ⟨C, 0, none⟩)) (some (.int .i64 i)) (some (.int .i64 (i + n))) (some (.int .i64 (i + n)))).run Tryz.prog w = .ok (.slice (some ⟨C, i, none⟩) n n) w := by
  have ha : Tryz.prog.arrayLen 182 = 124 := by kernel_rfl
  have hz : (sizeOf (Tryz.prog.elem 182)).run Tryz.prog w = .ok 1 w := by kernel_rfl
  rw [run_sliceAt_array_lhm w 182 ⟨C, 0, none⟩ (by kernel_rfl) .i64 .i64 .i64 i (i + n) (i + n) (by omega) (by omega) (by omega) (by rw [ha]; omega), hz]
  have e1 : ((i : Int) + n).toNat = i + n := by omega
  have e2 : (i : Int).toNat = i := by omega
  have e3 : ¬ i + n = i := by omega
  simp only [Result.andThen_ok, slicedAt, e1, e2, if_neg e3, Nat.add_sub_cancel_left, Nat.mul_one]
  rcases Nat.eq_zero_or_pos i with rfl | hi
  · rfl
  · have hne : ¬ i = 0 := by omega
    simp [Addr.add, hne]
set_option maxRecDepth 100000 in
set_option maxHeartbeats 1000000 in
theorem bpart_ok (w : World) (g i n : Nat) (h : i + n ≤ 124) (hn : 0 < n) :
    Calls Tryz.prog 97 #[.pointer (some ⟨g, 0, none⟩), .int .i64 i, .int .i64 n] w fun e w' => e = .returned (.slice (some ⟨g, i, none⟩) n n) ∧ w' = w := by
  have hc := bpart_cut g i n h hn w
  go_enter Tryz.func97, Tryz.ntmps97
  go_wp2_with (refine wpList_sliceAt 182 (.tmp 8) (some (.tmp 9)) (some (.tmp 12)) (some (.tmp 15)) (v := .slice (some ⟨g, i, none⟩) n n) (w' := w) rfl rfl ?_ ?_; exact hc)
  go_ret
  exact ⟨rfl, rfl⟩
theorem Part_cut (C i n : Nat) (h : i + n ≤ 128) (hn : 0 < n) (w : World) : (Instr.sliceAt 130 (.pointer (some ⟨C, 0, none⟩)) (some (.int .i64 i)) (some (.int .i64 (i + n))) (some (.int .i64 (i + n)))).run Tryz.prog w = .ok (.slice (some ⟨C, i, none⟩) n n) w := by
  have ha : Tryz.prog.arrayLen 130 = 128 := by kernel_rfl
  have hz : (sizeOf (Tryz.prog.elem 130)).run Tryz.prog w = .ok 1 w := by kernel_rfl
  rw [run_sliceAt_array_lhm w 130 ⟨C, 0, none⟩ (by kernel_rfl) .i64 .i64 .i64 i (i + n) (i + n) (by omega) (by omega) (by omega) (by rw [ha]; omega), hz]
  have e1 : ((i : Int) + n).toNat = i + n := by omega
  have e2 : (i : Int).toNat = i := by omega
  have e3 : ¬ i + n = i := by omega
  simp only [Result.andThen_ok, slicedAt, e1, e2, if_neg e3, Nat.add_sub_cancel_left, Nat.mul_one]
  rcases Nat.eq_zero_or_pos i with rfl | hi
  · rfl
  · have hne : ¬ i = 0 := by omega
    simp [Addr.add, hne]
set_option maxRecDepth 100000 in
set_option maxHeartbeats 1000000 in
theorem Part_ok (w : World) (g i n : Nat) (h : i + n ≤ 128) (hn : 0 < n) :
    Calls Tryz.prog 141 #[.pointer (some ⟨g, 0, none⟩), .int .i64 i, .int .i64 n] w fun e w' => e = .returned (.slice (some ⟨g, i, none⟩) n n) ∧ w' = w := by
  have hc := Part_cut g i n h hn w
  go_enter Tryz.func141, Tryz.ntmps141
  go_wp2_with (refine wpList_sliceAt 130 (.tmp 8) (some (.tmp 9)) (some (.tmp 12)) (some (.tmp 15)) (v := .slice (some ⟨g, i, none⟩) n n) (w' := w) rfl rfl ?_ ?_; exact hc)
  go_ret
  exact ⟨rfl, rfl⟩
end Go.Proofs.YteebjgfalllbjaaGreatDoor
namespace Go.Proofs.YteebjgfalllbjaaGreatDoor
open Go.RowKit

/-- A sector's share of a record's body; the body as far as it is read. -/
def prt (cs : List Value) (i : Nat) : List Value := (cs.drop (i * 32 + 1)).take 31
def prts (cs : List Value) (i : Nat) : List Value := ((List.range i).map (prt cs)).flatten
def rdB (cs : List Value) (i : Nat) : List Value := prts cs i ++ List.replicate (124 - i * 31) (Value.int .u8 0)
theorem prt_len (cs : List Value) (hl : cs.length = 128) (i : Nat) (h : i < 4) : (prt cs i).length = 31 := by simp [prt, hl]; omega
theorem prts_succ (cs : List Value) (i : Nat) : prts cs (i + 1) = prts cs i ++ prt cs i := by simp [prts, List.range_succ]
theorem prts_len (cs : List Value) (hl : cs.length = 128) (i : Nat) (h : i ≤ 4) : (prts cs i).length = i * 31 := by
  induction i with
  | zero => rfl
  | succ i ih => rw [prts_succ, List.length_append, ih (by omega), prt_len cs hl i (by omega)]; omega
theorem rdB_len (cs : List Value) (hl : cs.length = 128) (i : Nat) (h : i ≤ 4) : (rdB cs i).length = 124 := by
  rw [rdB, List.length_append, prts_len cs hl i h, List.length_replicate]; omega
theorem rdB_step (cs : List Value) (hl : cs.length = 128) (i : Nat) (h : i < 4) : (rdB cs i).take (i * 31) ++ (prt cs i ++ (rdB cs i).drop (i * 31 + (prt cs i).length)) = rdB cs (i + 1) := by
  have hp := prts_len cs hl i (by omega)
  rw [prt_len cs hl i h, rdB, rdB, prts_succ, ← hp, List.take_left, List.drop_append, hp, List.drop_eq_nil_of_le (by omega), List.nil_append, List.append_assoc, List.drop_replicate]
  congr 3
  omega
theorem prt_one (cs : List Value) (h1 : ∀ v ∈ cs, v.oneCell' = true) (i : Nat) : ∀ v ∈ prt cs i, v.oneCell' = true := fun v hv => h1 v (List.mem_of_mem_drop (List.mem_of_mem_take hv))
theorem rdB_one (cs : List Value) (h1 : ∀ v ∈ cs, v.oneCell' = true) (i : Nat) : ∀ v ∈ rdB cs i, v.oneCell' = true := fun v hv => by
  simp only [rdB, prts, List.mem_append, List.mem_flatten, List.mem_map, List.mem_replicate] at hv
  rcases hv with ⟨x, ⟨j, _, rfl⟩, hx⟩ | ⟨_, rfl⟩
  · exact prt_one cs h1 j v hx
  · rfl
theorem body_size : (Tryz.prog.info? 182).map (·.size) = some 124 := by kernel_rfl
def RcI (cs : List Value) (w : World) (i : Nat) (wr : World) : Prop := wr.heap[w.heap.size]? = some (.cells cs.toArray 130 (0, 0)) ∧ wr.heap[w.heap.size + 1]? = some (.cells (rdB cs 0).toArray 182 (0, 0)) ∧ wr.heap[w.heap.size + 1 + 1]? = some (.cells (rdB cs i).toArray 182 (0, 0)) ∧ Fr (fun _ => False) w wr
set_option maxRecDepth 100000 in
set_option maxHeartbeats 1000000 in
theorem rcread_ok (w : World) (cs : List Value) (hl : cs.length = 128) (h1 : ∀ v ∈ cs, v.oneCell' = true) :
    Calls Tryz.prog 164 #[.agg cs.toArray] w fun e w' => e = .returned (.agg (rdB cs 4).toArray) ∧ Fr (fun _ => False) w w' := by
  have H1 : Hid (∀ v ∈ cs, v.oneCell' = true) := h1
  clear h1
  have HI : Hid (RcI cs w 0 (((w.alloc (.cells cs.toArray 130)).alloc (.cells (rdB cs 0).toArray 182)).alloc (.cells (rdB cs 0).toArray 182))) :=
    ⟨by rw [heap_alloc_lt _ _ _ (by simp; omega), heap_alloc_lt _ _ _ (by simp)]; exact heap_alloc_at _ _, by rw [heap_alloc_lt _ _ _ (by simp)]; exact heap_alloc2_new w _ _, by
      have := heap_alloc_at ((w.alloc (.cells cs.toArray 130)).alloc (.cells (rdB cs 0).toArray 182)) (.cells (rdB cs 0).toArray 182)
      simpa using this, (((Fr.refl _ _).alloc _).alloc _).alloc _⟩
  go_enter Tryz.func164, Tryz.ntmps164
  go_wp2
  go_loopw [5] (fun c wr => ∃ i : Nat, i ≤ 4 ∧ c = .int .i64 i ∧ Hid (RcI cs w i wr)) (fun c _ => 4 - (intOf c).toNat)
  case atStart => exact ⟨0, by omega, rfl, HI⟩
  case round =>
    obtain ⟨i, hi, rfl, HR⟩ := hrel
    by_cases hlt : i < 4
    · have hlt' : (i : Int) < 4 := by omega
      have hB : ∀ w2, Calls Tryz.prog 97 #[.pointer (some ⟨w.heap.size + 1 + 1, 0, none⟩), .int .i64 ((i : Int) * 31), .int .i64 31] w2 fun e w' => e = .returned (.slice (some ⟨w.heap.size + 1 + 1, i * 31, none⟩) 31 31) ∧ w' = w2 := fun w2 => by
        have := bpart_ok w2 (w.heap.size + 1 + 1) (i * 31) 31 (by omega) (by omega)
        push_cast at this
        exact this
      have hP : ∀ w2, Calls Tryz.prog 141 #[.pointer (some ⟨w.heap.size, 0, none⟩), .int .i64 ((i : Int) * 32 + 1), .int .i64 31] w2 fun e w' => e = .returned (.slice (some ⟨w.heap.size, i * 32 + 1, none⟩) 31 31) ∧ w' = w2 := fun w2 => by
        have := Part_ok w2 w.heap.size (i * 32 + 1) 31 (by omega) (by omega)
        push_cast at this
        exact this
      go_wp2_with fail
      refine (hB _).mono ?_
      rintro e w' ⟨rfl, rfl⟩
      go_wp2_with fail
      refine (hP _).mono ?_
      rintro e w'' ⟨rfl, rfl⟩
      clear hB hP
      have hlp := prt_len cs hl i hlt
      go_wp2_with (first | (refine wpList_copy_to rfl (.tmp 10) (.tmp 14) 85 85 rfl 5 Tryz.underlying85 u8size (w.heap.size + 1 + 1) (i * 31) 31 31 ⟨w.heap.size, i * 32 + 1, none⟩ 31 31 rfl rfl (rdB cs i).toArray 182 HR.out.2.2.1 (prt cs i) ?_ ?_ ?_ ?_ (rdB cs (i + 1)) (rdB_step cs hl i hlt) ?_; (rw [hlp]; rfl); exact src_of_row HR.out.1 _ _; (rw [hlp, List.size_toArray, rdB_len cs hl i hi]; omega); exact prt_one cs H1.out i; intro w2 HW2))
      have HN : Hid (RcI cs w (i + 1) w2) := by
        have hr := HR.out
        refine ⟨?_, ?_, ?_, ?_⟩
        · rw [HW2.out, setRow_other _ _ _ _ (by omega)]; exact hr.1
        · rw [HW2.out, setRow_other _ _ _ _ (by omega)]; exact hr.2.1
        · rw [HW2.out]; exact setRow_heap _ _ _ _ _ _ hr.2.2.1
        · rw [HW2.out]; exact hr.2.2.2.setRow _ (fun h => by omega) _
      clear HW2 HR
      go_roundw
      case rel => exact ⟨i + 1, by omega, by go_num, HN⟩
      case measure => simp [intOf]; omega
    · obtain rfl : i = 4 := by omega
      have hM1 : wr.rangeAt (w.heap.size + 1 + 1) 0 (rdB cs 4) := fun j v hv => (cell_of_row wr _ (0 + j) _ _ _ HR.out.2.2.1).trans (by simpa using hv)
      have hst := run_storeAt_row (P := Tryz.prog) (o := 0) (ty := 182) (vs := rdB cs 4) HR.out.2.1 (by rw [rdB_len cs hl 4 (by omega), rdB_len cs hl 0 (by omega)]; omega) (rdB_one cs H1.out 4) (by rw [body_size, rdB_len cs hl 4 (by omega)])
      rw [show splice (rdB cs 0) 0 (rdB cs 4) = rdB cs 4 from by simp [splice, rdB_len cs hl 4, rdB_len cs hl 0]] at hst
      have hRE := setRow_heap wr (w.heap.size + 1) _ (rdB cs 4).toArray 182 (0, 0) HR.out.2.1
      obtain ⟨WE, HWE⟩ : ∃ WE, Hid (WE = wr.setRow (w.heap.size + 1) (rdB cs 4).toArray) := ⟨_, rfl⟩
      have HFE : Hid (Fr (fun _ => False) w WE) := by rw [HWE.out]; exact HR.out.2.2.2.setRow _ (fun h => by omega) _
      rw [← HWE.out] at hst hRE
      clear HWE
      go_wp2_with (first | (refine wpList_load_mid rfl 182 (.tmp 3) rfl (w.heap.size + 1 + 1) 0 ?_ (rdB cs 4) _ hM1 Tryz.underlying182 rfl ?_ ?_; rfl; (rw [body_size, rdB_len cs hl 4 (by omega)])) | (refine wpList_store 182 (w' := WE) _ _ rfl rfl ?_ ?_; exact hst))
      refine bodyPost_ret (v := .agg (rdB cs 4).toArray) (results_cell_row Tryz.results164 _ _ (w.heap.size + 1) 182 _ (0, 0) _ rfl hRE Tryz.underlying182 rfl (by rw [body_size]; simp [rdB_len cs hl 4])) rfl ⟨rfl, HFE.out⟩
end Go.Proofs.YteebjgfalllbjaaGreatDoor
