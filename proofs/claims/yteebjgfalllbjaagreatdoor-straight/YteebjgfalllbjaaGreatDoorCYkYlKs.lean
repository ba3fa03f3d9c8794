import Derived.Test.YteebjgfalllbjaaGreatDoorCKhYdYj
import Derived.Test.YteebjgfalllbjaaGreatDoorCKfKgZv
import Derived.BigRegion
import Derived.Test.YteebjgfalllbjaaGreatDoorCKeKrZs
namespace Go.Proofs.YteebjgfalllbjaaGreatDoor
open Go.RowKit
section
variable {w : World} {A B n : Nat} {cache : Value} {d : DP}
theorem Pending_gen {ao : Option Addr} {k c : Nat} (h : DkAt w A B n (.slice ao k c) d) : Calls Tryz.prog 34 #[.pointer (some ⟨A, 0, none⟩)] w fun e w' => e = .returned (.int .i64 k) ∧ w' = w := by
 have c1 := h.c1
 go_enter Tryz.func34, Tryz.ntmps34
 go_wp2
 go_ret
 exact ⟨rfl, rfl⟩
end
end Go.Proofs.YteebjgfalllbjaaGreatDoor
namespace Go.Proofs.YteebjgfalllbjaaGreatDoor
open Go.RowKit
set_option maxRecDepth 100000 in
set_option maxHeartbeats 4000000 in
theorem Bad_gen {w : World} {A B n : Nat} {cache : Value} {d : DP} (h : DkAt w A B n cache d) (h0 : 0 ≤ d.calls) (h1 : d.calls < 1000000000) (a k : Int) (ha : 0 ≤ a) (ha1 : a ≤ 1000) (hk : 0 ≤ k) (hk1 : k ≤ 1000) :
  Calls Tryz.prog 31 #[.pointer (some ⟨A, 0, none⟩), .int .i64 a, .int .i64 k] w fun e w' => e = .returned (.tuple #[]) ∧ DkAt w' A B n cache { d with lo := d.calls + a, hi := d.calls + a + k } ∧ Fr (· = A) w w' := by
 have c2 : w.cell? ⟨A, 2, none⟩ = some (.int .i64 d.calls) := h.c rfl
 have c6 : w.cell? ⟨A, 6, none⟩ = some (.int .i64 d.lo) := h.c rfl
 have c7 : w.cell? ⟨A, 7, none⟩ = some (.int .i64 d.hi) := h.c rfl
 have f6 := h.fz 6
 have f7 := h.fz 7
 have HD : Hid (DkAt w A B n cache d) := h
 clear h
 go_enter Tryz.func31, Tryz.ntmps31
 go_wp2
 go_region
 go_end0
 exact ⟨rfl, ((HD.out.set6 (d.calls + a)).set7 (d.calls + a + k)).drew, ((Fr.set1 _ _ _ _).trans (Fr.set1 _ _ _ _) (fun _ _ h => h)).drew⟩
end Go.Proofs.YteebjgfalllbjaaGreatDoor
namespace Go.Proofs.YteebjgfalllbjaaGreatDoor
open Go.RowKit
def cnF (m : List (Int × Bool)) : Nat := (m.filter (fun p => !p.2)).length
def cnT (m : List (Int × Bool)) : Nat := (m.filter (fun p => p.2)).length
theorem cn_snoc (m : List (Int × Bool)) (x : Int) (b : Bool) : cnF (m ++ [(x, b)]) = cnF m + (if b then 0 else 1) ∧ cnT (m ++ [(x, b)]) = cnT m + (if b then 1 else 0) := by
 cases b <;> simp [cnF, cnT]
theorem cn_le (m : List (Int × Bool)) : cnF m ≤ m.length ∧ cnT m ≤ m.length := ⟨List.length_filter_le _ _, List.length_filter_le _ _⟩
theorem mine_le (id : Int) (eff : List CL) : (mine id eff).length ≤ eff.length := by
 unfold mine
 rw [List.length_map]
 exact List.length_filter_le _ _
theorem cn_shape {m : List (Int × Bool)} {n k j : Nat} (h : Shape m n k j) : cnF m = k ∧ cnT m = k - j := by
 obtain ⟨rfl, _⟩ := h
 have u1 : ∀ k, (upL k).filter (fun p => !p.2) = upL k := fun k => List.filter_eq_self.2 fun p hp => by
  obtain ⟨x, b⟩ := p
  rw [(mem_upL.1 hp).1]; rfl
 have u2 : ∀ k, (upL k).filter (fun p => p.2) = [] := fun k => List.filter_eq_nil_iff.2 fun p hp => by
  obtain ⟨x, b⟩ := p
  rw [(mem_upL.1 hp).1]; simp
 have d1 : (dnL k j).filter (fun p => !p.2) = [] := List.filter_eq_nil_iff.2 fun p hp => by
  obtain ⟨x, b⟩ := p
  rw [(mem_dnL.1 hp).1]; simp
 have d2 : (dnL k j).filter (fun p => p.2) = dnL k j := List.filter_eq_self.2 fun p hp => by
  obtain ⟨x, b⟩ := p
  rw [(mem_dnL.1 hp).1]
 constructor
 ·rw [cnF, List.filter_append, u1, d1, List.append_nil]; simp [upL]
 ·rw [cnT, List.filter_append, u2, d2]; simp [dnL]
def reachB (s : ST) (m : List (Int × Bool)) : Bool := if s.state = 3 then decide ((cnF m : Int) = s.steps ∧ cnT m = 0) else decide (s.state ≠ 4 ∨ (cnF m = cnT m ∧ (cnF m : Int) < s.steps))
set_option maxRecDepth 100000 in
set_option maxHeartbeats 4000000 in
theorem kReached_ok {w : World} {Pp : Nat} {lg l : Value} {ea : Option Addr} {ec : Nat} {at' : Int} {eff : List CL} (s : ST) (h : w.heap[Pp]? = some (.cells #[lg, .slice ea eff.length ec, l, .int .i64 at'] 48 (0, 0))) (hl : RowsOf w ea 4 (eff.map CL.cs)) (hn : eff.length ≤ 1000000) :
  Calls Tryz.prog 26 #[.pointer (some ⟨Pp, 0, none⟩), .agg s.cs.toArray] w fun e w' => e = .returned (.bool (reachB s (mine s.id eff))) ∧ Fr (fun _ => False) w w' := by
 obtain ⟨sid, s1, s2, sn, st, sd⟩ := s
 obtain ⟨W, HW⟩ : ∃ W, Hid (W = w.alloc (.cells #[.int .i64 sid, .int .i64 s1, .int .i64 s2, .int .i64 sn, .int .i64 st, .int .i64 sd] 42)) := ⟨_, rfl⟩
 have hfa : Fr (fun _ => False) w W := by rw [HW.out]; exact (Fr.refl _ _).alloc _
 have hbx : W.heap[w.heap.size]? = some (.cells #[.int .i64 sid, .int .i64 s1, .int .i64 s2, .int .i64 sn, .int .i64 st, .int .i64 sd] 42 (0, 0)) := by rw [HW.out]; exact heap_alloc_at _ _
 obtain ⟨N, hN⟩ : ∃ N, N = eff.length := ⟨_, rfl⟩
 rw [← hN] at h hn
 obtain ⟨B, hB⟩ : ∃ B, B = w.heap.size := ⟨_, rfl⟩
 rw [← hB] at hbx
 have HF : Hid (Fr (fun _ => False) w W ∧ W.heap[B]? = some (.cells #[.int .i64 sid, .int .i64 s1, .int .i64 s2, .int .i64 sn, .int .i64 st, .int .i64 sd] 42 (0, 0)) ∧ RowsOf w ea 4 (eff.map CL.cs) ∧ W.heap[Pp]? = some (.cells #[lg, .slice ea N ec, l, .int .i64 at'] 48 (0, 0)) ∧ N = eff.length) := ⟨hfa, hbx, hl, hfa.keep h (fun h => h), hN⟩
 have HBB : Hid (w.heap.size = B) := hB.symm
 clear hfa hbx hl h hN hB
 unfold ST.cs
 go_enter Tryz.func26, Tryz.ntmps26
 go_wp2
 rw [← HW.out, HBB.out] at *
 clear HW
 go_loopw [5, 6, 7] (fun tv bk c wr => ∃ i : Nat, i ≤ N ∧ c = .int .i64 i ∧ tv = .int .i64 (cnF (mine sid (eff.take i))) ∧ bk = .int .i64 (cnT (mine sid (eff.take i))) ∧ Hid (Fr (fun _ => False) W wr)) (fun _ _ c _ => N - (intOf c).toNat)
 case atStart => exact ⟨0, Nat.zero_le _, rfl, rfl, rfl, Fr.refl _ _⟩
 case round =>
  obtain ⟨i, hi, rfl, rfl, rfl, HR⟩ := hrel
  have p1 : wr.cell? ⟨Pp, 1, none⟩ = some (.slice ea N ec) := (cell_of_row _ Pp 1 _ _ _ (HR.out.keep HF.out.2.2.2.1 (fun h => h))).trans rfl
  have hbw := HR.out.keep HF.out.2.1 (fun h => h)
  have b0 : wr.cell? ⟨B, 0, none⟩ = some (.int .i64 sid) := (cell_of_row _ B 0 _ _ _ hbw).trans rfl
  have b1 : wr.cell? ⟨B, 1, none⟩ = some (.int .i64 s1) := (cell_of_row _ B 1 _ _ _ hbw).trans rfl
  have b3 : wr.cell? ⟨B, 3, none⟩ = some (.int .i64 sn) := (cell_of_row _ B 3 _ _ _ hbw).trans rfl
  have hcl : (cnF (mine sid (eff.take i)) : Int) ≤ 1000000 ∧ (cnT (mine sid (eff.take i)) : Int) ≤ 1000000 := by
   have h1 := cn_le (mine sid (eff.take i))
   have h2 := mine_le sid (eff.take i)
   rw [List.length_take] at h2
   omega
  clear hbw
  by_cases hlt : i < N
  ·have hlt' : (i : Int) < N := by omega
   obtain ⟨c, hc⟩ : ∃ c, eff[i]? = some c := ⟨_, List.getElem?_eq_getElem (by rw [← HF.out.2.2.2.2]; exact hlt)⟩
   obtain ⟨g, off, rfl, hr⟩ := HF.out.2.2.1 i c.cs (by simp [hc])
   have hF2 := HF.out.1.trans HR.out (fun _ _ h => h)
   have c0 : wr.cell? ⟨g, off + i * 4, none⟩ = some (.int .i64 c.saga) := hF2.cell (hr 0 _ rfl) (fun h => h)
   have c2 : wr.cell? ⟨g, off + i * 4 + 2, none⟩ = some (.bool c.back) := hF2.cell (hr 2 _ rfl) (fun h => h)
   have HM : Hid (mine sid (eff.take (i + 1)) = if c.saga = sid then mine sid (eff.take i) ++ [(c.step, c.back)] else mine sid (eff.take i)) := by
    show _ = _
    rw [List.take_add_one, hc]
    exact mine_snoc _ _ _
   have HCN := cn_snoc (mine sid (eff.take i)) c.step c.back
   have HC2 : Hid (cnF (mine sid (eff.take i) ++ [(c.step, c.back)]) = cnF (mine sid (eff.take i)) + (if c.back then 0 else 1) ∧ cnT (mine sid (eff.take i) ++ [(c.step, c.back)]) = cnT (mine sid (eff.take i)) + (if c.back then 1 else 0)) := HCN
   clear hc hr hF2 HCN
   obtain ⟨nf, hnf⟩ : ∃ nf, cnF (mine sid (eff.take i)) = nf := ⟨_, rfl⟩
   obtain ⟨nt, hnt⟩ : ∃ nt, cnT (mine sid (eff.take i)) = nt := ⟨_, rfl⟩
   rw [hnf, hnt] at HC2 hcl ⊢
   have HNN : Hid (cnF (mine sid (eff.take i)) = nf ∧ cnT (mine sid (eff.take i)) = nt) := ⟨hnf, hnt⟩
   clear hnf hnt
   obtain ⟨hcl1, hcl2⟩ := hcl
   have ef : wrap64 ((nf : Int) + 1) = (nf : Int) + 1 := by unfold wrap64; omega
   have et : wrap64 ((nt : Int) + 1) = (nt : Int) + 1 := by unfold wrap64; omega
   by_cases hid : c.saga = sid
   ·cases hbk : c.back
    ·have HB2 : Hid (c.back = false) := hbk
     rw [hbk] at c2
     clear hbk
     have HID : Hid (c.saga = sid) := hid
     go_wp2
     refine wp_region_still_lit (by kernel_rfl) (by kernel_rfl) (Bx.out ?_)
     repeat (refine bx_step (fun K hK => ?_); go_simp; refine hK _ ?_; clear hK K)
     refine bx_nil ?_
     obtain ⟨W2, HW2⟩ : ∃ W2, Hid (W2 = wr.drew) := ⟨_, rfl⟩
     rw [show ({ heap := wr.heap, tape := wr.tape, drawn := wr.drawn + 1, os := wr.os, output := wr.output } : World) = W2 from HW2.out.symm]
     have hfW2 : Fr (fun _ => False) wr W2 := by rw [HW2.out]; exact (Fr.refl _ _).drew
     have HRW2 : Hid (Fr (fun _ => False) W W2) := HR.out.trans hfW2 (fun _ _ h => h)
     replace p1 := hfW2.cell p1 (fun h => h)
     replace b0 := hfW2.cell b0 (fun h => h)
     replace c0 := hfW2.cell c0 (fun h => h)
     clear hfW2 HW2 b1 b3 c2
     go_wp2
     refine wp_region_still_lit (by kernel_rfl) (by kernel_rfl) (Bx.out ?_)
     repeat (refine bx_step (fun K hK => ?_); go_simp; refine hK _ ?_; clear hK K)
     refine bx_nil ?_
     obtain ⟨W3, HW3⟩ : ∃ W3, Hid (W3 = W2.drew) := ⟨_, rfl⟩
     rw [show ({ heap := W2.heap, tape := W2.tape, drawn := W2.drawn + 1, os := W2.os, output := W2.output } : World) = W3 from HW3.out.symm]
     have hfW3 : Fr (fun _ => False) W2 W3 := by rw [HW3.out]; exact (Fr.refl _ _).drew
     have HRW3 : Hid (Fr (fun _ => False) W W3) := HRW2.out.trans hfW3 (fun _ _ h => h)
     clear hfW3 HW3 p1 b0 c0
     go_wp2
     go_roundw
     case rel =>
      exact ⟨i + 1, by omega, by go_num, by rw [HM.out, if_pos HID.out, HC2.out.1, HB2.out]; push_cast; rfl, by rw [HM.out, if_pos HID.out, HC2.out.2, HB2.out]; rfl, HRW3⟩
     case measure => simp [intOf]; omega
    ·have HB2 : Hid (c.back = true) := hbk
     rw [hbk] at c2
     clear hbk
     have HID : Hid (c.saga = sid) := hid
     go_wp2
     refine wp_region_still_lit (by kernel_rfl) (by kernel_rfl) (Bx.out ?_)
     repeat (refine bx_step (fun K hK => ?_); go_simp; refine hK _ ?_; clear hK K)
     refine bx_nil ?_
     obtain ⟨W2, HW2⟩ : ∃ W2, Hid (W2 = wr.drew) := ⟨_, rfl⟩
     rw [show ({ heap := wr.heap, tape := wr.tape, drawn := wr.drawn + 1, os := wr.os, output := wr.output } : World) = W2 from HW2.out.symm]
     have hfW2 : Fr (fun _ => False) wr W2 := by rw [HW2.out]; exact (Fr.refl _ _).drew
     have HRW2 : Hid (Fr (fun _ => False) W W2) := HR.out.trans hfW2 (fun _ _ h => h)
     clear hfW2 HW2 p1 b0 c0 b1 b3 c2
     go_wp2
     go_roundw
     case rel =>
      exact ⟨i + 1, by omega, by go_num, by rw [HM.out, if_pos HID.out, HC2.out.1, HB2.out]; rfl, by rw [HM.out, if_pos HID.out, HC2.out.2, HB2.out]; push_cast; rfl, HRW2⟩
     case measure => simp [intOf]; omega
   ·have HID : Hid (¬ c.saga = sid) := hid
    have hidb : (c.saga == sid) = false := by simpa using hid
    clear hid
    go_wp2
    refine wp_region_still_lit (by kernel_rfl) (by kernel_rfl) (Bx.out ?_)
    repeat (refine bx_step (fun K hK => ?_); go_simp; refine hK _ ?_; clear hK K)
    refine bx_nil ?_
    obtain ⟨W2, HW2⟩ : ∃ W2, Hid (W2 = wr.drew) := ⟨_, rfl⟩
    rw [show ({ heap := wr.heap, tape := wr.tape, drawn := wr.drawn + 1, os := wr.os, output := wr.output } : World) = W2 from HW2.out.symm]
    have hfW2 : Fr (fun _ => False) wr W2 := by rw [HW2.out]; exact (Fr.refl _ _).drew
    have HRW2 : Hid (Fr (fun _ => False) W W2) := HR.out.trans hfW2 (fun _ _ h => h)
    replace p1 := hfW2.cell p1 (fun h => h)
    replace b0 := hfW2.cell b0 (fun h => h)
    replace c0 := hfW2.cell c0 (fun h => h)
    clear hfW2 HW2 b1 b3 c2
    go_wp2
    refine wp_region_still_lit (by kernel_rfl) (by kernel_rfl) (Bx.out ?_)
    repeat (refine bx_step (fun K hK => ?_); go_simp; refine hK _ ?_; clear hK K)
    refine bx_nil ?_
    obtain ⟨W3, HW3⟩ : ∃ W3, Hid (W3 = W2.drew) := ⟨_, rfl⟩
    rw [show ({ heap := W2.heap, tape := W2.tape, drawn := W2.drawn + 1, os := W2.os, output := W2.output } : World) = W3 from HW3.out.symm]
    have hfW3 : Fr (fun _ => False) W2 W3 := by rw [HW3.out]; exact (Fr.refl _ _).drew
    have HRW3 : Hid (Fr (fun _ => False) W W3) := HRW2.out.trans hfW3 (fun _ _ h => h)
    clear hfW3 HW3 p1 b0 c0
    go_wp2
    go_roundw
    case rel =>
     exact ⟨i + 1, by omega, by go_num, by rw [HM.out, if_neg HID.out, HNN.out.1], by rw [HM.out, if_neg HID.out, HNN.out.2], HRW3⟩
    case measure => simp [intOf]; omega
  ·have hiN : i = N := by omega
   have he : mine sid (eff.take i) = mine sid eff := by rw [hiN, HF.out.2.2.2.2, List.take_length]
   have HFF : Hid (Fr (fun _ => False) w wr) := HF.out.1.trans HR.out (fun _ _ h => h)
   rw [he] at hcl ⊢
   clear he
   obtain ⟨nf, hnf⟩ : ∃ nf, cnF (mine sid eff) = nf := ⟨_, rfl⟩
   obtain ⟨nt, hnt⟩ : ∃ nt, cnT (mine sid eff) = nt := ⟨_, rfl⟩
   rw [hnf, hnt]
   have HNN : Hid (cnF (mine sid eff) = nf ∧ cnT (mine sid eff) = nt) := ⟨hnf, hnt⟩
   clear hnf hnt hcl
   by_cases hs3 : s1 = 3
   ·subst hs3
    have HRB : Hid (reachB ⟨sid, 3, s2, sn, st, sd⟩ (mine sid eff) = decide ((nf : Int) = sn ∧ nt = 0)) := by show reachB _ _ = _; rw [reachB, if_pos rfl, HNN.out.1, HNN.out.2]
    by_cases h1 : (nf : Int) = sn
    ·have h1b : ((nf : Int) == sn) = true := by simpa using h1
     by_cases h2 : nt = 0
     ·subst h2
      go_wp2
      go_ret
      refine ⟨?_, HFF.out⟩
      rw [HRB.out, decide_eq_true (by simp [h1])]
      rfl
     ·have h2b : ((nt : Int) == 0) = false := by simpa using h2
      go_wp2
      go_ret
      refine ⟨?_, HFF.out⟩
      rw [HRB.out, decide_eq_false (fun h => h2 h.2)]
      rfl
    ·have h1b : ((nf : Int) == sn) = false := by simpa using h1
     go_wp2
     go_ret
     refine ⟨?_, HFF.out⟩
     rw [HRB.out, decide_eq_false (fun h => h1 h.1)]
     rfl
   ·have hs3b : (s1 == 3) = false := by simpa using hs3
    by_cases hs4 : s1 = 4
    ·subst hs4
     have HRB : Hid (reachB ⟨sid, 4, s2, sn, st, sd⟩ (mine sid eff) = decide (nf = nt ∧ (nf : Int) < sn)) := by show reachB _ _ = _; rw [reachB, if_neg (show ¬ (4 : Int) = 3 by decide), HNN.out.1, HNN.out.2]; simp
     by_cases h1 : nf = nt
     ·subst h1
      by_cases h2 : (nf : Int) < sn
      ·go_wp2
       go_ret
       refine ⟨?_, HFF.out⟩
       rw [HRB.out, decide_eq_true (by simp [h2])]
       rfl
      ·have h2b : decide ((nf : Int) < sn) = false := by simpa using h2
       go_wp2
       go_ret
       refine ⟨?_, HFF.out⟩
       rw [HRB.out, decide_eq_false (fun h => by have := h.2; omega)]
       rfl
     ·have h1b : ((nf : Int) == nt) = false := by simp; omega
      go_wp2
      go_ret
      refine ⟨?_, HFF.out⟩
      rw [HRB.out, decide_eq_false (fun h => h1 h.1)]
      rfl
    ·have HRB : Hid (reachB ⟨sid, s1, s2, sn, st, sd⟩ (mine sid eff) = true) := by show reachB _ _ = _; rw [reachB, if_neg hs3]; exact decide_eq_true (.inl hs4)
     have hs4b : (s1 == 4) = false := by simpa using hs4
     go_wp2
     go_ret
     refine ⟨?_, HFF.out⟩
     rw [HRB.out]
     rfl
end Go.Proofs.YteebjgfalllbjaaGreatDoor
