import Derived.Test.YteebjgfalllbjaaGreatDoorCFlushRjLs
import Derived.Test.YteebjgfalllbjaaGreatDoorCReadBsWrite
namespace Go.Proofs.YteebjgfalllbjaaGreatDoor
open Go.RowKit

theorem row_step {w : World} {g : Nat} {l : List SS} {t : TypeId} (h : w.heap[g]? = some (.cells (scells l).toArray t (0, 0))) {i : Nat} {p : SS} (hp : l[i]? = some p) : w.cell? ⟨g, i * 2, none⟩ = some (.string p.1) ∧ w.cell? ⟨g, i * 2 + 1, none⟩ = some (.string p.2) := by
  have hl : ∀ x ∈ l.map stv, x.length = 2 := fun x hx => by simp only [List.mem_map] at hx; obtain ⟨r, _, rfl⟩ := hx; rfl
  have h0 := pieces_at 2 (l.map stv) hl i (stv p) (by simp [hp]) 0 (.string p.1) rfl
  have h1 := pieces_at 2 (l.map stv) hl i (stv p) (by simp [hp]) 1 (.string p.2) rfl
  exact ⟨by rw [cell_of_row w g _ _ _ _ h]; simpa [scells] using h0, by rw [cell_of_row w g _ _ _ _ h]; simpa [scells] using h1⟩
def gone : SS := (strGone, strGone)
theorem cut_all (g n : Nat) (W : World) : (Instr.sliceAt 38 (.slice (some ⟨g, 0, none⟩) n (n + 2)) none (some (.int .i64 ((n : Int) + 2))) none).run Tryz.prog W = .ok (.slice (some ⟨g, 0, none⟩) (n + 2) (n + 2)) W := by
  have he : Tryz.prog.underlying 38 = some (.slice (Tryz.prog.elem 38)) := by kernel_rfl
  have hs : (sizeOf (Tryz.prog.elem 38)).run Tryz.prog W = .ok 2 W := by kernel_rfl
  rw [run_sliceAt_slice W 38 _ _ _ _ he, run_slice_h W 38 _ n (n + 2) he .i64 _ (by omega) (by omega), hs]
  have : ((n : Int) + 2).toNat = n + 2 := by omega
  simp [sliced, this, Addr.add]
def StillQ (g : Nat) (w : World) (e : Ending) (w' : World) : Prop := e = .returned (.bool true) ∧ Fr (· = g) w w'
set_option maxRecDepth 100000 in
set_option maxHeartbeats 4000000 in
theorem still_ok {w : World} {ao : Option Addr} {cap g : Nat} {st : List SS} (hl : RowsOf w ao 2 (st.map stv)) (hn : st.length ≤ 1000000) (hg : w.heap[g]? = some (.cells (scells (st ++ [bey, bey])).toArray 58 (0, 0))) :
    Calls Tryz.prog 124 #[.slice (some ⟨g, 0, none⟩) st.length (st.length + 2), .slice ao st.length cap] w fun e w' => StillQ g w e w' := by
  have HL : Hid (RowsOf w ao 2 (st.map stv)) := hl
  have HG : Hid (w.heap[g]? = some (.cells (scells (st ++ [bey, bey])).toArray 58 (0, 0))) := hg
  have b0 : w.cell? ⟨g, st.length * 2, none⟩ = some (.string strBeyond) := (row_step hg (i := st.length) (p := bey) (by simp)).1
  have b1 : w.cell? ⟨g, (st.length + 1) * 2, none⟩ = some (.string strBeyond) := (row_step hg (i := st.length + 1) (p := bey) (by simp)).1
  have sB : strBeyond.toList = [98, 101, 121, 111, 110, 100] := by rw [ByteArray.toList_eq]; rfl
  have hcut := cut_all g st.length
  have hb1 : ¬ (st.length : Int) + 2 < 0 := by omega
  have hb2 : (st.length : Int) < (st.length : Int) + 2 := by omega
  have hb3 : (st.length : Int) + 1 < (st.length : Int) + 2 := by omega
  clear hl hg
  go_enter Tryz.func124, Tryz.ntmps124
  go_wp2_with (refine wpList_sliceAt 38 _ _ _ _ rfl rfl (by exact hcut _) ?_)
  clear b0 b1 sB hcut hb3
  go_loopw [7, 8] (fun q c wr => ∃ i : Nat, i ≤ st.length ∧ q = .bool true ∧ c = .int .i64 i ∧ Hid (Fr (fun _ => False) w wr)) (fun _ c _ => st.length - (intOf c).toNat)
  case atStart => exact ⟨0, Nat.zero_le _, rfl, rfl, Fr.refl _ _⟩
  case round =>
    obtain ⟨i, hi, rfl, rfl, HR⟩ := hrel
    by_cases hlt : i < st.length
    · have hlt' : (i : Int) < st.length := by omega
      have hlt3 : (i : Int) < (st.length : Int) + 2 := by omega
      obtain ⟨p, hp⟩ : ∃ p, st[i]? = some p := ⟨_, List.getElem?_eq_getElem hlt⟩
      obtain ⟨g2, off, rfl, hr⟩ := HL.out i (stv p) (by simp [hp])
      have c0 : wr.cell? ⟨g2, off + i * 2, none⟩ = some (.string p.1) := HR.out.cell (hr 0 _ rfl) (fun h => h)
      have c1 : wr.cell? ⟨g2, off + i * 2 + 1, none⟩ = some (.string p.2) := HR.out.cell (hr 1 _ rfl) (fun h => h)
      obtain ⟨d0, d1⟩ := row_step (HR.out.keep HG.out (fun h => h)) (i := i) (p := p) (by rw [List.getElem?_append_left hlt]; exact hp)
      clear hr hp
      go_wp2
      refine wp_region_still_lit (by kernel_rfl) (by kernel_rfl) (Bx.out ?_)
      repeat (refine bx_step (fun K hK => ?_); go_simp; refine hK _ ?_; clear hK K)
      refine bx_nil ?_
      go_wp2
      go_roundw
      case rel => exact ⟨i + 1, by omega, rfl, by go_num, HR.out.drew⟩
      case measure => simp [intOf]; omega
    · have hlt' : ¬ (i : Int) < st.length := by omega
      have HJ : Hid (wr.heap[g]? = some (.cells (scells (List.replicate 0 gone ++ (st ++ [bey, bey]).drop 0)).toArray 58 (0, 0)) ∧ Fr (· = g) w wr) := ⟨by simpa using HR.out.keep HG.out (fun h => h), HR.out.mono (fun _ _ h => h.elim)⟩
      clear HR HL HG
      go_wp2
      go_loopw [9] (fun c wx => ∃ j : Nat, j ≤ st.length + 2 ∧ c = .int .i64 j ∧ Hid (wx.heap[g]? = some (.cells (scells (List.replicate j gone ++ (st ++ [bey, bey]).drop j)).toArray 58 (0, 0)) ∧ Fr (· = g) w wx)) (fun c _ => st.length + 2 - (intOf c).toNat)
      case atStart => exact ⟨0, Nat.zero_le _, rfl, HJ⟩
      case round =>
        obtain ⟨j, hj, rfl, HX⟩ := hrel
        by_cases hlt2 : j < st.length + 2
        · have hlt4 : (j : Int) < (st.length : Int) + 2 := by omega
          obtain ⟨q, hq⟩ : ∃ q, (st ++ [bey, bey])[j]? = some q := ⟨_, List.getElem?_eq_getElem (by simp; omega)⟩
          have hrow := HX.out.1
          have hd : (st ++ [bey, bey]).drop j = q :: (st ++ [bey, bey]).drop (j + 1) := by
            rw [List.drop_eq_getElem_cons (by simp; omega)]
            rw [List.getElem?_eq_getElem (by simp; omega)] at hq
            simp only [Option.some.injEq] at hq
            rw [hq]
          rw [hd] at hrow
          have hst := run_store_step (i := j) gone hrow (by simp)
          have hrow' := setRow_heap wr g _ (scells (List.replicate j gone ++ gone :: (st ++ [bey, bey]).drop (j + 1))).toArray 58 (0, 0) hrow
          have e0 : List.replicate j gone ++ gone :: (st ++ [bey, bey]).drop (j + 1) = List.replicate (j + 1) gone ++ (st ++ [bey, bey]).drop (j + 1) := by rw [List.replicate_succ']; simp
          obtain ⟨W3, HW3⟩ : ∃ W3, Hid (W3 = wr.setRow g (scells (List.replicate j gone ++ gone :: (st ++ [bey, bey]).drop (j + 1))).toArray) := ⟨_, rfl⟩
          have HN : Hid (W3.heap[g]? = some (.cells (scells (List.replicate (j + 1) gone ++ (st ++ [bey, bey]).drop (j + 1))).toArray 58 (0, 0)) ∧ Fr (· = g) w W3) := ⟨by rw [HW3.out, hrow', e0], by rw [HW3.out]; exact HX.out.2.setRow _ (fun _ => rfl) _⟩
          rw [← HW3.out] at hst
          clear hrow hrow' e0 HW3 hq hd
          go_wp2_with (refine wpList_store 58 (w' := W3) _ _ rfl rfl ?_ ?_; exact hst)
          go_roundw
          case rel => exact ⟨j + 1, by omega, by go_num, HN⟩
          case measure => simp [intOf]; omega
        · have hlt4 : ¬ (j : Int) < (st.length : Int) + 2 := by omega
          go_wp2
          go_ret
          exact ⟨rfl, HX.out.2⟩
end Go.Proofs.YteebjgfalllbjaaGreatDoor
namespace Go.Proofs.YteebjgfalllbjaaGreatDoor
open Go.RowKit

/-- The cells of a disk of the script. -/
def lc (A Pp n : Nat) (nn : Bool) (x : Value) (pause clock : Int) (Lv : Value) : Array Value :=
  #[.pointer (some ⟨A, 0, none⟩), .pointer (some ⟨Pp, 0, none⟩), .int .i64 n, .bool nn, .bool false, x, .int .i64 pause, .int .i64 clock, .bool false, Lv]
def LawAt (w : World) (D A Pp n : Nat) (nn : Bool) (x : Value) (pause clock : Int) (Lv : Value) : Prop := w.heap[D]? = some (.cells (lc A Pp n nn x pause clock Lv) 111 (0, 0))
/-- A partner whose log is empty. -/
def PartAt (w : World) (Pp : Nat) (l : Value) : Prop := w.heap[Pp]? = some (.cells #[.slice none 0 0, .slice none 0 0, l, .int .i64 0] 48 (0, 0))
section
variable {w w' : World} {D A Pp n : Nat} {nn : Bool} {x Lv : Value} {pause clock : Int}
theorem LawAt.c (h : LawAt w D A Pp n nn x pause clock Lv) {i : Nat} {v : Value} (hi : (lc A Pp n nn x pause clock Lv)[i]? = some v) : w.cell? ⟨D, i, none⟩ = some v := (cell_of_row w D i _ _ _ h).trans hi
theorem LawAt.c0 (h : LawAt w D A Pp n nn x pause clock Lv) : w.cell? ⟨D, 0, none⟩ = some (.pointer (some ⟨A, 0, none⟩)) := h.c rfl
theorem LawAt.c1 (h : LawAt w D A Pp n nn x pause clock Lv) : w.cell? ⟨D, 1, none⟩ = some (.pointer (some ⟨Pp, 0, none⟩)) := h.c rfl
theorem LawAt.c2 (h : LawAt w D A Pp n nn x pause clock Lv) : w.cell? ⟨D, 2, none⟩ = some (.int .i64 n) := h.c rfl
theorem LawAt.c3 (h : LawAt w D A Pp n nn x pause clock Lv) : w.cell? ⟨D, 3, none⟩ = some (.bool nn) := h.c rfl
theorem LawAt.c4 (h : LawAt w D A Pp n nn x pause clock Lv) : w.cell? ⟨D, 4, none⟩ = some (.bool false) := h.c rfl
theorem LawAt.c5 (h : LawAt w D A Pp n nn x pause clock Lv) : w.cell? ⟨D, 5, none⟩ = some x := h.c rfl
theorem LawAt.c6 (h : LawAt w D A Pp n nn x pause clock Lv) : w.cell? ⟨D, 6, none⟩ = some (.int .i64 pause) := h.c rfl
theorem LawAt.c7 (h : LawAt w D A Pp n nn x pause clock Lv) : w.cell? ⟨D, 7, none⟩ = some (.int .i64 clock) := h.c rfl
theorem LawAt.c8 (h : LawAt w D A Pp n nn x pause clock Lv) : w.cell? ⟨D, 8, none⟩ = some (.bool false) := h.c rfl
theorem LawAt.c9 (h : LawAt w D A Pp n nn x pause clock Lv) : w.cell? ⟨D, 9, none⟩ = some Lv := h.c rfl
theorem LawAt.fz (h : LawAt w D A Pp n nn x pause clock Lv) (j : Nat) : w.frozen? ⟨D, j, none⟩ = false := frozen_of_row w D j _ _ h
theorem LawAt.set5 (h : LawAt w D A Pp n nn x pause clock Lv) (v : Value) : LawAt (w.setCell ⟨D, 5, none⟩ v) D A Pp n nn v pause clock Lv := heap_setCell_at w D 5 _ _ v h
theorem LawAt.set3 (h : LawAt w D A Pp n nn x pause clock Lv) (b : Bool) : LawAt (w.setCell ⟨D, 3, none⟩ (.bool b)) D A Pp n b x pause clock Lv := heap_setCell_at w D 3 _ _ _ h
theorem LawAt.set4 (h : LawAt w D A Pp n nn x pause clock Lv) : LawAt (w.setCell ⟨D, 4, none⟩ (.bool false)) D A Pp n nn x pause clock Lv := heap_setCell_at w D 4 _ _ _ h
theorem LawAt.set6 (h : LawAt w D A Pp n nn x pause clock Lv) (p : Int) : LawAt (w.setCell ⟨D, 6, none⟩ (.int .i64 p)) D A Pp n nn x p clock Lv := heap_setCell_at w D 6 _ _ _ h
theorem LawAt.set7 (h : LawAt w D A Pp n nn x pause clock Lv) (c : Int) : LawAt (w.setCell ⟨D, 7, none⟩ (.int .i64 c)) D A Pp n nn x pause c Lv := heap_setCell_at w D 7 _ _ _ h
theorem LawAt.set8 (h : LawAt w D A Pp n nn x pause clock Lv) : LawAt (w.setCell ⟨D, 8, none⟩ (.bool false)) D A Pp n nn x pause clock Lv := heap_setCell_at w D 8 _ _ _ h
theorem LawAt.set9 (h : LawAt w D A Pp n nn x pause clock Lv) (v : Value) : LawAt (w.setCell ⟨D, 9, none⟩ v) D A Pp n nn x pause clock v := heap_setCell_at w D 9 _ _ _ h
theorem LawAt.fr {S : Nat → Prop} (h : LawAt w D A Pp n nn x pause clock Lv) (hf : Fr S w w') (hn : ¬ S D) : LawAt w' D A Pp n nn x pause clock Lv := hf.keep h hn
end

/-- What is told of a saga. -/
structure ST where
  id : Int
  state : Int
  step : Int
  steps : Int
  tries : Int
  due : Int
def ST.cs (s : ST) : List Value := [.int .i64 s.id, .int .i64 s.state, .int .i64 s.step, .int .i64 s.steps, .int .i64 s.tries, .int .i64 s.due]
def RS.st' (r : RS) : ST := ⟨r.id, r.S.1, r.S.2, r.st.length, r.tries, r.due⟩

set_option maxRecDepth 100000 in
set_option maxHeartbeats 2000000 in
theorem lstatus_ok {w : World} {D A Pp n : Nat} {nn : Bool} {x Lv : Value} {pause clock : Int} (h : LawAt w D A Pp n nn x pause clock Lv) (r : RS) :
    Calls Tryz.prog 135 #[.pointer (some ⟨D, 0, none⟩), .agg r.st'.cs.toArray, .agg r.cs.toArray] w fun e w' => e = .returned (.bool true) ∧ Fr (fun _ => False) w w' := by
  have c8 := h.c8
  have hD := lt_of_heap h
  have HD : Hid (D < w.heap.size) := hD
  obtain ⟨id, sa, sc, st, S, tr, du, ma, mc, may⟩ := r
  unfold RS.cs ST.cs RS.st'
  have a8 : ∀ o1 o2, ((w.alloc o1).alloc o2).cell? ⟨D, 8, none⟩ = some (.bool false) := fun o1 o2 => (((Fr.refl (fun _ => False) w).alloc o1).alloc o2).cell c8 (fun h => h)
  have HF : Hid (∀ o1 o2, Fr (fun _ => False) w ((w.alloc o1).alloc o2)) := fun o1 o2 => ((Fr.refl _ _).alloc _).alloc _
  clear h hD
  go_enter Tryz.func135, Tryz.ntmps135
  go_wp2
  go_ret
  exact ⟨rfl, HF.out _ _⟩
end Go.Proofs.YteebjgfalllbjaaGreatDoor
namespace Go.Proofs.YteebjgfalllbjaaGreatDoor
open Go.RowKit

/-- What All gives. -/
def AllQ (sts : List ST) (w : World) (e : Ending) (w' : World) : Prop := ∃ ao cap, e = .returned (.slice ao sts.length cap) ∧ RowsOf w' ao 6 (sts.map ST.cs) ∧ Fr (fun _ => False) w w'
def seven (w : World) (g o : Nat) (id : Int) (sa : Option Addr) (sl sc : Nat) (S1 S2 tr du : Int) (ma : Option Addr) (ml mc : Nat) : Prop :=
  w.cell? ⟨g, o, none⟩ = some (.int .i64 id) ∧ w.cell? ⟨g, o + 1, none⟩ = some (.slice sa sl sc) ∧ w.cell? ⟨g, o + 2, none⟩ = some (.int .i64 S1) ∧ w.cell? ⟨g, o + 3, none⟩ = some (.int .i64 S2) ∧ w.cell? ⟨g, o + 4, none⟩ = some (.int .i64 tr) ∧ w.cell? ⟨g, o + 5, none⟩ = some (.int .i64 du) ∧ w.cell? ⟨g, o + 6, none⟩ = some (.slice ma ml mc)
theorem seven_of {w : World} {g o : Nat} {r : RS} (h : w.rangeAt g o r.cs) : seven w g o r.id r.sa r.st.length r.sc r.S.1 r.S.2 r.tries r.due r.ma r.may.length r.mc :=
  ⟨h 0 _ rfl, h 1 _ rfl, h 2 _ rfl, h 3 _ rfl, h 4 _ rfl, h 5 _ rfl, h 6 _ rfl⟩
theorem range_fr {w w' : World} {g o : Nat} {cs : List Value} (h : w.rangeAt g o cs) (hf : Fr (fun _ => False) w w') : w'.rangeAt g o cs := fun j v hv => hf.cell (h j v hv) (fun h => h)

set_option maxRecDepth 100000 in
set_option maxHeartbeats 4000000 in
theorem listed_ok {w : World} {D A Pp n : Nat} {nn : Bool} {x : Value} {pause clock : Int} {ao : Option Addr} {cap : Nat} {L : List RS} (h : LawAt w D A Pp n nn x pause clock (.slice ao L.length cap)) (hl : RowsOf w ao 7 (L.map RS.cs)) (hn : L.length ≤ 1000000) (hS : ∀ r ∈ L, r.S.1 ≠ 0) (most : Int) (m : Nat) (hm : m ≤ L.length) (hmost : m < L.length → most ≤ m)
    (hA : Calls Tryz.prog 35 #[x, .int .i64 most] w fun e w' => AllQ ((L.take m).map RS.st') w e w') :
    Calls Tryz.prog 87 #[.pointer (some ⟨D, 0, none⟩), .int .i64 most] w fun e w' => e = .returned (.bool true) ∧ Fr (fun _ => False) w w' := by
  have HL : Hid (RowsOf w ao 7 (L.map RS.cs)) := hl
  have HD : Hid (LawAt w D A Pp n nn x pause clock (.slice ao L.length cap)) := h
  have HSN : Hid (∀ r ∈ L, r.S.1 ≠ 0) := hS
  have c5 := h.c5
  have hlm : (L.take m).length = m := by rw [List.length_take]; omega
  clear h hl hS
  go_enter Tryz.func87, Tryz.ntmps87
  go_wp2_with fail
  refine hA.mono ?_
  rintro e w1 ⟨bo, cb, rfl, hb, hf1⟩
  simp only [List.length_map, hlm]
  have HB : Hid (RowsOf w1 bo 6 (((L.take m).map RS.st').map ST.cs)) := hb
  have HF1 : Hid (Fr (fun _ => False) w w1) := hf1
  clear hA c5 hb hf1
  go_wp2
  go_loopw [6, 7] (fun q c wr => ∃ i : Nat, i ≤ L.length ∧ q = .int .i64 (min i m : Nat) ∧ c = .int .i64 i ∧ Hid (Fr (fun _ => False) w1 wr)) (fun _ c _ => L.length - (intOf c).toNat)
  case atStart => exact ⟨0, Nat.zero_le _, by simp, rfl, Fr.refl _ _⟩
  case round =>
    obtain ⟨i, hi, rfl, rfl, HR⟩ := hrel
    have hd := HD.out.fr (HF1.out.trans HR.out (fun _ _ h => h)) (fun h => h)
    have c9 := hd.c9
    have c8 := hd.c8
    have HD2 : Hid (LawAt wr D A Pp n nn x pause clock (.slice ao L.length cap)) := hd
    clear hd
    by_cases hlt : i < L.length
    · have hlt' : (i : Int) < L.length := by omega
      obtain ⟨r, hr⟩ : ∃ r, L[i]? = some r := ⟨_, List.getElem?_eq_getElem hlt⟩
      obtain ⟨g, off, rfl, hrg⟩ := HL.out i r.cs (by simp [hr])
      have hr0 := HSN.out r (List.mem_of_getElem? hr)
      have h7 := seven_of (range_fr (range_fr hrg HF1.out) HR.out)
      obtain ⟨s0, s1, s2, s3, s4, s5, s6⟩ := h7
      clear hrg
      by_cases him : i < m
      · have emin : min i m = i := by omega
        have emin2 : ((min (i + 1) m : Nat) : Int) = (i : Int) + 1 := by omega
        have him' : (i : Int) < m := by omega
        obtain ⟨g2, o2, rfl, hrg2⟩ := HB.out i r.st'.cs (by rw [List.getElem?_map, List.getElem?_map, List.getElem?_take, if_pos him, hr]; rfl)
        have hrg3 := range_fr hrg2 HR.out
        have t0 : wr.cell? ⟨g2, o2 + i * 6, none⟩ = some (.int .i64 r.id) := hrg3 0 _ rfl
        have HRG : Hid (wr.rangeAt g2 (o2 + i * 6) r.st'.cs) := hrg3
        clear hrg2 hrg3 hr
        rw [emin]
        go_wp2_with fail
        obtain ⟨W, HW⟩ : ∃ W, Hid (W = wr.alloc (.cells #[.int .i64 r.id, .slice r.sa r.st.length r.sc, .int .i64 r.S.1, .int .i64 r.S.2, .int .i64 r.tries, .int .i64 r.due, .slice r.ma r.may.length r.mc] 223)) := ⟨_, rfl⟩
        obtain ⟨B, HBB⟩ : ∃ B, Hid (B = wr.heap.size) := ⟨_, rfl⟩
        have hFW : Fr (fun _ => False) wr W := by rw [HW.out]; exact (Fr.refl _ _).alloc _
        have hBW : W.rangeAt B 0 r.cs := by rw [HW.out, HBB.out]; intro j v hv; rw [cell_of_row _ wr.heap.size _ _ _ _ (heap_alloc_at wr _), Nat.zero_add]; simpa [RS.cs] using hv
        rw [← HW.out, ← HBB.out]
        obtain ⟨q0, q1, q2, q3, q4, q5, q6⟩ := seven_of hBW
        have hT := range_fr HRG.out hFW
        have u0 : W.cell? ⟨g2, o2 + i * 6, none⟩ = some (.int .i64 r.id) := hT 0 _ rfl
        have u1 : W.cell? ⟨g2, o2 + i * 6 + 1, none⟩ = some (.int .i64 r.S.1) := hT 1 _ rfl
        have u2 : W.cell? ⟨g2, o2 + i * 6 + 2, none⟩ = some (.int .i64 r.S.2) := hT 2 _ rfl
        have u3 : W.cell? ⟨g2, o2 + i * 6 + 3, none⟩ = some (.int .i64 r.st.length) := hT 3 _ rfl
        have u4' : W.cell? ⟨g2, o2 + i * 6 + 4, none⟩ = some (.int .i64 r.tries) := hT 4 _ rfl
        have u5' : W.cell? ⟨g2, o2 + i * 6 + 5, none⟩ = some (.int .i64 r.due) := hT 5 _ rfl
        have HDW : Hid (LawAt W.drew.drew D A Pp n nn x pause clock (.slice (some ⟨g, off, none⟩) L.length cap) ∧ Fr (fun _ => False) w1 W.drew.drew) := ⟨HD2.out.fr hFW.drew.drew (fun h => h), (HR.out.trans hFW (fun _ _ h => h)).drew.drew⟩
        have HTT : Hid (W.rangeAt g2 (o2 + i * 6) r.st'.cs ∧ W.rangeAt B 0 r.cs) := ⟨hT, hBW⟩
        clear hBW hT hFW HW HBB HRG s0 s1 s2 s3 s4 s5 s6 t0 c8 c9 u1 u2 u3 u4' u5'
        refine wp_region_still_lit (by kernel_rfl) (by kernel_rfl) (Bx.out ?_)
        repeat (refine bx_step (fun K hK => ?_); go_simp; refine hK _ ?_; clear hK K)
        refine bx_nil ?_
        go_wp2_with fail
        obtain ⟨W2, HW2⟩ : ∃ W2, Hid (W2 = W.drew) := ⟨_, rfl⟩
        rw [show ({ heap := W.heap, tape := W.tape, drawn := W.drawn + 1, os := W.os, output := W.output } : World) = W2 from HW2.out.symm]
        have hT2 : W2.rangeAt g2 (o2 + i * 6) r.st'.cs := by rw [HW2.out]; exact HTT.out.1
        have hB2 : W2.rangeAt B 0 r.cs := by rw [HW2.out]; exact HTT.out.2
        have HDW2 := HDW.out
        rw [← HW2.out] at HDW2
        have HDW3 : Hid (LawAt W2.drew D A Pp n nn x pause clock (.slice (some ⟨g, off, none⟩) L.length cap) ∧ Fr (fun _ => False) w1 W2.drew) := HDW2
        clear q0 q1 q2 q3 q4 q5 q6 u0 HDW2 HDW HTT HW2
        obtain ⟨q0, q1, q2, q3, q4, q5, q6⟩ := seven_of hB2
        have u0 : W2.cell? ⟨g2, o2 + i * 6, none⟩ = some (.int .i64 r.id) := hT2 0 _ rfl
        have u1 : W2.cell? ⟨g2, o2 + i * 6 + 1, none⟩ = some (.int .i64 r.S.1) := hT2 1 _ rfl
        have u2 : W2.cell? ⟨g2, o2 + i * 6 + 2, none⟩ = some (.int .i64 r.S.2) := hT2 2 _ rfl
        have u3 : W2.cell? ⟨g2, o2 + i * 6 + 3, none⟩ = some (.int .i64 r.st.length) := hT2 3 _ rfl
        have u4' : W2.cell? ⟨g2, o2 + i * 6 + 4, none⟩ = some (.int .i64 r.tries) := hT2 4 _ rfl
        have u5' : W2.cell? ⟨g2, o2 + i * 6 + 5, none⟩ = some (.int .i64 r.due) := hT2 5 _ rfl
        clear hT2 hB2
        refine wp_region_still_tail 6 (by kernel_rfl) (by kernel_rfl) (Bx.out ?_)
        simp only [List.take_succ_cons, List.take_zero, List.drop_succ_cons, List.drop_zero]
        repeat (refine bx_step (fun K hK => ?_); go_simp; refine hK _ ?_; clear hK K)
        refine bx_nil ?_
        go_wp2_with fail
        refine (lstatus_ok HDW3.out.1 r).mono ?_
        rintro e w3 ⟨rfl, hf3⟩
        have HF3 : Hid (Fr (fun _ => False) w1 w3) := HDW3.out.2.trans hf3 (fun _ _ h => h)
        clear hf3 q0 q1 q2 q3 q4 q5 q6 u0 u1 u2 u3 u4' u5'
        go_wp2
        go_roundw
        case rel => exact ⟨i + 1, by omega, by rw [emin2], by go_num, HF3⟩
        case measure => simp [intOf]; omega
      · have him' : ¬ (i : Int) < m := by omega
        have emin : min i m = m := by omega
        have emin2 : min (i + 1) m = m := by omega
        have hmm := hmost (by omega)
        have hmm' : ¬ (m : Int) < most := by omega
        clear hr
        rw [emin]
        go_wp2_with fail
        obtain ⟨W, HW⟩ : ∃ W, Hid (W = wr.alloc (.cells #[.int .i64 r.id, .slice r.sa r.st.length r.sc, .int .i64 r.S.1, .int .i64 r.S.2, .int .i64 r.tries, .int .i64 r.due, .slice r.ma r.may.length r.mc] 223)) := ⟨_, rfl⟩
        obtain ⟨B, HBB⟩ : ∃ B, Hid (B = wr.heap.size) := ⟨_, rfl⟩
        have hFW : Fr (fun _ => False) wr W := by rw [HW.out]; exact (Fr.refl _ _).alloc _
        have hBW : W.rangeAt B 0 r.cs := by rw [HW.out, HBB.out]; intro j v hv; rw [cell_of_row _ wr.heap.size _ _ _ _ (heap_alloc_at wr _), Nat.zero_add]; simpa [RS.cs] using hv
        rw [← HW.out, ← HBB.out]
        obtain ⟨q0, q1, q2, q3, q4, q5, q6⟩ := seven_of hBW
        have d8 := (HD2.out.fr hFW (fun h => h)).c8
        have HFW : Hid (Fr (fun _ => False) w1 W.drew) := (HR.out.trans hFW (fun _ _ h => h)).drew
        clear hBW hFW HW HBB s0 s1 s2 s3 s4 s5 s6 c8 c9
        refine wp_region_still_lit (by kernel_rfl) (by kernel_rfl) (Bx.out ?_)
        repeat (refine bx_step (fun K hK => ?_); go_simp; refine hK _ ?_; clear hK K)
        refine bx_nil ?_
        go_wp2
        go_roundw
        case rel => exact ⟨i + 1, by omega, by rw [emin2], by go_num, HFW⟩
        case measure => simp [intOf]; omega
    · have hlt' : ¬ (i : Int) < L.length := by omega
      obtain rfl : i = L.length := by omega
      have emin : min L.length m = m := by omega
      rw [emin]
      go_wp2
      go_ret
      exact ⟨rfl, HF1.out.trans HR.out (fun _ _ h => h)⟩
end Go.Proofs.YteebjgfalllbjaaGreatDoor
