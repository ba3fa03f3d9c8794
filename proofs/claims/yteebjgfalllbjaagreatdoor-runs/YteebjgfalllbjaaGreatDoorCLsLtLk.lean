import Derived.Test.YteebjgfalllbjaaGreatDoorCWriteFlushRj
import Derived.StillTail
import Derived.Test.YteebjgfalllbjaaGreatDoorCReadBsOh
namespace Go.Proofs.YteebjgfalllbjaaGreatDoor
open Go.RowKit

def noStr : Value := .string ⟨#[]⟩
def strBeyond : ByteArray := ⟨#[98, 101, 121, 111, 110, 100]⟩
def strGone : ByteArray := ⟨#[103, 111, 110, 101]⟩
/-- The cells of steps. -/
def scells (st : List SS) : List Value := (st.map stv).flatten
theorem scells_len (st : List SS) : (scells st).length = st.length * 2 := by
  induction st with
  | nil => rfl
  | cons a l ih =>
    have e : scells (a :: l) = stv a ++ scells l := by simp [scells]
    rw [e, List.length_append, ih]; simp [stv]; omega
theorem scells_append (a b : List SS) : scells (a ++ b) = scells a ++ scells b := by simp [scells]
theorem scells_rep (k : Nat) (p : SS) : scells (List.replicate (k + 1) p) = stv p ++ scells (List.replicate k p) := by simp [scells, List.replicate_succ]
def bey : SS := (strBeyond, ⟨#[]⟩)
def none2 : SS := (⟨#[]⟩, ⟨#[]⟩)
/-- A step put in its place. -/
theorem splice_step (a b : List SS) (p q : SS) : splice (scells (a ++ q :: b)) (a.length * 2) (stv p) = scells (a ++ p :: b) := by
  have e : scells (a ++ q :: b) = scells a ++ (stv q ++ scells b) := by rw [scells_append]; simp [scells]
  have e2 : scells (a ++ p :: b) = scells a ++ (stv p ++ scells b) := by rw [scells_append]; simp [scells]
  have hl := scells_len a
  rw [e, e2, splice, List.take_left' hl, List.drop_append, hl, List.drop_of_length_le (by rw [hl]; simp [stv])]
  simp [stv]
theorem astep_info : (Tryz.prog.info? 58).map (fun i => (i.zero, i.size, i.bytes)) = some (some (.agg #[.string ⟨#[]⟩, .string ⟨#[]⟩]), 2, 32) := by kernel_rfl
theorem made_steps (n : Nat) : (madeCells #[.string ⟨#[]⟩, .string ⟨#[]⟩] (n * 2)).toList = scells (List.replicate n none2) := by
  have hget : ∀ j, j < n * 2 → (madeCells #[.string ⟨#[]⟩, .string ⟨#[]⟩] (n * 2))[j]? = some noStr := fun j hj => by
    have hm : j % 2 = 0 ∨ j % 2 = 1 := by omega
    have hz : (#[Value.string ⟨#[]⟩, .string ⟨#[]⟩] : Array Value)[j % 2]! = noStr := by rcases hm with h | h <;> rw [h] <;> rfl
    simp only [madeCells]
    rw [Array.getElem?_map, Array.getElem?_range, if_pos hj]
    exact congrArg some hz
  have hr : ∀ (n i : Nat), i < n * 2 → (scells (List.replicate n none2))[i]? = some noStr := by
    intro n
    induction n with
    | zero => intro i hi; omega
    | succ k ih =>
      intro i hi
      rw [scells_rep]
      match i with
      | 0 => rfl
      | 1 => rfl
      | i + 2 =>
        have := ih i (by omega)
        simpa [stv] using this
  apply List.ext_getElem?
  intro i
  by_cases h : i < n * 2
  · rw [Array.getElem?_toList, hget i h, hr n i h]
  · rw [List.getElem?_eq_none (by rw [Array.length_toList, size_madeCells]; omega), List.getElem?_eq_none (by rw [scells_len]; simp; omega)]
theorem own_whole2 {w : World} {base e size g n : Nat} {xs : List Value} (h : w.ownsRow base e size (.slice (some ⟨g, 0, none⟩) n n) n xs) : w.heap[g]? = some (.cells xs.toArray e (0, 0)) := by
  rcases h.2 with ⟨hv, _⟩ | ⟨g', cap, cur, hv, hb, hg, _, _, hc, ht⟩
  · cases hv
  · simp only [Value.slice.injEq, Option.some.injEq, Addr.mk.injEq, and_true, true_and] at hv
    obtain ⟨rfl, rfl⟩ := hv
    rw [hg]
    have : cur = xs.toArray := by rw [← ht, List.take_of_length_le (by simp; omega)]
    rw [this]
theorem stv_one (p : SS) : ∀ v ∈ stv p, v.oneCell' = true := by
  intro v hv
  simp only [stv, List.mem_cons, List.not_mem_nil, or_false] at hv
  rcases hv with rfl | rfl <;> rfl
theorem run_store_step {w : World} {g i : Nat} {a b : List SS} {q : SS} (p : SS) (hg : w.heap[g]? = some (.cells (scells (a ++ q :: b)).toArray 58 (0, 0))) (hi : a.length = i) :
    (Instr.storeAt 58 (.pointer (some ⟨g, i * 2, none⟩)) (.agg #[.string p.1, .string p.2])).run Tryz.prog w = .ok () (w.setRow g (scells (a ++ p :: b)).toArray) := by
  subst hi
  have := run_storeAt_row (P := Tryz.prog) (o := a.length * 2) (ty := 58) (vs := stv p) hg (by rw [scells_len]; simp [stv]; omega) (stv_one p) (by kernel_rfl)
  rw [splice_step] at this
  exact this

def StepsQ (st : List SS) (w : World) (e : Ending) (w' : World) : Prop := ∃ g, e = .returned (.slice (some ⟨g, 0, none⟩) st.length (st.length + 2)) ∧ w.heap.size ≤ g ∧ w'.heap[g]? = some (.cells (scells (st ++ [bey, bey])).toArray 58 (0, 0)) ∧ Fr (fun _ => False) w w'
set_option maxRecDepth 100000 in
set_option maxHeartbeats 2000000 in
theorem lsteps_ok {w : World} {ao : Option Addr} {cap : Nat} {st : List SS} (hl : RowsOf w ao 2 (st.map stv)) (hn : st.length ≤ 1000000) :
    Calls Tryz.prog 123 #[.slice ao st.length cap] w fun e w' => StepsQ st w e w' := by
  obtain ⟨i0, hi, hz0, hz1, hz2⟩ := info_parts astep_info
  have HL : Hid (RowsOf w ao 2 (st.map stv)) := hl
  clear hl
  go_enter Tryz.func123, Tryz.ntmps123
  go_wp2_with (first | (at_make; refine wpList_make_full w rfl _ _ 38 rfl w.heap.size 58 i0 (.agg #[.string ⟨#[]⟩, .string ⟨#[]⟩]) 2 Tryz.underlying38 hi hz0 hz1 .i64 .i64 ((st.length : Int) + 2) ((st.length : Int) + 2) (st.length + 2) rfl rfl (by omega) (by omega) ?_ ?_ ?_ ?_; (rw [hz2]; omega); (unfold maxLen; omega); exact Nat.le_refl _; intro w1 ho hg; have HO : Hid (w1.heap[w.heap.size]? = some (.cells (scells (List.replicate (st.length + 2) none2)).toArray 58 (0, 0)) ∧ Fr (fun _ => False) w w1) := ⟨by (have h := own_whole2 ho; rw [show (Value.agg #[.string ⟨#[]⟩, .string ⟨#[]⟩]).cells = #[.string ⟨#[]⟩, .string ⟨#[]⟩] from rfl, made_steps] at h; exact h), (Fr.refl _ _).grown hg (fun _ _ h => by cases h)⟩; clear ho hg))
  go_loopw [5] (fun c wr => ∃ i : Nat, i ≤ st.length ∧ c = .int .i64 i ∧ Hid (wr.heap[w.heap.size]? = some (.cells (scells (st.take i ++ List.replicate (st.length + 2 - i) none2)).toArray 58 (0, 0)) ∧ Fr (fun _ => False) w wr)) (fun c _ => st.length - (intOf c).toNat)
  case atStart => exact ⟨0, Nat.zero_le _, rfl, by simpa using HO⟩
  case round =>
    obtain ⟨i, hi', rfl, HR⟩ := hrel
    by_cases hlt : i < st.length
    · have hlt' : (i : Int) < st.length := by omega
      have hlt3 : (i : Int) < (st.length : Int) + 2 := by omega
      obtain ⟨p, hp⟩ : ∃ p, st[i]? = some p := ⟨_, List.getElem?_eq_getElem hlt⟩
      obtain ⟨g, off, rfl, hr⟩ := HL.out i (stv p) (by simp [hp])
      have c0 : wr.cell? ⟨g, off + i * 2, none⟩ = some (.string p.1) := HR.out.2.cell (hr 0 _ rfl) (fun h => h)
      have c1 : wr.cell? ⟨g, off + i * 2 + 1, none⟩ = some (.string p.2) := HR.out.2.cell (hr 1 _ rfl) (fun h => h)
      have hrow := HR.out.1
      rw [show st.length + 2 - i = (st.length + 1 - i) + 1 by omega, List.replicate_succ] at hrow
      have hst := run_store_step (w := wr.drew) (i := i) p hrow (by rw [List.length_take]; omega)
      have e0 : st.take i ++ p :: List.replicate (st.length + 1 - i) none2 = st.take (i + 1) ++ List.replicate (st.length + 2 - (i + 1)) none2 := by
        rw [List.take_add_one, hp]; simp
      have hrow' := setRow_heap wr.drew w.heap.size _ (scells (st.take i ++ p :: List.replicate (st.length + 1 - i) none2)).toArray 58 (0, 0) hrow
      have HN : Hid ((wr.drew.setRow w.heap.size (scells (st.take i ++ p :: List.replicate (st.length + 1 - i) none2)).toArray).heap[w.heap.size]? = some (.cells (scells (st.take (i + 1) ++ List.replicate (st.length + 2 - (i + 1)) none2)).toArray 58 (0, 0)) ∧ Fr (fun _ => False) w (wr.drew.setRow w.heap.size (scells (st.take i ++ p :: List.replicate (st.length + 1 - i) none2)).toArray)) :=
        ⟨by rw [hrow', e0], HR.out.2.drew.setRow _ (fun h => by omega) _⟩
      obtain ⟨W3, HW3⟩ : ∃ W3, Hid (W3 = wr.drew.setRow w.heap.size (scells (st.take i ++ p :: List.replicate (st.length + 1 - i) none2)).toArray) := ⟨_, rfl⟩
      rw [← HW3.out] at hst HN
      clear hr hrow hrow' e0 HW3 hp
      go_wp2
      refine wp_region_still_tail 14 (by kernel_rfl) (by kernel_rfl) (Bx.out ?_)
      simp only [List.take_succ_cons, List.take_zero, List.drop_succ_cons, List.drop_zero]
      repeat (refine bx_step (fun K hK => ?_); go_simp; refine hK _ ?_; clear hK K)
      refine bx_nil ?_
      refine wpList_store 58 (w' := W3) _ _ rfl rfl ?_ ?_
      exact hst
      go_wp2
      go_roundw
      case rel => exact ⟨i + 1, by omega, by go_num, HN⟩
      case measure => simp [intOf]; omega
    · have hlt' : ¬ (i : Int) < st.length := by omega
      obtain rfl : i = st.length := by omega
      have hrow := HR.out.1
      rw [List.take_length, show st.length + 2 - st.length = 2 by omega] at hrow
      have hst1 := run_store_step (a := st) (b := [none2]) (q := none2) (i := st.length) bey hrow rfl
      have hrow1 := setRow_heap wr w.heap.size _ (scells (st ++ bey :: [none2])).toArray 58 (0, 0) hrow
      obtain ⟨W3, HW3⟩ : ∃ W3, Hid (W3 = wr.setRow w.heap.size (scells (st ++ bey :: [none2])).toArray) := ⟨_, rfl⟩
      have hF3 : Fr (fun _ => False) w W3 := by rw [HW3.out]; exact HR.out.2.setRow _ (fun h => by omega) _
      rw [← HW3.out] at hst1 hrow1
      rw [show st ++ bey :: [none2] = (st ++ [bey]) ++ none2 :: [] by simp] at hrow1
      have hst2 := run_store_step (a := st ++ [bey]) (b := []) (q := none2) (i := st.length + 1) bey hrow1 (by simp)
      have hrow2 := setRow_heap W3 w.heap.size _ (scells ((st ++ [bey]) ++ [bey])).toArray 58 (0, 0) hrow1
      obtain ⟨W4, HW4⟩ : ∃ W4, Hid (W4 = W3.setRow w.heap.size (scells ((st ++ [bey]) ++ [bey])).toArray) := ⟨_, rfl⟩
      have HF4 : Hid (Fr (fun _ => False) w W4 ∧ W4.heap[w.heap.size]? = some (.cells (scells (st ++ [bey, bey])).toArray 58 (0, 0))) := ⟨by rw [HW4.out]; exact hF3.setRow _ (fun h => by omega) _, by rw [HW4.out, hrow2]; simp⟩
      rw [← HW4.out] at hst2
      clear hrow hrow1 hrow2 HW3 HW4 hF3 HL HO
      go_wp2_with (first | (refine wpList_store 58 (w' := W3) _ _ rfl rfl ?_ ?_; exact hst1) | (refine wpList_store 58 (w' := W4) _ _ rfl rfl ?_ ?_; exact hst2))
      go_ret
      exact ⟨w.heap.size, rfl, Nat.le_refl _, HF4.out.2, HF4.out.1⟩
end Go.Proofs.YteebjgfalllbjaaGreatDoor
namespace Go.Proofs.YteebjgfalllbjaaGreatDoor
open Go.RowKit

theorem row_step {w : World} {g : Nat} {l : List SS} {t : TypeId} (h : w.heap[g]? = some (.cells (scells l).toArray t (0, 0))) {i : Nat} {p : SS} (hp : l[i]? = some p) : w.cell? ⟨g, i * 2, none⟩ = some (.string p.1) ∧ w.cell? ⟨g, i * 2 + 1, none⟩ = some (.string p.2) := by
  have hl : ∀ x ∈ l.map stv, x.length = 2 := fun x hx => by simp only [List.mem_map] at hx; obtain ⟨r, _, rfl⟩ := hx; rfl
  have h0 := pieces_at 2 (l.map stv) hl i (stv p) (by simp [hp]) 0 (.string p.1) rfl
  have h1 := pieces_at 2 (l.map stv) hl i (stv p) (by simp [hp]) 1 (.string p.2) rfl
  exact ⟨by rw [cell_of_row w g _ _ _ _ h]; simpa [scells] using h0, by rw [cell_of_row w g _ _ _ _ h]; simpa [scells] using h1⟩
def gone : SS := (strGone, strGone)
theorem cut_all (g n : Nat) (W : World) : (Instr.sliceAt 38 (.slice (some ⟨g, 0, none⟩) n (n + 2)) none (some (.int .i64 ((n : Int) + 2))) none).run Tryz.prog W = .ok (.slice (some ⟨g, 0, none⟩) (n + 2) (n + 2)) W := by
  have he : Tryz.prog.underlying 38 = some (.slice (Tryz.prog.elem 38)) := by kernel_rfl
  have hs : (sizeOf (Tryz.prog.elem 38)).run Tryz.prog W = .ok 2 W := by kernel_rfl
  rw [run_sliceAt_slice W 38 _ _ _ _ he, run_slice_h W 38 _ n (n + 2) he .i64 _ (by omega) (by omega), hs]
  have : ((n : Int) + 2).toNat = n + 2 := by omega
  simp [sliced, this, Addr.add]
def StillQ (g : Nat) (w : World) (e : Ending) (w' : World) : Prop := e = .returned (.bool true) ∧ Fr (· = g) w w'
set_option maxRecDepth 100000 in
set_option maxHeartbeats 4000000 in
theorem still_ok {w : World} {ao : Option Addr} {cap g : Nat} {st : List SS} (hl : RowsOf w ao 2 (st.map stv)) (hn : st.length ≤ 1000000) (hg : w.heap[g]? = some (.cells (scells (st ++ [bey, bey])).toArray 58 (0, 0))) :
    Calls Tryz.prog 124 #[.slice (some ⟨g, 0, none⟩) st.length (st.length + 2), .slice ao st.length cap] w fun e w' => StillQ g w e w' := by
  have HL : Hid (RowsOf w ao 2 (st.map stv)) := hl
  have HG : Hid (w.heap[g]? = some (.cells (scells (st ++ [bey, bey])).toArray 58 (0, 0))) := hg
  have b0 : w.cell? ⟨g, st.length * 2, none⟩ = some (.string strBeyond) := (row_step hg (i := st.length) (p := bey) (by simp)).1
  have b1 : w.cell? ⟨g, (st.length + 1) * 2, none⟩ = some (.string strBeyond) := (row_step hg (i := st.length + 1) (p := bey) (by simp)).1
  have sB : strBeyond.toList = [98, 101, 121, 111, 110, 100] := by rw [ByteArray.toList_eq]; rfl
  have hcut := cut_all g st.length
  have hb1 : ¬ (st.length : Int) + 2 < 0 := by omega
  have hb2 : (st.length : Int) < (st.length : Int) + 2 := by omega
  have hb3 : (st.length : Int) + 1 < (st.length : Int) + 2 := by omega
  clear hl hg
  go_enter Tryz.func124, Tryz.ntmps124
  go_wp2_with (refine wpList_sliceAt 38 _ _ _ _ rfl rfl (by exact hcut _) ?_)
  clear b0 b1 sB hcut hb3
  go_loopw [7, 8] (fun q c wr => ∃ i : Nat, i ≤ st.length ∧ q = .bool true ∧ c = .int .i64 i ∧ Hid (Fr (fun _ => False) w wr)) (fun _ c _ => st.length - (intOf c).toNat)
  case atStart => exact ⟨0, Nat.zero_le _, rfl, rfl, Fr.refl _ _⟩
  case round =>
    obtain ⟨i, hi, rfl, rfl, HR⟩ := hrel
    by_cases hlt : i < st.length
    · have hlt' : (i : Int) < st.length := by omega
      have hlt3 : (i : Int) < (st.length : Int) + 2 := by omega
      obtain ⟨p, hp⟩ : ∃ p, st[i]? = some p := ⟨_, List.getElem?_eq_getElem hlt⟩
      obtain ⟨g2, off, rfl, hr⟩ := HL.out i (stv p) (by simp [hp])
      have c0 : wr.cell? ⟨g2, off + i * 2, none⟩ = some (.string p.1) := HR.out.cell (hr 0 _ rfl) (fun h => h)
      have c1 : wr.cell? ⟨g2, off + i * 2 + 1, none⟩ = some (.string p.2) := HR.out.cell (hr 1 _ rfl) (fun h => h)
      obtain ⟨d0, d1⟩ := row_step (HR.out.keep HG.out (fun h => h)) (i := i) (p := p) (by rw [List.getElem?_append_left hlt]; exact hp)
      clear hr hp
      go_wp2
      refine wp_region_still_lit (by kernel_rfl) (by kernel_rfl) (Bx.out ?_)
      repeat (refine bx_step (fun K hK => ?_); go_simp; refine hK _ ?_; clear hK K)
      refine bx_nil ?_
      go_wp2
      go_roundw
      case rel => exact ⟨i + 1, by omega, rfl, by go_num, HR.out.drew⟩
      case measure => simp [intOf]; omega
    · have hlt' : ¬ (i : Int) < st.length := by omega
      have HJ : Hid (wr.heap[g]? = some (.cells (scells (List.replicate 0 gone ++ (st ++ [bey, bey]).drop 0)).toArray 58 (0, 0)) ∧ Fr (· = g) w wr) := ⟨by simpa using HR.out.keep HG.out (fun h => h), HR.out.mono (fun _ _ h => h.elim)⟩
      clear HR HL HG
      go_wp2
      go_loopw [9] (fun c wx => ∃ j : Nat, j ≤ st.length + 2 ∧ c = .int .i64 j ∧ Hid (wx.heap[g]? = some (.cells (scells (List.replicate j gone ++ (st ++ [bey, bey]).drop j)).toArray 58 (0, 0)) ∧ Fr (· = g) w wx)) (fun c _ => st.length + 2 - (intOf c).toNat)
      case atStart => exact ⟨0, Nat.zero_le _, rfl, HJ⟩
      case round =>
        obtain ⟨j, hj, rfl, HX⟩ := hrel
        by_cases hlt2 : j < st.length + 2
        · have hlt4 : (j : Int) < (st.length : Int) + 2 := by omega
          obtain ⟨q, hq⟩ : ∃ q, (st ++ [bey, bey])[j]? = some q := ⟨_, List.getElem?_eq_getElem (by simp; omega)⟩
          have hrow := HX.out.1
          have hd : (st ++ [bey, bey]).drop j = q :: (st ++ [bey, bey]).drop (j + 1) := by
            rw [List.drop_eq_getElem_cons (by simp; omega)]
            rw [List.getElem?_eq_getElem (by simp; omega)] at hq
            simp only [Option.some.injEq] at hq
            rw [hq]
          rw [hd] at hrow
          have hst := run_store_step (i := j) gone hrow (by simp)
          have hrow' := setRow_heap wr g _ (scells (List.replicate j gone ++ gone :: (st ++ [bey, bey]).drop (j + 1))).toArray 58 (0, 0) hrow
          have e0 : List.replicate j gone ++ gone :: (st ++ [bey, bey]).drop (j + 1) = List.replicate (j + 1) gone ++ (st ++ [bey, bey]).drop (j + 1) := by rw [List.replicate_succ']; simp
          obtain ⟨W3, HW3⟩ : ∃ W3, Hid (W3 = wr.setRow g (scells (List.replicate j gone ++ gone :: (st ++ [bey, bey]).drop (j + 1))).toArray) := ⟨_, rfl⟩
          have HN : Hid (W3.heap[g]? = some (.cells (scells (List.replicate (j + 1) gone ++ (st ++ [bey, bey]).drop (j + 1))).toArray 58 (0, 0)) ∧ Fr (· = g) w W3) := ⟨by rw [HW3.out, hrow', e0], by rw [HW3.out]; exact HX.out.2.setRow _ (fun _ => rfl) _⟩
          rw [← HW3.out] at hst
          clear hrow hrow' e0 HW3 hq hd
          go_wp2_with (refine wpList_store 58 (w' := W3) _ _ rfl rfl ?_ ?_; exact hst)
          go_roundw
          case rel => exact ⟨j + 1, by omega, by go_num, HN⟩
          case measure => simp [intOf]; omega
        · have hlt4 : ¬ (j : Int) < (st.length : Int) + 2 := by omega
          go_wp2
          go_ret
          exact ⟨rfl, HX.out.2⟩
end Go.Proofs.YteebjgfalllbjaaGreatDoor
namespace Go.Proofs.YteebjgfalllbjaaGreatDoor
open Go.RowKit

/-- The cells of a disk of the script. -/
def lc (A Pp n : Nat) (nn : Bool) (x : Value) (pause clock : Int) (Lv : Value) : Array Value :=
  #[.pointer (some ⟨A, 0, none⟩), .pointer (some ⟨Pp, 0, none⟩), .int .i64 n, .bool nn, .bool false, x, .int .i64 pause, .int .i64 clock, .bool false, Lv]
def LawAt (w : World) (D A Pp n : Nat) (nn : Bool) (x : Value) (pause clock : Int) (Lv : Value) : Prop := w.heap[D]? = some (.cells (lc A Pp n nn x pause clock Lv) 111 (0, 0))
/-- A partner whose log is empty. -/
def PartAt (w : World) (Pp : Nat) (l : Value) : Prop := w.heap[Pp]? = some (.cells #[.slice none 0 0, .slice none 0 0, l, .int .i64 0] 48 (0, 0))
section
variable {w w' : World} {D A Pp n : Nat} {nn : Bool} {x Lv : Value} {pause clock : Int}
theorem LawAt.c (h : LawAt w D A Pp n nn x pause clock Lv) {i : Nat} {v : Value} (hi : (lc A Pp n nn x pause clock Lv)[i]? = some v) : w.cell? ⟨D, i, none⟩ = some v := (cell_of_row w D i _ _ _ h).trans hi
theorem LawAt.c0 (h : LawAt w D A Pp n nn x pause clock Lv) : w.cell? ⟨D, 0, none⟩ = some (.pointer (some ⟨A, 0, none⟩)) := h.c rfl
theorem LawAt.c1 (h : LawAt w D A Pp n nn x pause clock Lv) : w.cell? ⟨D, 1, none⟩ = some (.pointer (some ⟨Pp, 0, none⟩)) := h.c rfl
theorem LawAt.c2 (h : LawAt w D A Pp n nn x pause clock Lv) : w.cell? ⟨D, 2, none⟩ = some (.int .i64 n) := h.c rfl
theorem LawAt.c3 (h : LawAt w D A Pp n nn x pause clock Lv) : w.cell? ⟨D, 3, none⟩ = some (.bool nn) := h.c rfl
theorem LawAt.c4 (h : LawAt w D A Pp n nn x pause clock Lv) : w.cell? ⟨D, 4, none⟩ = some (.bool false) := h.c rfl
theorem LawAt.c5 (h : LawAt w D A Pp n nn x pause clock Lv) : w.cell? ⟨D, 5, none⟩ = some x := h.c rfl
theorem LawAt.c6 (h : LawAt w D A Pp n nn x pause clock Lv) : w.cell? ⟨D, 6, none⟩ = some (.int .i64 pause) := h.c rfl
theorem LawAt.c7 (h : LawAt w D A Pp n nn x pause clock Lv) : w.cell? ⟨D, 7, none⟩ = some (.int .i64 clock) := h.c rfl
theorem LawAt.c8 (h : LawAt w D A Pp n nn x pause clock Lv) : w.cell? ⟨D, 8, none⟩ = some (.bool false) := h.c rfl
theorem LawAt.c9 (h : LawAt w D A Pp n nn x pause clock Lv) : w.cell? ⟨D, 9, none⟩ = some Lv := h.c rfl
theorem LawAt.fz (h : LawAt w D A Pp n nn x pause clock Lv) (j : Nat) : w.frozen? ⟨D, j, none⟩ = false := frozen_of_row w D j _ _ h
theorem LawAt.set5 (h : LawAt w D A Pp n nn x pause clock Lv) (v : Value) : LawAt (w.setCell ⟨D, 5, none⟩ v) D A Pp n nn v pause clock Lv := heap_setCell_at w D 5 _ _ v h
theorem LawAt.set3 (h : LawAt w D A Pp n nn x pause clock Lv) (b : Bool) : LawAt (w.setCell ⟨D, 3, none⟩ (.bool b)) D A Pp n b x pause clock Lv := heap_setCell_at w D 3 _ _ _ h
theorem LawAt.set4 (h : LawAt w D A Pp n nn x pause clock Lv) : LawAt (w.setCell ⟨D, 4, none⟩ (.bool false)) D A Pp n nn x pause clock Lv := heap_setCell_at w D 4 _ _ _ h
theorem LawAt.set6 (h : LawAt w D A Pp n nn x pause clock Lv) (p : Int) : LawAt (w.setCell ⟨D, 6, none⟩ (.int .i64 p)) D A Pp n nn x p clock Lv := heap_setCell_at w D 6 _ _ _ h
theorem LawAt.set7 (h : LawAt w D A Pp n nn x pause clock Lv) (c : Int) : LawAt (w.setCell ⟨D, 7, none⟩ (.int .i64 c)) D A Pp n nn x pause c Lv := heap_setCell_at w D 7 _ _ _ h
theorem LawAt.set8 (h : LawAt w D A Pp n nn x pause clock Lv) : LawAt (w.setCell ⟨D, 8, none⟩ (.bool false)) D A Pp n nn x pause clock Lv := heap_setCell_at w D 8 _ _ _ h
theorem LawAt.set9 (h : LawAt w D A Pp n nn x pause clock Lv) (v : Value) : LawAt (w.setCell ⟨D, 9, none⟩ v) D A Pp n nn x pause clock v := heap_setCell_at w D 9 _ _ _ h
theorem LawAt.fr {S : Nat → Prop} (h : LawAt w D A Pp n nn x pause clock Lv) (hf : Fr S w w') (hn : ¬ S D) : LawAt w' D A Pp n nn x pause clock Lv := hf.keep h hn
end

/-- What is told of a saga. -/
structure ST where
  id : Int
  state : Int
  step : Int
  steps : Int
  tries : Int
  due : Int
def ST.cs (s : ST) : List Value := [.int .i64 s.id, .int .i64 s.state, .int .i64 s.step, .int .i64 s.steps, .int .i64 s.tries, .int .i64 s.due]
def RS.st' (r : RS) : ST := ⟨r.id, r.S.1, r.S.2, r.st.length, r.tries, r.due⟩

set_option maxRecDepth 100000 in
set_option maxHeartbeats 2000000 in
theorem lstatus_ok {w : World} {D A Pp n : Nat} {nn : Bool} {x Lv : Value} {pause clock : Int} (h : LawAt w D A Pp n nn x pause clock Lv) (r : RS) :
    Calls Tryz.prog 135 #[.pointer (some ⟨D, 0, none⟩), .agg r.st'.cs.toArray, .agg r.cs.toArray] w fun e w' => e = .returned (.bool true) ∧ Fr (fun _ => False) w w' := by
  have c8 := h.c8
  have hD := lt_of_heap h
  have HD : Hid (D < w.heap.size) := hD
  obtain ⟨id, sa, sc, st, S, tr, du, ma, mc, may⟩ := r
  unfold RS.cs ST.cs RS.st'
  have a8 : ∀ o1 o2, ((w.alloc o1).alloc o2).cell? ⟨D, 8, none⟩ = some (.bool false) := fun o1 o2 => (((Fr.refl (fun _ => False) w).alloc o1).alloc o2).cell c8 (fun h => h)
  have HF : Hid (∀ o1 o2, Fr (fun _ => False) w ((w.alloc o1).alloc o2)) := fun o1 o2 => ((Fr.refl _ _).alloc _).alloc _
  clear h hD
  go_enter Tryz.func135, Tryz.ntmps135
  go_wp2
  go_ret
  exact ⟨rfl, HF.out _ _⟩
end Go.Proofs.YteebjgfalllbjaaGreatDoor
