import Derived.Test.YteebjgfalllbjaaGreatDoorCYcKhYd
import Derived.Test.YteebjgfalllbjaaGreatDoorCZnKfKg
import Derived.Test.YteebjgfalllbjaaGreatDoorCKcKeKr
import Derived.ChangeSlices
import Derived.ChangeShapes
namespace Go.Proofs.YteebjgfalllbjaaGreatDoor
open Go.RowKit
set_option maxRecDepth 100000 in
set_option maxHeartbeats 1000000 in
theorem Bytes_gen (w : World) {A B n : Nat} {cache : Value} {d : DP} {bs : List Value} (hd : DkAt w A B n cache d) (hm : n ≤ d.cap) (hr : RowsAt w B d.cap bs) (hn1 : 1 ≤ n) (hn : n ≤ 400) (hu : U8s bs) : Calls Tryz.prog 28 #[.pointer (some ⟨A, 0, none⟩)] w fun e w' => e = .returned (.string (bytesT (bs.take (n * 128)))) ∧ Fr (fun _ => False) w w' := by
  have c0 := hd.c0
  obtain ⟨inf, hi0, hz0, hz1, hz2⟩ := info_parts u8_info
  have HB : Hid (w.heap[B]? = some (.cells bs.toArray 97 (0, 0)) ∧ bs.length = d.cap * 128 ∧ U8s bs ∧ w.cell? ⟨A, 0, none⟩ = some (.slice (some ⟨B, 0, none⟩) n d.cap)) := ⟨hr.1, hr.2.1, hu, hd.c0⟩
  clear hr hu hd
  go_enter Tryz.func28, Tryz.ntmps28
  go_wp2_with (first | (at_make; refine wpList_make_own w rfl (.const (.int .i64 0)) (.tmp 10) 85 rfl w.heap.size 5 inf (.int .u8 0) 1 Tryz.underlying85 hi0 hz0 hz1 .i64 .i64 _ (n * 128) rfl rfl ?_ ?_ ?_ (Nat.le_refl _) ?_; (push_cast; rfl); (rw [hz2]; omega); (unfold maxLen; omega); intro w1 hown1 hgrow1; have HI : Hid (ByI w bs 0 (.slice (some ⟨w.heap.size, 0, none⟩) 0 (n * 128)) w1) := ⟨(Fr.refl _ _).grown hgrow1 (fun _ _ h => by cases h), by simpa using hown1⟩; have c01 : w1.cell? ⟨A, 0, none⟩ = some (.slice (some ⟨B, 0, none⟩) n d.cap) := HI.out.1.cell c0 (fun h => h); clear hown1 hgrow1))
  go_loopw [3, 17] (fun lv c wr => ∃ (i : Nat) (ax : Option Addr) (cx : Nat), i ≤ n ∧ c = .int .i64 i ∧ lv = .slice ax (i * 128) cx ∧ Hid (ByI w bs i lv wr)) (fun _ c _ => n - (intOf c).toNat)
  case atStart => exact ⟨0, _, _, Nat.zero_le _, rfl, rfl, by simpa using HI⟩
  case round =>
    obtain ⟨i, ax, cx, hi, rfl, rfl, HR⟩ := hrel
    by_cases hlt : i < n
    · have hlt' : (i : Int) < n := by omega
      have cr : wr.cell? ⟨A, 0, none⟩ = some (.slice (some ⟨B, 0, none⟩) n d.cap) := HR.out.1.cell c0 (fun h => h)
      have HS : Hid (∀ w2 v2, w2.ownsRow w.heap.size 5 1 v2 (i * 128 + 128) (bs.take (i * 128) ++ (bs.drop (i * 128)).take 128) → wr.grownBy w2 (Value.slice ax (i * 128) cx).ownBlock → ByI w bs (i + 1) v2 w2 ∧ ∃ a2 c2, v2 = .slice a2 ((i + 1) * 128) c2) := fun w2 v2 h1 h2 => by_step HR.out h1 h2
      have HF : Hid (wr.ownsRow w.heap.size 5 1 (.slice ax (i * 128) cx) (i * 128) (bs.take (i * 128)) ∧ ((bs.drop (i * 128)).take 128).length = 128 * 1 ∧ (∀ v ∈ (bs.drop (i * 128)).take 128, v.oneCell' = true) ∧ w.heap.size ≤ wr.heap.size ∧ (∀ j u, ((bs.drop (i * 128)).take 128)[j]? = some u → wr.cell? ((⟨B, i * 128, none⟩ : Addr).add j) = some u)) := by
        have hbl := HB.out.2.1
        refine ⟨HR.out.2, by rw [List.length_take, List.length_drop]; omega, fun v hv => ?_, HR.out.1.size, fun j u hu => ?_⟩
        · obtain ⟨k, _, rfl⟩ := HB.out.2.2.1 v (List.mem_of_mem_drop (List.mem_of_mem_take hv))
          rfl
        · have hg := HR.out.1.keep HB.out.1 (fun h => h)
          rw [List.getElem?_take] at hu
          split at hu
          · rw [List.getElem?_drop] at hu
            have := (cell_of_row wr B (i * 128 + j) _ _ _ hg).trans (by simpa using hu)
            rcases Nat.eq_zero_or_pos j with rfl | hj0
            · simpa [Addr.add] using this
            · simpa [Addr.add, show ¬ j = 0 by omega] using this
          · cases hu
      generalize (bs.drop (i * 128)).take 128 = news at *
      go_wp2_with (first | (at_builtin; refine wpList_append_own wr rfl (.tmp 20) (.tmp 27) 85 rfl w.heap.size 5 inf _ 1 1 Tryz.underlying85 hi0 hz0 hz1 hz2 rfl (by decide) (.slice ax (i * 128) cx) (i * 128) (bs.take (i * 128)) rfl HF.out.1 ⟨B, i * 128, none⟩ 128 128 news rfl HF.out.2.1 HF.out.2.2.2.2 HF.out.2.2.1 ?_ ?_ HF.out.2.2.2.1 ?_; (unfold maxLen; omega); omega; intro v2 w2 hown2 hgrow2 _; obtain ⟨hPI, a2, cx2, rfl⟩ := HS.out w2 v2 hown2 hgrow2; have HP2 : Hid (ByI w bs (i + 1) (.slice a2 ((i + 1) * 128) cx2) w2) := hPI; clear hown2 hgrow2 hPI))
      go_roundw
      case rel => exact ⟨i + 1, a2, cx2, by omega, by go_num, rfl, HP2⟩
      case measure => simp [intOf]; omega
    · obtain rfl : i = n := by omega
      have hown := HR.out.2
      have hcv := conv_bytes hown (by omega) (fun v hv => HB.out.2.2.1 v (List.mem_of_mem_take hv))
      clear hown
      go_wp2
      go_ret
      exact ⟨rfl, HR.out.1⟩
section
variable {w : World} {A B n : Nat} {cache : Value} {d : DP}
theorem Writes_gen (h : DkAt w A B n cache d) : Calls Tryz.prog 36 #[.pointer (some ⟨A, 0, none⟩)] w fun e w' => e = .returned (.int .i64 d.writes) ∧ w' = w := by
  have c3 := h.c3
  go_enter Tryz.func36, Tryz.ntmps36
  go_wp2
  go_ret
  exact ⟨rfl, rfl⟩
theorem Pending_gen {ao : Option Addr} {k c : Nat} (h : DkAt w A B n (.slice ao k c) d) : Calls Tryz.prog 34 #[.pointer (some ⟨A, 0, none⟩)] w fun e w' => e = .returned (.int .i64 k) ∧ w' = w := by
  have c1 := h.c1
  go_enter Tryz.func34, Tryz.ntmps34
  go_wp2
  go_ret
  exact ⟨rfl, rfl⟩
end
end Go.Proofs.YteebjgfalllbjaaGreatDoor
namespace Go.Proofs.YteebjgfalllbjaaGreatDoor
open Go.ChangeShapes Go.WideShapes Go.RowKit
theorem cells_intK : Tryz.prog.cellsOf 3 = 1 := by kernel_rfl
set_option maxRecDepth 100000 in
/-- A list of numbers that came in. -/
theorem open_list {H : Type} {enc : TypeId × Value → H} {W : World} {base : Nat} {v : Value} {d : DataW H} {ps : List MemPlace} (hv : Value.okWide Tryz.prog W .any base 24 v) (h : DataW.Trod enc Tryz.prog W 0 (fun _ => true) true 24 v d ps) :
    ∃ (la : Option Addr) (cap : Nat) (zs : List Int), v = .slice la zs.length cap ∧ IntsAt W la zs ∧ ∀ z ∈ zs, I64 z := by
  obtain ⟨a0, len0, cap0, rfl⟩ := okWide_slice Tryz.underlying24 hv
  obtain ⟨fuel, h⟩ := h
  rcases open_ints Tryz.underlying24 Tryz.underlying3 cells_intK h with ⟨h1, _⟩ | ⟨a, len, cap, zs, h1, hb, hl, hm, hzl, _, hc, hw⟩
  · simp [Value.cells] at h1
    obtain ⟨rfl, rfl, rfl⟩ := h1
    exact ⟨none, 0, [], rfl, fun i z hz => by simp at hz, fun z hz => by cases hz⟩
  · simp [Value.cells] at h1
    obtain ⟨rfl, rfl, rfl⟩ := h1
    have hzl' : zs.length = cap0 := by simpa using hzl
    have hlen : (zs.take len0).length = len0 := by rw [List.length_take]; omega
    refine ⟨some a, cap0, zs.take len0, by rw [hlen], fun i z hz => ?_, fun z hz => i64_wf (hw z (List.mem_of_mem_take hz))⟩
    have hi := (List.getElem?_eq_some_iff.1 hz).1
    rw [hlen] at hi
    have hz' : zs[i]? = some z := by rw [List.getElem?_take, if_pos hi] at hz; exact hz
    have hcell := hc i (by omega)
    have h0 := hc 0 (by omega)
    have hsp : a.spot = none := by
      have := World.cell?_spot h0
      simpa [Addr.add] using this
    obtain ⟨ab, ao, asp⟩ := a
    simp only at hsp
    subst hsp
    refine ⟨ab, ao, rfl, ?_⟩
    have e : zs.getD i 0 = z := by rw [List.getD_eq_getElem?_getD, hz']; rfl
    rw [e] at hcell
    rcases Nat.eq_zero_or_pos i with rfl | hi0
    · simpa [Addr.add] using hcell
    · simpa [Addr.add, show ¬ i = 0 by omega] using hcell
end Go.Proofs.YteebjgfalllbjaaGreatDoor
namespace Go.Proofs.YteebjgfalllbjaaGreatDoor
open Go.RowKit
section
variable {W w : World} {k X A B n1 n2 : Nat} {cv v : Value} {s : DS} {C F : Nat → Prop}
theorem need12 : needC [Rec.take 1 (kst 1 n1)] = 2 * n1 ∧ needC [Rec.take 1 (kst 1 n1), Rec.take 2 (kst 2 n2)] = 2 * n1 + 2 * n2 := by
  have e1 : (Rec.take 1 (kst 1 n1)).need = 2 * n1 := by show 2 * (kst 1 n1).length = _; rw [kst_len]
  have e2 : (Rec.take 2 (kst 2 n2)).need = 2 * n2 := by show 2 * (kst 2 n2).length = _; rw [kst_len]
  exact ⟨by simp [needC, e1], by simp [needC, e1, e2]⟩
end
end Go.Proofs.YteebjgfalllbjaaGreatDoor
