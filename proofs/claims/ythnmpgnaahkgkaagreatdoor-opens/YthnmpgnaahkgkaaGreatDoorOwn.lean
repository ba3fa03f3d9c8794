import Derived.Test.YthnmpgnaahkgkaaGreatDoorLo
import Derived.Laws.AppendOwnNone
namespace Go.Proofs.YthnmpgnaahkgkaaGreatDoor
open Go.RowKit

theorem pick_ok (c n : Int) (w : World) (h1 : -9223372036854775808 ≤ c) (h2 : c ≤ 9223372036854775807) (hn : 0 < n) (hn2 : n ≤ 1000000) :
    Calls Tryz.prog 12 #[.int .i64 c, .int .i64 n] w fun e w' => (∃ r : Int, e = .returned (.int .i64 r) ∧ 0 ≤ r ∧ r < n) ∧ w' = w := by
  have hn0 : ¬ n = 0 := by omega
  by_cases hc : c < 0
  · have ht : 0 ≤ (-(c + 1)).tmod n ∧ (-(c + 1)).tmod n < n := ⟨Int.tmod_nonneg n (by omega), Int.tmod_lt_of_pos _ hn⟩
    have HT : Hid (0 ≤ (-(c + 1)).tmod n ∧ (-(c + 1)).tmod n < n) := ht
    clear ht
    go_enter Tryz.func12, Tryz.ntmps12
    go_wp2
    go_ret
    refine ⟨⟨-(c + 1).tmod n, rfl, ?_⟩, rfl⟩
    have := HT.out
    rw [Int.neg_tmod] at this
    exact this
  · have ht : 0 ≤ c % n ∧ c % n < n := ⟨Int.emod_nonneg _ hn0, Int.emod_lt_of_pos _ hn⟩
    go_enter Tryz.func12, Tryz.ntmps12
    go_wp2
    go_ret
    exact ⟨⟨c % n, rfl, ht⟩, rfl⟩
theorem near_ok (c : Int) (w : World) (h1 : -9223372036854775808 ≤ c) (h2 : c ≤ 9223372036854775807) :
    Calls Tryz.prog 13 #[.int .i64 c] w fun e w' => (∃ r : Int, e = .returned (.int .i64 r)) ∧ w' = w := by
  go_enter Tryz.func13, Tryz.ntmps13
  go_wp2_with fail
  refine (pick_ok c 600 w h1 h2 (by decide) (by decide)).mono ?_
  rintro e w' ⟨⟨r, rfl, _, _⟩, rfl⟩
  go_wp2
  go_ret
  exact ⟨⟨r, rfl⟩, rfl⟩
/-- How many blocks a number asks for. -/
def nblk (a : Int) : Nat := if a < 0 then 0 else (a % 1000).toNat
theorem nblk_lt (a : Int) : nblk a < 1000 := by unfold nblk; split <;> omega
theorem blocks_ok (a : Int) (w : World) : Calls Tryz.prog 24 #[.int .i64 a] w fun e w' => e = .returned (.int .i64 (nblk a)) ∧ w' = w := by
  by_cases h : a < 0
  · have e0 : nblk a = 0 := by simp [nblk, h]
    rw [e0]
    clear e0
    go_enter Tryz.func24, Tryz.ntmps24
    go_wp2
    go_ret
    exact ⟨rfl, rfl⟩
  · have e0 : ((nblk a : Nat) : Int) = a % 1000 := by simp [nblk, h]; omega
    rw [e0]
    clear e0
    go_enter Tryz.func24, Tryz.ntmps24
    go_wp2
    go_ret
    exact ⟨rfl, rfl⟩
theorem arr_info : (Tryz.prog.info? 63).map (fun i => (i.zero, i.size, i.bytes)) = some (some (.agg z128), 128, 128) := by kernel_rfl
theorem made_get (n j : Nat) (h : j < n) : (madeCells z128 n)[j]? = some (.int .u8 0) := by
  have hm : j % 128 < 128 := Nat.mod_lt _ (by decide)
  have hz : z128[j % 128]! = .int .u8 0 := by
    rw [getElem!_pos z128 (j % 128) (by rw [z128_size]; exact hm)]; simp [z128]
  simp [madeCells, h, z128_size, hz]
theorem made_bs (n : Nat) : (madeCells z128 n).toList = List.replicate n (.int .u8 0) := by
  apply List.ext_getElem?
  intro i
  by_cases h : i < n
  · rw [List.getElem?_replicate, if_pos h, Array.getElem?_toList]; exact made_get n i h
  · rw [List.getElem?_replicate, if_neg h, List.getElem?_eq_none (by rw [Array.length_toList, size_madeCells]; omega)]
/-- A row that owns all it has is known whole. -/
theorem own_whole {w : World} {base e size g n : Nat} {xs : List Value} (h : w.ownsRow base e size (.slice (some ⟨g, 0, none⟩) n n) n xs) : w.heap[g]? = some (.cells xs.toArray e (0, 0)) := by
  rcases h.2 with ⟨hv, _⟩ | ⟨g', cap, cur, hv, hb, hg, _, _, hc, ht⟩
  · cases hv
  · simp only [Value.slice.injEq, Option.some.injEq, Addr.mk.injEq, and_true, true_and] at hv
    obtain ⟨rfl, rfl⟩ := hv
    rw [hg]
    have : cur = xs.toArray := by rw [← ht, List.take_of_length_le (by simp; omega)]
    rw [this]
def NewDiskPost (w : World) (a : Int) (e : Ending) (w' : World) : Prop := ∃ A B, e = .returned (.pointer (some ⟨A, 0, none⟩)) ∧ w.heap.size ≤ A ∧ w.heap.size ≤ B ∧
    DiskAt w' A B (nblk a) (.slice none 0 0) 0 0 ∧ RowsAt w' B (nblk a) (List.replicate (nblk a * 128) (.int .u8 0)) ∧ Fr (fun _ => False) w w'
set_option maxRecDepth 100000 in
set_option maxHeartbeats 1000000 in
theorem NewDisk_ok (a : Int) (w : World) : Calls Tryz.prog 22 #[.int .i64 a] w fun e w' => NewDiskPost w a e w' := by
  have hl := nblk_lt a
  obtain ⟨i0, hi, hz0, hz1, hz2⟩ := info_parts arr_info
  have key : ∀ w1 : World, w1.ownsRow w.heap.size 63 128 (.slice (some ⟨w.heap.size, 0, none⟩) (nblk a) (nblk a)) (nblk a) (madeCells z128 (nblk a * 128)).toList → w.grownBy w1 none →
      w.heap.size ≤ w1.heap.size ∧ DiskAt (w1.alloc (.cells (dcells w.heap.size (nblk a) (.slice none 0 0) 0 0) 62)) w1.heap.size w.heap.size (nblk a) (.slice none 0 0) 0 0 ∧ RowsAt (w1.alloc (.cells (dcells w.heap.size (nblk a) (.slice none 0 0) 0 0) 62)) w.heap.size (nblk a) (List.replicate (nblk a * 128) (.int .u8 0)) ∧ Fr (fun _ => False) w (w1.alloc (.cells (dcells w.heap.size (nblk a) (.slice none 0 0) 0 0) 62)) := by
    intro w1 ho hg
    have hw := own_whole ho
    rw [made_bs] at hw
    have hlt := lt_of_heap hw
    refine ⟨hg.size, heap_alloc_at _ _, ⟨by rw [heap_alloc_lt _ _ _ hlt]; exact hw, by simp, fun v hv => by rw [List.mem_replicate] at hv; rw [hv.2]; rfl⟩, ((Fr.refl _ _).grown hg (fun _ _ h => by cases h)).alloc _⟩
  have HK := key
  clear key
  by_cases h : a < 0
  · have e0 : nblk a = 0 := by simp [nblk, h]
    have E0 : Hid (nblk a = 0) := e0
    clear e0
    go_enter Tryz.func22, Tryz.ntmps22
    go_wp2_with (first | (at_make; refine wpList_make_full w rfl (.tmp 6) (.tmp 6) 59 rfl w.heap.size 63 i0 (.agg z128) 128 Tryz.underlying59 hi hz0 hz1 .i64 .i64 0 0 0 rfl rfl rfl rfl ?_ ?_ ?_ ?_; (rw [hz2]; decide); (unfold maxLen; decide); exact Nat.le_refl _; intro w1 ho hg))
    go_ret
    unfold NewDiskPost
    rw [show ((nblk a : Nat)) = 0 from E0.out] at HK ⊢
    obtain ⟨k1, k2, k3, k4⟩ := HK w1 ho hg
    exact ⟨_, _, rfl, k1, Nat.le_refl _, k2, k3, k4⟩
  · have e0 : a % 1000 = ((nblk a : Nat) : Int) := by simp [nblk, h]; omega
    have E0 : Hid (a % 1000 = ((nblk a : Nat) : Int)) := e0
    clear e0
    go_enter Tryz.func22, Tryz.ntmps22
    go_wp2_with (first | (at_make; refine wpList_make_full w rfl (.tmp 6) (.tmp 6) 59 rfl w.heap.size 63 i0 (.agg z128) 128 Tryz.underlying59 hi hz0 hz1 .i64 .i64 (a % 1000) (a % 1000) (nblk a) rfl rfl E0.out E0.out ?_ ?_ ?_ ?_; (rw [hz2]; omega); (unfold maxLen; omega); exact Nat.le_refl _; intro w1 ho hg))
    go_ret
    obtain ⟨k1, k2, k3, k4⟩ := HK w1 ho hg
    exact ⟨_, _, rfl, k1, Nat.le_refl _, k2, k3, k4⟩

/-- The numbers that a partner replies by are copied. -/
theorem int_info : (Tryz.prog.info? 3).map (fun i => (i.zero, i.size, i.bytes)) = some (some (.int .i64 0), 1, 8) := by kernel_rfl
def NewPartPost (w : World) (e : Ending) (w' : World) : Prop := ∃ Pp lv, e = .returned (.pointer (some ⟨Pp, 0, none⟩)) ∧ w.heap.size ≤ Pp ∧ PartAt w' Pp lv ∧ Fr (fun _ => False) w w'
set_option maxRecDepth 100000 in
set_option maxHeartbeats 1000000 in
theorem NewPartner_ok {w : World} {b0 r : Nat} {rv : Value} {rxs : List Value} (ho : w.ownsRow b0 3 1 rv r rxs) (h1 : ∀ v ∈ rxs, v.oneCell' = true) (hr : r < 1000000) :
    Calls Tryz.prog 23 #[rv] w fun e w' => NewPartPost w e w' := by
  obtain ⟨i0, hi, hz0, hz1, hz2⟩ := info_parts int_info
  rcases ho.2 with ⟨rfl, rfl⟩ | ⟨g, cap, cur, rfl, hb, hg, hnc, hcm, hcs, ht⟩
  · go_enter Tryz.func23, Tryz.ntmps23
    go_wp2
    go_ret
    exact ⟨_, _, rfl, Nat.le_refl _, heap_alloc_at _ _, (Fr.refl _ _).alloc _⟩
  · have hc := ho.cells (g := g) rfl
    go_enter Tryz.func23, Tryz.ntmps23
    go_wp2_with (first | (at_builtin; refine wpList_append_own w rfl (.const (.slice none 0 0)) (.tmp 3) 24 rfl w.heap.size 3 i0 (.int .i64 0) 1 8 Tryz.underlying24 hi hz0 hz1 hz2 rfl (by decide) (.slice none 0 0) 0 [] rfl (World.ownsRow_nil _ _ _ _) ⟨g, 0, none⟩ r cap rxs rfl ?_ hc h1 ?_ ?_ ?_ ?_; (have := ho.1; omega); (unfold maxLen; omega); omega; exact Nat.le_refl _; intro v' w1 hown' hgrow _; obtain ⟨ao, nn, cc, rfl⟩ : ∃ ao nn cc, v' = .slice ao nn cc := by (rcases hown'.2 with ⟨rfl, _⟩ | ⟨_, _, _, rfl, _⟩ <;> exact ⟨_, _, _, rfl⟩)))
    go_ret
    exact ⟨_, _, rfl, hgrow.size, heap_alloc_at _ _, ((Fr.refl _ _).grown hgrow (fun _ _ h => by cases h)).alloc _⟩
end Go.Proofs.YthnmpgnaahkgkaaGreatDoor
