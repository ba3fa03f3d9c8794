import Derived.Test.YteebjgfalllbjaaGreatDoorCAsTlLm
import Derived.Laws.AppendOwnNone
namespace Go.Proofs.YteebjgfalllbjaaGreatDoor
open Go.RowKit

def MayAt (w : World) (r : RS) : Prop := ∃ g, r.ma = some ⟨g, 0, none⟩ ∧ w.heap[g]? = some (.cells #[.int .i64 r.S.1, .int .i64 r.S.2] 220 (0, 0))

end Go.Proofs.YteebjgfalllbjaaGreatDoor
namespace Go.Proofs.YteebjgfalllbjaaGreatDoor
open Go.RowKit


def StepsAt (w : World) (b : Nat) (sa : Option Addr) (sc : Nat) (st : List SS) : Prop := w.ownsRow b 165 2 (.slice sa st.length sc) st.length (scells st)
structure LAt (w : World) (b : Nat) (Lv : Value) (L : List RS) : Prop where
 o : w.ownsRow b 223 7 Lv L.length (rcells L)
 s : ∀ r ∈ L, StepsAt w b r.sa r.sc r.st
 m : ∀ r ∈ L, MayAt w r ∧ r.may = [r.S] ∧ r.mc = 1
 n : ∀ r ∈ L, r.st.length ≤ 100000

end Go.Proofs.YteebjgfalllbjaaGreatDoor
namespace Go.Proofs.YteebjgfalllbjaaGreatDoor
open Go.RowKit

def nblk (a : Int) : Nat := if a < 0 then 0 else (a % 1000).toNat
theorem nblk_lt (a : Int) : nblk a < 1000 := by unfold nblk; split <;> omega
theorem arr_info : (Tryz.prog.info? 97).map (fun i => (i.zero, i.size, i.bytes)) = some (some (.agg z128), 128, 128) := by kernel_rfl
theorem made_get (n j : Nat) (h : j < n) : (madeCells z128 n)[j]? = some (.int .u8 0) := by
 have hm : j % 128 < 128 := Nat.mod_lt _ (by decide)
 have hz : z128[j % 128]! = .int .u8 0 := by
  rw [getElem!_pos z128 (j % 128) (by rw [z128_size]; exact hm)]; simp [z128]
 simp [madeCells, h, z128_size, hz]
theorem made_bs (n : Nat) : (madeCells z128 n).toList = List.replicate n (.int .u8 0) := by
 apply List.ext_getElem?
 intro i
 by_cases h : i < n
 ·rw [List.getElem?_replicate, if_pos h, Array.getElem?_toList]; exact made_get n i h
 ·rw [List.getElem?_replicate, if_neg h, List.getElem?_eq_none (by rw [Array.length_toList, size_madeCells]; omega)]
theorem own_whole {w : World} {base e size g n : Nat} {xs : List Value} (h : w.ownsRow base e size (.slice (some ⟨g, 0, none⟩) n n) n xs) : w.heap[g]? = some (.cells xs.toArray e (0, 0)) := by
 rcases h.2 with ⟨hv, _⟩ | ⟨g', cap, cur, hv, hb, hg, _, _, hc, ht⟩
 ·cases hv
 ·simp only [Value.slice.injEq, Option.some.injEq, Addr.mk.injEq, and_true, true_and] at hv
  obtain ⟨rfl, rfl⟩ := hv
  rw [hg]
  have : cur = xs.toArray := by rw [← ht, List.take_of_length_le (by simp; omega)]
  rw [this]
def NewDiskPost (w : World) (a : Int) (e : Ending) (w' : World) : Prop := ∃ A B, e = .returned (.pointer (some ⟨A, 0, none⟩)) ∧ w.heap.size ≤ A ∧ w.heap.size ≤ B ∧
  DiskAt w' A B (nblk a) (.slice none 0 0) 0 0 ∧ RowsAt w' B (nblk a) (List.replicate (nblk a * 128) (.int .u8 0)) ∧ Fr (fun _ => False) w w'
set_option maxRecDepth 100000 in
set_option maxHeartbeats 1000000 in
theorem NewDisk_ok (a : Int) (w : World) : Calls Tryz.prog 39 #[.int .i64 a] w fun e w' => NewDiskPost w a e w' := by
 have hl := nblk_lt a
 obtain ⟨i0, hi, hz0, hz1, hz2⟩ := info_parts arr_info
 have key : ∀ w1 : World, w1.ownsRow w.heap.size 97 128 (.slice (some ⟨w.heap.size, 0, none⟩) (nblk a) (nblk a)) (nblk a) (madeCells z128 (nblk a * 128)).toList → w.grownBy w1 none →
   w.heap.size ≤ w1.heap.size ∧ DiskAt (w1.alloc (.cells (dcells w.heap.size (nblk a) (.slice none 0 0) 0 0) 96)) w1.heap.size w.heap.size (nblk a) (.slice none 0 0) 0 0 ∧ RowsAt (w1.alloc (.cells (dcells w.heap.size (nblk a) (.slice none 0 0) 0 0) 96)) w.heap.size (nblk a) (List.replicate (nblk a * 128) (.int .u8 0)) ∧ Fr (fun _ => False) w (w1.alloc (.cells (dcells w.heap.size (nblk a) (.slice none 0 0) 0 0) 96)) := by
  intro w1 ho hg
  have hw := own_whole ho
  rw [made_bs] at hw
  have hlt := lt_of_heap hw
  refine ⟨hg.size, heap_alloc_at _ _, ⟨by rw [heap_alloc_lt _ _ _ hlt]; exact hw, by simp, fun v hv => by rw [List.mem_replicate] at hv; rw [hv.2]; rfl⟩, ((Fr.refl _ _).grown hg (fun _ _ h => by cases h)).alloc _⟩
 have HK := key
 clear key
 by_cases h : a < 0
 ·have e0 : nblk a = 0 := by simp [nblk, h]
  have E0 : Hid (nblk a = 0) := e0
  clear e0
  go_enter Tryz.func39, Tryz.ntmps39
  go_wp2_with (first | (at_make; refine wpList_make_full w rfl (.tmp 6) (.tmp 6) 93 rfl w.heap.size 97 i0 (.agg z128) 128 Tryz.underlying93 hi hz0 hz1 .i64 .i64 0 0 0 rfl rfl rfl rfl ?_ ?_ ?_ ?_; (rw [hz2]; decide); (unfold maxLen; decide); exact Nat.le_refl _; intro w1 ho hg))
  go_ret
  unfold NewDiskPost
  rw [show ((nblk a : Nat)) = 0 from E0.out] at HK ⊢
  obtain ⟨k1, k2, k3, k4⟩ := HK w1 ho hg
  exact ⟨_, _, rfl, k1, Nat.le_refl _, k2, k3, k4⟩
 ·have e0 : a % 1000 = ((nblk a : Nat) : Int) := by simp [nblk, h]; omega
  have E0 : Hid (a % 1000 = ((nblk a : Nat) : Int)) := e0
  clear e0
  go_enter Tryz.func39, Tryz.ntmps39
  go_wp2_with (first | (at_make; refine wpList_make_full w rfl (.tmp 6) (.tmp 6) 93 rfl w.heap.size 97 i0 (.agg z128) 128 Tryz.underlying93 hi hz0 hz1 .i64 .i64 (a % 1000) (a % 1000) (nblk a) rfl rfl E0.out E0.out ?_ ?_ ?_ ?_; (rw [hz2]; omega); (unfold maxLen; omega); exact Nat.le_refl _; intro w1 ho hg))
  go_ret
  obtain ⟨k1, k2, k3, k4⟩ := HK w1 ho hg
  exact ⟨_, _, rfl, k1, Nat.le_refl _, k2, k3, k4⟩

theorem int_info : (Tryz.prog.info? 3).map (fun i => (i.zero, i.size, i.bytes)) = some (some (.int .i64 0), 1, 8) := by kernel_rfl
end Go.Proofs.YteebjgfalllbjaaGreatDoor
