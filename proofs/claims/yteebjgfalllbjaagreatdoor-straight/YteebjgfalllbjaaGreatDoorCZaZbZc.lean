import Derived.Test.YteebjgfalllbjaaGreatDoorCApiReadBs
import Derived.Test.YteebjgfalllbjaaGreatDoorCOhWriteFlush
namespace Go.Proofs.YteebjgfalllbjaaGreatDoor
open Go.RowKit
structure DP where
 calls : Int
 writes : Int
 told : Int
 off : Int
 lo : Int
 hi : Int
 cap : Nat
def dkc (B n : Nat) (cache : Value) (d : DP) : Array Value := #[.slice (some ⟨B, 0, none⟩) n d.cap, cache, .int .i64 d.calls, .int .i64 d.writes, .int .i64 d.told, .int .i64 d.off, .int .i64 d.lo, .int .i64 d.hi]
def DkAt (w : World) (A B n : Nat) (cache : Value) (d : DP) : Prop := w.heap[A]? = some (.cells (dkc B n cache d) 96 (0, 0))
def DP.bad (d : DP) : Bool := decide ((0 ≤ d.off ∧ d.off ≤ d.calls) ∨ (d.lo ≤ d.calls ∧ d.calls < d.hi))
def DP.next (d : DP) : DP := { d with calls := d.calls + 1, told := if d.bad = true then d.told + 1 else d.told }
def DP.wrote (d : DP) : DP := { d with writes := d.writes + 1 }
structure DP.Ok (d : DP) : Prop where
 c0 : 0 ≤ d.calls
 c1 : d.calls < 1000000000
 w0 : 0 ≤ d.writes
 w1 : d.writes < 1000000000
 t0 : 0 ≤ d.told
 t1 : d.told < 1000000000
section
variable {w w' : World} {A B n : Nat} {cache : Value} {d : DP}
theorem DkAt.of {calls writes : Int} (h : DiskAt w A B n cache calls writes) : DkAt w A B n cache ⟨calls, writes, 0, -1, 0, 0, n⟩ := h
theorem DkAt.c (h : DkAt w A B n cache d) {i : Nat} {v : Value} (hi : (dkc B n cache d)[i]? = some v) : w.cell? ⟨A, i, none⟩ = some v := (cell_of_row w A i _ _ _ h).trans hi
theorem DkAt.c0 (h : DkAt w A B n cache d) : w.cell? ⟨A, 0, none⟩ = some (.slice (some ⟨B, 0, none⟩) n d.cap) := h.c rfl
theorem DkAt.c1 (h : DkAt w A B n cache d) : w.cell? ⟨A, 1, none⟩ = some cache := h.c rfl
theorem DkAt.c3 (h : DkAt w A B n cache d) : w.cell? ⟨A, 3, none⟩ = some (.int .i64 d.writes) := h.c rfl
theorem DkAt.drew (h : DkAt w A B n cache d) : DkAt w.drew A B n cache d := h
theorem DkAt.fz (h : DkAt w A B n cache d) (j : Nat) : w.frozen? ⟨A, j, none⟩ = false := frozen_of_row w A j _ _ h
theorem DkAt.lt (h : DkAt w A B n cache d) : A < w.heap.size := lt_of_heap h
theorem DkAt.fr {S : Nat → Prop} (h : DkAt w A B n cache d) (hf : Fr S w w') (hn : ¬ S A) : DkAt w' A B n cache d := hf.keep h hn
theorem DkAt.alloc (h : DkAt w A B n cache d) (o : Obj) : DkAt (w.alloc o) A B n cache d := by
 unfold DkAt; rw [heap_alloc_lt _ _ _ h.lt]; exact h
theorem DkAt.set1 (h : DkAt w A B n cache d) (v : Value) : DkAt (w.setCell ⟨A, 1, none⟩ v) A B n v d := heap_setCell_at w A 1 _ _ v h
theorem DkAt.set2 (h : DkAt w A B n cache d) (v : Int) : DkAt (w.setCell ⟨A, 2, none⟩ (.int .i64 v)) A B n cache { d with calls := v } := heap_setCell_at w A 2 _ _ _ h
theorem DkAt.set3 (h : DkAt w A B n cache d) (v : Int) : DkAt (w.setCell ⟨A, 3, none⟩ (.int .i64 v)) A B n cache { d with writes := v } := heap_setCell_at w A 3 _ _ _ h
theorem DkAt.set4 (h : DkAt w A B n cache d) (v : Int) : DkAt (w.setCell ⟨A, 4, none⟩ (.int .i64 v)) A B n cache { d with told := v } := heap_setCell_at w A 4 _ _ _ h
theorem DkAt.set5 (h : DkAt w A B n cache d) (v : Int) : DkAt (w.setCell ⟨A, 5, none⟩ (.int .i64 v)) A B n cache { d with off := v } := heap_setCell_at w A 5 _ _ _ h
theorem DkAt.set6 (h : DkAt w A B n cache d) (v : Int) : DkAt (w.setCell ⟨A, 6, none⟩ (.int .i64 v)) A B n cache { d with lo := v } := heap_setCell_at w A 6 _ _ _ h
theorem DkAt.set7 (h : DkAt w A B n cache d) (v : Int) : DkAt (w.setCell ⟨A, 7, none⟩ (.int .i64 v)) A B n cache { d with hi := v } := heap_setCell_at w A 7 _ _ _ h
theorem DP.bad_iff : d.bad = true ↔ (0 ≤ d.off ∧ d.off ≤ d.calls) ∨ (d.lo ≤ d.calls ∧ d.calls < d.hi) := by simp [DP.bad]
set_option maxHeartbeats 1000000 in
theorem fails_gen (h : DkAt w A B n cache d) (ho : d.Ok) :
  Calls Tryz.prog 208 #[.pointer (some ⟨A, 0, none⟩)] w fun e w' => e = .returned (.bool d.bad) ∧ DkAt w' A B n cache d.next ∧ Fr (· = A) w w' ∧ w'.heap.size = w.heap.size := by
 have q2 := h.set2 (d.calls + 1)
 have q4 := q2.set4 (d.told + 1)
 have c2 : w.cell? ⟨A, 2, none⟩ = some (.int .i64 d.calls) := h.c rfl
 have c4 : w.cell? ⟨A, 4, none⟩ = some (.int .i64 d.told) := h.c rfl
 have c5 : w.cell? ⟨A, 5, none⟩ = some (.int .i64 d.off) := h.c rfl
 have c6 : w.cell? ⟨A, 6, none⟩ = some (.int .i64 d.lo) := h.c rfl
 have c7 : w.cell? ⟨A, 7, none⟩ = some (.int .i64 d.hi) := h.c rfl
 have f2 := h.fz 2
 have f4 := h.fz 4
 have hc0 := ho.c0
 have hc1 := ho.c1
 have ht0 := ho.t0
 have ht1 := ho.t1
 have HB : Hid (∀ b, ((0 ≤ d.off ∧ d.off ≤ d.calls) ∨ (d.lo ≤ d.calls ∧ d.calls < d.hi) ↔ b = true) → d.bad = b) := fun b hb => by
  cases b with
  | true => exact DP.bad_iff.2 (hb.2 rfl)
  | false =>
   cases hd : d.bad with
   | false => rfl
   | true => exact absurd (hb.1 (DP.bad_iff.1 hd)) (by decide)
 have HQ2 : Hid (DkAt (w.setCell ⟨A, 2, none⟩ (.int .i64 (d.calls + 1))) A B n cache { d with calls := d.calls + 1 }) := q2
 have HQ4 : Hid (DkAt ((w.setCell ⟨A, 2, none⟩ (.int .i64 (d.calls + 1))).setCell ⟨A, 4, none⟩ (.int .i64 (d.told + 1))) A B n cache { d with calls := d.calls + 1, told := d.told + 1 }) := q4
 have HF2 : Hid (Fr (· = A) w (w.setCell ⟨A, 2, none⟩ (.int .i64 (d.calls + 1)))) := Fr.set1 _ _ _ _
 have HF4 : Hid (Fr (· = A) w ((w.setCell ⟨A, 2, none⟩ (.int .i64 (d.calls + 1))).setCell ⟨A, 4, none⟩ (.int .i64 (d.told + 1)))) := HF2.out.trans (Fr.set1 _ _ _ _) (fun _ _ h => h)
 clear h q2 q4 ho
 have good : d.bad = false → Hid (Ending.returned (.bool false) = Ending.returned (.bool d.bad) ∧ DkAt (w.setCell ⟨A, 2, none⟩ (.int .i64 (d.calls + 1))) A B n cache d.next ∧ Fr (· = A) w (w.setCell ⟨A, 2, none⟩ (.int .i64 (d.calls + 1))) ∧ (w.setCell ⟨A, 2, none⟩ (.int .i64 (d.calls + 1))).heap.size = w.heap.size) := fun hb => by
  refine ⟨by rw [hb], ?_, HF2.out, by simp⟩
  have e : d.next = { d with calls := d.calls + 1 } := by unfold DP.next; rw [hb]; simp
  rw [e]; exact HQ2.out
 have evil : d.bad = true → Hid (Ending.returned (.bool true) = Ending.returned (.bool d.bad) ∧ DkAt ((w.setCell ⟨A, 2, none⟩ (.int .i64 (d.calls + 1))).setCell ⟨A, 4, none⟩ (.int .i64 (d.told + 1))) A B n cache d.next ∧ Fr (· = A) w ((w.setCell ⟨A, 2, none⟩ (.int .i64 (d.calls + 1))).setCell ⟨A, 4, none⟩ (.int .i64 (d.told + 1))) ∧ ((w.setCell ⟨A, 2, none⟩ (.int .i64 (d.calls + 1))).setCell ⟨A, 4, none⟩ (.int .i64 (d.told + 1))).heap.size = w.heap.size) := fun hb => by
  refine ⟨by rw [hb], ?_, HF4.out, by simp⟩
  have e : d.next = { d with calls := d.calls + 1, told := d.told + 1 } := by unfold DP.next; rw [hb]; simp
  rw [e]; exact HQ4.out
 clear HQ2 HQ4 HF2 HF4
 by_cases h1 : 0 ≤ d.off ∧ d.off ≤ d.calls
 ·have HE := evil (HB.out true (by simp; omega))
  have x1 : decide (0 ≤ d.off) = true := by simp; omega
  have x2 : decide (d.off ≤ d.calls) = true := by simp; omega
  clear good evil
  go_enter Tryz.func208, Tryz.ntmps208
  go_wp2
  go_ret
  exact HE.out
 ·by_cases h2 : d.lo ≤ d.calls ∧ d.calls < d.hi
  ·have HE := evil (HB.out true (by simp; omega))
   have x3 : decide (d.lo ≤ d.calls) = true := by simp; omega
   have x4 : decide (d.calls < d.hi) = true := by simp; omega
   clear good evil
   by_cases h3 : 0 ≤ d.off
   ·have x1 : decide (0 ≤ d.off) = true := by simp; omega
    have x2 : decide (d.off ≤ d.calls) = false := by simp; omega
    go_enter Tryz.func208, Tryz.ntmps208
    go_wp2
    go_ret
    exact HE.out
   ·have x1 : decide (0 ≤ d.off) = false := by simp; omega
    go_enter Tryz.func208, Tryz.ntmps208
    go_wp2
    go_ret
    exact HE.out
  ·have HE := good (HB.out false (by simp; omega))
   clear good evil
   by_cases h3 : 0 ≤ d.off
   ·have x1 : decide (0 ≤ d.off) = true := by simp; omega
    have x2 : decide (d.off ≤ d.calls) = false := by simp; omega
    by_cases h4 : d.lo ≤ d.calls
    ·have x3 : decide (d.lo ≤ d.calls) = true := by simp; omega
     have x4 : decide (d.calls < d.hi) = false := by simp; omega
     go_enter Tryz.func208, Tryz.ntmps208
     go_wp2
     go_ret
     exact HE.out
    ·have x3 : decide (d.lo ≤ d.calls) = false := by simp; omega
     go_enter Tryz.func208, Tryz.ntmps208
     go_wp2
     go_ret
     exact HE.out
   ·have x1 : decide (0 ≤ d.off) = false := by simp; omega
    by_cases h4 : d.lo ≤ d.calls
    ·have x3 : decide (d.lo ≤ d.calls) = true := by simp; omega
     have x4 : decide (d.calls < d.hi) = false := by simp; omega
     go_enter Tryz.func208, Tryz.ntmps208
     go_wp2
     go_ret
     exact HE.out
    ·have x3 : decide (d.lo ≤ d.calls) = false := by simp; omega
     go_enter Tryz.func208, Tryz.ntmps208
     go_wp2
     go_ret
     exact HE.out
theorem none_gen (h : DkAt w A B n cache d) (i : Int) (h0 : 0 ≤ i) (h1 : i < n) :
  Calls Tryz.prog 209 #[.pointer (some ⟨A, 0, none⟩), .int .i64 i] w fun e w' => e = .returned (.bool false) ∧ w' = w := by
 have c0 : w.cell? ⟨A, 0, none⟩ = some (.slice (some ⟨B, 0, none⟩) n d.cap) := h.c rfl
 have hd : decide (i < 0) = false := by simp; omega
 have hd2 : decide ((n : Int) ≤ i) = false := by simp; omega
 clear h
 go_enter Tryz.func209, Tryz.ntmps209
 go_wp2
 go_ret
 exact ⟨rfl, rfl⟩
end
end Go.Proofs.YteebjgfalllbjaaGreatDoor
namespace Go.Proofs.YteebjgfalllbjaaGreatDoor
open Go.RowKit
def blkOf (bs : List Value) (i : Nat) : List Value := (bs.drop (i * 128)).take 128
theorem blk_len {bs : List Value} {n i : Nat} (h : bs.length = n * 128) (hi : i < n) : (blkOf bs i).length = 128 := by
 unfold blkOf; rw [List.length_take, List.length_drop]; omega
theorem splice_len {b c : List Value} {o : Nat} (h : o + c.length ≤ b.length) : (splice b o c).length = b.length := by
 simp only [splice, List.length_append, List.length_take, List.length_drop]; omega
theorem blk_splice {b c : List Value} {n a i : Nat} (hb : b.length = n * 128) (hc : c.length = 128) (ha : a < n) (hi : i < n) : blkOf (splice b (a * 128) c) i = if a = i then c else blkOf b i := by
 unfold blkOf splice
 by_cases h : a = i
 ·subst h
  rw [if_pos rfl, List.drop_append, List.drop_of_length_le (by rw [List.length_take]; omega), List.length_take, show a * 128 - min (a * 128) b.length = 0 by omega, List.drop_zero, List.nil_append, List.take_append, List.take_of_length_le (by omega), hc, Nat.sub_self, List.take_zero, List.append_nil]
 ·rw [if_neg h]
  rcases Nat.lt_or_gt_of_ne h with h | h
  ·rw [List.drop_append, List.drop_of_length_le (l := b.take _) (by rw [List.length_take]; omega), List.nil_append, List.drop_append, List.drop_of_length_le (l := c) (by rw [List.length_take]; omega), List.nil_append, List.drop_drop, List.length_take, hc]
   exact congrArg (fun x => (b.drop x).take 128) (by omega)
  ·rw [List.drop_append_of_le_length (by rw [List.length_take]; omega), List.take_append_of_le_length (by rw [List.length_drop, List.length_take]; omega), List.drop_take, List.take_take]
   congr 1
   omega
theorem lain_len {bs : List Value} {n : Nat} (hb : bs.length = n * 128) : ∀ (ents : List (Nat × List Value)), (∀ p ∈ ents, p.2.length = 128) → (∀ p ∈ ents, p.1 < n) → (lain bs ents).length = n * 128 := by
 intro ents
 induction ents generalizing bs with
 | nil => intro _ _; exact hb
 | cons p l ih =>
  intro h1 h2
  have e : lain bs (p :: l) = lain (splice bs (p.1 * 128) p.2) l := rfl
  rw [e]
  refine ih ?_ (fun q hq => h1 q (by simp [hq])) (fun q hq => h2 q (by simp [hq]))
  have := h1 p (by simp)
  have := h2 p (by simp)
  rw [splice_len (by omega), hb]
def ioV : Value := .iface 59 (.int .i64 5)
structure EnqAt (w : World) (base k n : Nat) (cache : Value) (ents : List (Nat × List Value)) : Prop where
 o : w.ownsRow base 101 129 cache k (flat ents)
 k : k < 1000000
 l : ∀ p ∈ ents, p.2.length = 128
 one : ∀ p ∈ ents, ∀ v ∈ p.2, v.oneCell' = true
 n : ∀ p ∈ ents, p.1 < n
theorem EnqAt.len {w : World} {base k n : Nat} {cache : Value} {ents : List (Nat × List Value)} (h : EnqAt w base k n cache ents) : ents.length = k := by
 have h1 := flat_len ents h.l
 have h2 := h.o.1
 omega
theorem EnqAt.fr {S : Nat → Prop} {w w' : World} {base k n : Nat} {cache : Value} {ents : List (Nat × List Value)} (h : EnqAt w base k n cache ents) (hf : Fr S w w') (hS : ∀ b c, w.heap[b]? = some (.cells c 101 (0, 0)) → cache.ownBlock = some b → ¬ S b) : EnqAt w' base k n cache ents := by
 refine ⟨⟨h.o.1, ?_⟩, h.k, h.l, h.one, h.n⟩
 rcases h.o.2 with hn | ⟨g, cap, cur, rfl, hb, hg, rest⟩
 ·exact .inl hn
 ·exact .inr ⟨g, cap, cur, rfl, hb, hf.keep hg (hS g cur hg rfl), rest⟩
set_option maxRecDepth 100000 in
set_option maxHeartbeats 1000000 in
theorem Read_bad {w : World} {A B n : Nat} {cache : Value} {d : DP} (h : DkAt w A B n cache d) (ho : d.Ok) (hb : d.bad = true) (i : Int) :
  Calls Tryz.prog 206 #[.pointer (some ⟨A, 0, none⟩), .int .i64 i] w fun e w' => e = .returned (.tuple #[.slice none 0 0, ioV]) ∧ DkAt w' A B n cache d.next ∧ Fr (· = A) w w' := by
 go_enter Tryz.func206, Tryz.ntmps206
 go_wp2_with fail
 refine (fails_gen h ho).mono ?_
 rintro e w1 ⟨rfl, hd1, hf1, hs1⟩
 rw [hb]
 have HE : Hid (DkAt w1 A B n cache d.next ∧ Fr (· = A) w w1) := ⟨hd1, hf1⟩
 clear hd1 hf1 hs1
 go_wp2
 go_ret2
 exact ⟨rfl, HE.out⟩
set_option maxRecDepth 100000 in
set_option maxHeartbeats 1000000 in
theorem Read_good {w : World} {A B n : Nat} {cache : Value} {d : DP} {bs : List Value} (h : DkAt w A B n cache d) (ho : d.Ok) (hbad : d.bad = false) (hm : n ≤ d.cap) (hr : RowsAt w B d.cap bs) {base k : Nat} {ents : List (Nat × List Value)} (hE : EnqAt w base k n cache ents) (i : Nat) (hi : i < n) :
  Calls Tryz.prog 206 #[.pointer (some ⟨A, 0, none⟩), .int .i64 i] w fun e w' => e = .returned (.tuple #[.slice (some ⟨w.heap.size, 0, none⟩) 128 128, .nilIface]) ∧ w'.heap[w.heap.size]? = some (.cells (blkOf (lain bs ents) i).toArray 5 (0, 0)) ∧ DkAt w' A B n cache d.next ∧ Fr (· = A) w w' := by
 have hA := h.lt
 have hlen := hE.len
 obtain ⟨hb, hl, hone⟩ := hr
 have hAB : A ≠ B := by
  intro e; subst e
  have := h.symm.trans hb
  simp at this
 have hcl : (blkOf bs i).length = 128 := blk_len hl (Nat.lt_of_lt_of_le hi hm)
 have hone' : ∀ v ∈ blkOf bs i, v.oneCell' = true := fun v hv => hone v (List.mem_of_mem_drop (List.mem_of_mem_take hv))
 have hnew : z128.toList.take 0 ++ (blkOf bs i ++ z128.toList.drop (0 + (blkOf bs i).length)) = blkOf bs i := by
  rw [hcl, List.drop_of_length_le (l := z128.toList) (by rw [Array.length_toList, z128_size]; decide)]; simp
 have hsrcs : ∀ w1 : World, w1.heap[B]? = some (.cells bs.toArray 97 (0, 0)) → ∀ j v, (blkOf bs i)[j]? = some v → w1.cell? ((⟨B, i * 128, none⟩ : Addr).add j) = some v := fun w1 hw1 => src_of_row hw1 (i * 128) 128
 obtain ⟨cs, HCS⟩ : ∃ cs, Hid (cs = blkOf bs i) := ⟨_, rfl⟩
 rw [← HCS.out] at hcl hone' hnew hsrcs
 obtain ⟨ao, cap, hcv⟩ : ∃ ao cap, cache = .slice ao k cap := by
  rcases hE.o.2 with ⟨rfl, rfl⟩ | ⟨g, cap, cur, rfl, _⟩
  ·exact ⟨_, _, rfl⟩
  ·exact ⟨_, _, rfl⟩
 subst hcv
 have HB : Hid (bs.length = d.cap * 128) := hl
 go_enter Tryz.func206, Tryz.ntmps206
 go_wp2_with fail
 refine (fails_gen h ho).mono ?_
 rintro e w1 ⟨rfl, hd1, hf1, hs1⟩
 rw [hbad]
 have HS1 : Hid (w1.heap.size = w.heap.size) := hs1
 clear hs1
 have hb1 := hf1.keep hb hAB.symm
 have HE1 : Hid (EnqAt w1 base k n (.slice ao k cap) ents) := hE.fr hf1 (fun b c hb _ e => by subst e; rw [h] at hb; simp at hb)
 go_wp2_with fail
 refine (none_gen hd1 _ (by omega) (by omega)).mono ?_
 rintro e w' ⟨rfl, rfl⟩
 have c0' : (w'.alloc (.cells z128 5)).cell? ⟨A, 0, none⟩ = some (.slice (some ⟨B, 0, none⟩) n d.cap) := (hd1.alloc (.cells z128 5)).c rfl
 have c1' : (w'.alloc (.cells z128 5)).cell? ⟨A, 1, none⟩ = some (.slice ao k cap) := (hd1.alloc (.cells z128 5)).c rfl
 have hsrc := hsrcs (w'.alloc (.cells z128 5)) (by rw [heap_alloc_lt _ _ _ (lt_of_heap hb1)]; exact hb1)
 have hii : (i : Int) < n := by omega
 go_wp2_with (first
  | (refine wpList_makeSlice 85 (.const (.int .i64 128)) (.const (.int .i64 128)) rfl rfl (by exact makeBytes128 _) ?_)
  | (refine wpList_copy_to rfl (.tmp 18) (.tmp 25) 85 85 rfl 5 Tryz.underlying85 u8size w'.heap.size 0 128 128 ⟨B, i * 128, none⟩ 128 128 rfl rfl z128 5 (heap_alloc_at _ _) cs (by rw [hcl]; rfl) hsrc (by rw [hcl, z128_size]; decide) hone' cs hnew ?_; intro w2 HW2; have c12 : w2.cell? ⟨A, 1, none⟩ = some (.slice ao k cap) := by (rw [HW2.out, cell_setRow_other _ _ _ _ (by have := hd1.lt; simp; omega)]; exact c1')))
 obtain ⟨G, HG⟩ : ∃ G, Hid (G = w'.heap.size) := ⟨_, rfl⟩
 have hs2 : w2.heap[G]? = some (.cells cs.toArray 5 (0, 0)) := by rw [HW2.out, HG.out]; exact setRow_heap _ _ _ _ _ _ (heap_alloc_at _ _)
 have hf12 : Fr (fun _ => False) w' w2 := by rw [HW2.out]; exact ((Fr.refl _ _).alloc _).setRow _ (fun hh => by omega) _
 have hd2 : DkAt w2 A B n (.slice ao k cap) d.next := hd1.fr hf12 (fun h => h)
 have HI : Hid (w2.heap[G]? = some (.cells (blkOf (lain bs (ents.take 0)) i).toArray 5 (0, 0)) ∧ DkAt w2 A B n (.slice ao k cap) d.next ∧ EnqAt w2 base k n (.slice ao k cap) ents ∧ Fr (· = A) w w2) := ⟨by rw [HCS.out] at hs2; simpa [lain] using hs2, hd2, HE1.out.fr hf12 (fun _ _ _ _ h => h), hf1.trans (hf12.mono (fun _ _ h => h.elim)) (fun _ _ h => h)⟩
 have hGw : w.heap.size ≤ G := by rw [HG.out, HS1.out]; exact Nat.le_refl _
 have HGS : Hid (G = w.heap.size) := by rw [HG.out]; exact HS1.out
 rw [← HG.out]
 have HLEN : Hid (ents.length = k) := hlen
 have hk6 := hE.k
 have HLL : Hid ((∀ p ∈ ents, p.2.length = 128) ∧ (∀ p ∈ ents, ∀ v ∈ p.2, v.oneCell' = true) ∧ (∀ p ∈ ents, p.1 < n)) := ⟨hE.l, hE.one, hE.n⟩
 clear hs2 hf12 hd2 c12 HW2 hsrc c0' c1' HE1 hd1 hb1 hsrcs hnew hone' hcl hf1 hlen HS1 hE h hb hone HG
 go_loopw [32] (fun c wr => ∃ j : Nat, j ≤ k ∧ c = .int .i64 j ∧ Hid (wr.heap[G]? = some (.cells (blkOf (lain bs (ents.take j)) i).toArray 5 (0, 0)) ∧ DkAt wr A B n (.slice ao k cap) d.next ∧ EnqAt wr base k n (.slice ao k cap) ents ∧ Fr (· = A) w wr)) (fun c _ => k - (intOf c).toNat)
 case atStart => exact ⟨0, Nat.zero_le _, rfl, HI⟩
 case round =>
  obtain ⟨j, hjk, rfl, HR⟩ := hrel
  by_cases hlt : j < k
  ·obtain ⟨p, hp⟩ : ∃ p, ents[j]? = some p := by
    have := HLEN.out
    exact ⟨_, List.getElem?_eq_getElem (by omega)⟩
   obtain ⟨a, dd⟩ := p
   have hpm : (a, dd) ∈ ents := List.mem_of_getElem? hp
   have hdl : dd.length = 128 := HLL.out.1 _ hpm
   have hdo : ∀ v ∈ dd, v.oneCell' = true := HLL.out.2.1 _ hpm
   have han : a < n := HLL.out.2.2 _ hpm
   obtain ⟨g, cap', hform, _, _⟩ := HR.out.2.2.1.o.form (by omega)
   simp only [Value.slice.injEq, true_and] at hform
   obtain ⟨rfl, rfl⟩ := hform
   have hrg := range_own HR.out.2.2.1.o HLL.out.1 hp
   have hwl : (Value.int .i64 a :: dd).length = 129 := by simp [hdl]
   have hwo : ∀ v ∈ (Value.int .i64 a :: dd), v.oneCell' = true := fun v hv => by
    rcases List.mem_cons.1 hv with rfl | hv
    ·rfl
    ·exact hdo v hv
   have hki : (j : Int) < k := by omega
   have hGl : G < wr.heap.size := lt_of_heap HR.out.1
   obtain ⟨W, HW⟩ : ∃ W, Hid (W = wr.alloc (.cells (Value.int .i64 a :: dd).toArray 101)) := ⟨_, rfl⟩
   have hfW : Fr (fun _ => False) wr W := by rw [HW.out]; exact (Fr.refl _ _).alloc _
   have hGW : W.heap[wr.heap.size]? = some (.cells (Value.int .i64 a :: dd).toArray 101 (0, 0)) := by rw [HW.out]; exact heap_alloc_at _ _
   have x0 : W.cell? ⟨wr.heap.size, 0, none⟩ = some (.int .i64 a) := (cell_of_row _ _ 0 _ _ _ hGW).trans rfl
   have hGG := hfW.keep HR.out.1 (fun h => h)
   have hlt1 : lain bs (ents.take (j + 1)) = splice (lain bs (ents.take j)) (a * 128) dd := lain_take bs ents j (a, dd) hp
   have hbl : (lain bs (ents.take j)).length = d.cap * 128 := lain_len HB.out _ (fun p hp => HLL.out.1 p (List.mem_of_mem_take hp)) (fun p hp => Nat.lt_of_lt_of_le (HLL.out.2.2 p (List.mem_of_mem_take hp)) hm)
   have hcur : (blkOf (lain bs (ents.take j)) i).length = 128 := blk_len hbl (Nat.lt_of_lt_of_le hi hm)
   have hnx := blk_splice (c := dd) hbl hdl (Nat.lt_of_lt_of_le han hm) (Nat.lt_of_lt_of_le hi hm)
   rw [← hlt1] at hnx
   obtain ⟨cur, HCU⟩ : ∃ cur, Hid (cur = blkOf (lain bs (ents.take j)) i) := ⟨_, rfl⟩
   rw [← HCU.out] at hcur hnx hGG
   have hsd : ∀ j v, dd[j]? = some v → W.cell? ((⟨wr.heap.size, 1, none⟩ : Addr).add j) = some v := fun j v hv => by
    rw [Addr.add_mid, cell_of_row W _ (1 + j) _ _ _ hGW, Nat.add_comm]; simpa using hv
   have hst : (Instr.storeAt 101 (.pointer (some ⟨wr.heap.size, 0, none⟩)) (.agg (Value.int .i64 a :: dd).toArray)).run Tryz.prog (wr.alloc (.cells (wz (.int .i64 0)) 101)) = .ok () W := by rw [HW.out]; exact store_write' _ hwl hwo wr
   by_cases hai : a = i
   ·have hai' : ((a : Int) == (i : Int)) = true := by simp [hai]
    have hn2 : cur.toArray.toList.take 0 ++ (dd ++ cur.toArray.toList.drop (0 + dd.length)) = dd := by
     rw [hdl, List.drop_of_length_le (Nat.le_of_eq (by rw [List.toList_toArray, hcur])), List.take_zero, List.append_nil, List.nil_append]
    rw [if_pos hai] at hnx
    go_wp2_with (first
     | (refine wpList_load_mid rfl 101 (.tmp 34) rfl g (j * 129) ?_ (Value.int .i64 a :: dd) _ hrg Tryz.underlying101 rfl ?_ ?_; rfl; (rw [write_size, hwl]))
     | (refine wpList_alloc 101 (v := .pointer (some ⟨wr.heap.size, 0, none⟩)) (w' := wr.alloc (.cells (wz (.int .i64 0)) 101)) rfl rfl ?_ ?_; exact alloc_write wr)
     | (refine wpList_store 101 (w' := W) (.tmp 8) (.tmp 35) rfl rfl ?_ ?_; exact hst)
     | (refine wpList_copy_to rfl (.tmp 40) (.tmp 42) 85 85 rfl 5 Tryz.underlying85 u8size G 0 128 128 ⟨wr.heap.size, 1, none⟩ 128 128 rfl rfl cur.toArray 5 hGG dd (by rw [hdl]; rfl) hsd (by rw [hdl]; exact Nat.le_of_eq (by rw [List.size_toArray, hcur])) hdo dd hn2 ?_; intro w2 HW2))
    have hf2 : Fr (fun b => b = G) W w2 := by rw [HW2.out]; exact Fr.setRow (S := fun b => b = G) (Fr.refl _ _) _ (fun _ => rfl) _
    have hG2 : w2.heap[G]? = some (.cells dd.toArray 5 (0, 0)) := by rw [HW2.out]; exact setRow_heap _ _ _ _ _ _ hGG
    have hAG : ¬ A = G := fun e => by have := HR.out.2.1.symm.trans (e ▸ HR.out.1); simp at this
    have HN : Hid (w2.heap[G]? = some (.cells (blkOf (lain bs (ents.take (j + 1))) i).toArray 5 (0, 0)) ∧ DkAt w2 A B n (.slice (some ⟨g, 0, none⟩) k cap) d.next ∧ EnqAt w2 base k n (.slice (some ⟨g, 0, none⟩) k cap) ents ∧ Fr (· = A) w w2) := by
     refine ⟨by rw [hnx]; exact hG2, (HR.out.2.1.fr hfW (fun h => h)).fr hf2 hAG, (HR.out.2.2.1.fr hfW (fun _ _ _ _ h => h)).fr hf2 (fun b c hb _ e => by subst e; rw [hGG] at hb; simp at hb), (HR.out.2.2.2.trans (hfW.mono (fun _ _ h => h.elim)) (fun _ _ h => h)).trans hf2 (fun b hb e => by have := HGS.out; omega)⟩
    clear hf2 hG2 HW2 hrg hGG hGW
    go_wp2
    go_roundw
    case rel => exact ⟨j + 1, by omega, by go_num, HN⟩
    case measure => simp [intOf]; omega
   ·have hai' : ((a : Int) == (i : Int)) = false := by simp; omega
    rw [if_neg hai, HCU.out] at hnx
    have HN : Hid (W.heap[G]? = some (.cells (blkOf (lain bs (ents.take (j + 1))) i).toArray 5 (0, 0)) ∧ DkAt W A B n (.slice (some ⟨g, 0, none⟩) k cap) d.next ∧ EnqAt W base k n (.slice (some ⟨g, 0, none⟩) k cap) ents ∧ Fr (· = A) w W) :=
     ⟨by rw [hnx]; exact hfW.keep HR.out.1 (fun h => h), HR.out.2.1.fr hfW (fun h => h), HR.out.2.2.1.fr hfW (fun _ _ _ _ h => h), HR.out.2.2.2.trans (hfW.mono (fun _ _ h => h.elim)) (fun _ _ h => h)⟩
    clear hGG hGW hnx
    go_wp2_with (first
     | (refine wpList_load_mid rfl 101 (.tmp 34) rfl g (j * 129) ?_ (Value.int .i64 a :: dd) _ hrg Tryz.underlying101 rfl ?_ ?_; rfl; (rw [write_size, hwl]))
     | (refine wpList_alloc 101 (v := .pointer (some ⟨wr.heap.size, 0, none⟩)) (w' := wr.alloc (.cells (wz (.int .i64 0)) 101)) rfl rfl ?_ ?_; exact alloc_write wr)
     | (refine wpList_store 101 (w' := W) (.tmp 8) (.tmp 35) rfl rfl ?_ ?_; exact hst))
    go_roundw
    case rel => exact ⟨j + 1, by omega, by go_num, HN⟩
    case measure => simp [intOf]; omega
  ·have hlt' : ¬ (j : Int) < k := by omega
   obtain rfl : j = k := by omega
   go_wp2
   go_ret2
   obtain ⟨r1, r2, r3, r4⟩ := HR.out
   rw [← HLEN.out, List.take_length] at r1
   rw [HGS.out] at r1 ⊢
   exact ⟨rfl, r1, r2, r4⟩
end Go.Proofs.YteebjgfalllbjaaGreatDoor
namespace Go.Proofs.YteebjgfalllbjaaGreatDoor
open Go.RowKit
def CB (w : World) (c c' : Value) : Prop := ∀ b, c'.ownBlock = some b → c.ownBlock = some b ∨ w.heap.size ≤ b
set_option maxRecDepth 100000 in
set_option maxHeartbeats 1000000 in
theorem Write_bad {w : World} {A B n : Nat} {cache : Value} {d : DP} (h : DkAt w A B n cache d) (ho : d.Ok) (hb : d.bad = true) (i : Int) (v : Value) :
  Calls Tryz.prog 207 #[.pointer (some ⟨A, 0, none⟩), .int .i64 i, v] w fun e w' => e = .returned ioV ∧ DkAt w' A B n cache d.next ∧ Fr (· = A) w w' := by
 go_enter Tryz.func207, Tryz.ntmps207
 go_wp2_with fail
 refine (fails_gen h ho).mono ?_
 rintro e w1 ⟨rfl, hd1, hf1, hs1⟩
 rw [hb]
 have HE : Hid (DkAt w1 A B n cache d.next ∧ Fr (· = A) w w1) := ⟨hd1, hf1⟩
 clear hd1 hf1 hs1
 go_wp2
 go_ret
 exact ⟨rfl, HE.out⟩
set_option maxRecDepth 100000 in
set_option maxHeartbeats 1000000 in
theorem Write_good {w : World} {A B n : Nat} {cache : Value} {d : DP} (h : DkAt w A B n cache d) (hok : d.Ok) (hbad : d.bad = false)
  {base k : Nat} {xs : List Value} (hown : w.ownsRow base 101 129 cache k xs) (hk : k < 1000000) (hbase : base ≤ w.heap.size)
  (i : Nat) (hi : i < n) (C : Nat) (tC : TypeId) (data : List Value) (hC : w.heap[C]? = some (.cells data.toArray tC (0, 0))) (hl : data.length = 128) (hone : ∀ v ∈ data, v.oneCell' = true) (hCA : C ≠ A) :
  Calls Tryz.prog 207 #[.pointer (some ⟨A, 0, none⟩), .int .i64 i, .slice (some ⟨C, 0, none⟩) 128 128] w fun e w' => e = .returned .nilIface ∧
   ∃ cache', DkAt w' A B n cache' d.next.wrote ∧ w'.ownsRow base 101 129 cache' (k + 1) (xs ++ (.int .i64 i :: data)) ∧ CB w cache cache' ∧ Fr (fun b => b = A ∨ cache.ownBlock = some b) w w' := by
 have hA := h.lt
 have hw0 : 0 ≤ d.next.writes := hok.w0
 have hw1 : d.next.writes < 1000000000 := hok.w1
 have hCl := lt_of_heap hC
 have hnew : (wz (.int .i64 i)).toList.take 1 ++ (data ++ (wz (.int .i64 i)).toList.drop (1 + data.length)) = .int .i64 i :: data := by
  rw [wz_list, hl, List.drop_of_length_le (l := Value.int .i64 i :: z128.toList) (by simp [z128_size])]; simp
 go_enter Tryz.func207, Tryz.ntmps207
 go_wp2_with fail
 refine (fails_gen h hok).mono ?_
 rintro e w1 ⟨rfl, hd1, hf1, hs1⟩
 rw [hbad]
 have HS1 : Hid (w1.heap.size = w.heap.size) := hs1
 clear hs1
 have hC1 := hf1.keep hC hCA
 have hsrc := World.news_of_block (w := w1.alloc (.cells (wz (.int .i64 i)) 101)) (B := C) (cs := data.toArray) (t := tC) (fr := (0, 0)) (by rw [heap_alloc_lt _ _ _ (lt_of_heap hC1)]; exact hC1)
 go_wp2_with fail
 refine (none_gen hd1 _ (by omega) (by omega)).mono ?_
 rintro e w' ⟨rfl, rfl⟩
 go_wp2_with (first
  | (refine wpList_buildOf 101 #[(0, .tmp 16)] (v := .agg (wz (.int .i64 i))) (w' := w') rfl rfl #[(0, .int .i64 i)] ?_ ?_ ?_; (simp [Act.eval]); exact built_write i w')
  | (refine wpList_alloc 101 (v := .pointer (some ⟨w'.heap.size, 0, none⟩)) (w' := w'.alloc (.cells (wz (.int .i64 0)) 101)) rfl rfl ?_ ?_; exact alloc_write w')
  | (refine wpList_store 101 (w' := w'.alloc (.cells (wz (.int .i64 i)) 101)) (.tmp 7) (.tmp 17) rfl rfl ?_ ?_; exact store_write i w')
  | (refine wpList_copy_to rfl (.tmp 19) (.tmp 20) 85 85 rfl 5 Tryz.underlying85 u8size w'.heap.size 1 128 128 ⟨C, 0, none⟩ 128 128 rfl rfl (wz (.int .i64 i)) 101 ?_ data ?_ ?_ ?_ hone (.int .i64 i :: data) hnew ?_; exact heap_alloc_at _ _; (rw [hl]; rfl); (simpa using hsrc); (rw [hl, wz_size]; decide); intro w2 HW2))
 have hg2 : w2.heap[w'.heap.size]? = some (.cells (Value.int .i64 i :: data).toArray 101 (0, 0)) := by rw [HW2.out]; exact setRow_heap _ _ _ _ _ _ (heap_alloc_at _ _)
 have hs2 : w2.heap.size = w'.heap.size + 1 := by rw [HW2.out]; simp
 have hne2 : ∀ b, b < w'.heap.size → w2.heap[b]? = w'.heap[b]? := fun b hb => by
  rw [HW2.out, setRow_other _ _ _ _ (by omega), heap_alloc_lt _ _ _ hb]
 have hd2 : DkAt w2 A B n cache d.next := by unfold DkAt; rw [hne2 A hd1.lt]; exact hd1
 have hf2 : Fr (fun b => b = A ∨ cache.ownBlock = some b) w w2 := by
  rw [HW2.out]; exact ((hf1.mono (fun b _ hb => Or.inl hb)).alloc _).setRow _ (fun hh => by rw [HS1.out] at hh; omega) _
 have hown1 : w'.ownsRow base 101 129 cache k xs := by
  refine hown.kept (row := some A) ⟨hf1.os, hf1.tape, hf1.output, hf1.size, fun b hb hn => hf1.block b hb (fun e => hn (by rw [e]))⟩ ?_
  rcases hown.2 with ⟨rfl, _⟩ | ⟨g, cap, cur, rfl, hb, hg, _⟩
  ·exact .inl rfl
  ·right
   intro e
   simp only [Value.ownBlock, Option.some.injEq] at e
   subst e
   have := h.symm.trans hg
   simp at this
 have hown2 : w2.ownsRow base 101 129 cache k xs :=
  hown1.kept (row := none) ⟨by rw [HW2.out]; rfl, by rw [HW2.out]; rfl, by rw [HW2.out]; rfl, by omega, fun b hb _ => hne2 b hb⟩ (by cases hv : cache.ownBlock <;> simp)
 have hgA : A < w'.heap.size := hd1.lt
 have hgC : ∀ b, cache.ownBlock = some b → b < w'.heap.size := fun b hb => (hown1.lt b hb).2
 have hb' : base ≤ w'.heap.size := by rw [HS1.out]; exact hbase
 obtain ⟨g, HG⟩ : ∃ g, Hid (g = w'.heap.size) := ⟨_, rfl⟩
 rw [← HG.out] at hg2 hs2 hgA hgC hb'
 have HG2 : Hid (w2.heap.size = g + 1) := hs2
 have HO2 : Hid (w2.ownsRow base 101 129 cache k xs) := hown2
 have HD2 : Hid (DkAt w2 A B n cache d.next) := hd2
 have HF2 : Hid (Fr (fun b => b = A ∨ cache.ownBlock = some b) w w2) := hf2
 have HB2 : Hid (w2.heap[g]? = some (.cells (Value.int .i64 i :: data).toArray 101 (0, 0))) := hg2
 clear hs2 hown2 hd2 hf2 hg2 hne2 hsrc hown1 HW2
 try go_simp
 rw [← HG.out]
 go_cut [] (fun wx => ∃ cache', DkAt wx A B n cache' d.next ∧ wx.ownsRow base 101 129 cache' (k + 1) (xs ++ (.int .i64 i :: data)) ∧ CB w cache cache' ∧ Fr (fun b => b = A ∨ cache.ownBlock = some b) w wx)
 case rest =>
  obtain ⟨cache', hd3, ho3, hcb, hf3⟩ := hcut
  have HCB : Hid (CB w cache cache') := hcb
  clear hcb
  have c3 := hd3.c3
  have f3 := hd3.fz 3
  have HD3 : Hid (DkAt wc A B n cache' d.next) := hd3
  have HO3 : Hid (wc.ownsRow base 101 129 cache' (k + 1) (xs ++ (.int .i64 i :: data))) := ho3
  have HF3 : Hid (Fr (fun b => b = A ∨ cache.ownBlock = some b) w wc) := hf3
  clear hd3 ho3 hf3
  go_wp2
  go_ret
  exact ⟨rfl, cache', HD3.out.set3 _, own_set HD3.out (by decide) HO3.out, HCB.out, HF3.out.setCell _ (fun _ => Or.inl rfl) _⟩
 case first =>
  have hw2 : Tryz.prog.follows .mixedOrders = true := by kernel_rfl
  refine wp_region_any hw2 ?_
  refine wpAny_take (i := 0) (oi := ⟨some 22, .move (.tmp 0), _, _, _, none⟩) (v := .pointer (some ⟨A, 0, none⟩)) rfl (by kernel_rfl) (by kernel_rfl) (by kernel_rfl) (fun _ _ _ h => h) (Or.inl ⟨rfl, fun _ => rfl⟩) ?_
  simp only [Act.put, lsE, lsZ, lsS]
  refine wpAny_take (i := 1) (oi := ⟨some 23, .move (.tmp 0), _, _, _, none⟩) (v := .pointer (some ⟨A, 0, none⟩)) rfl (by kernel_rfl) (by kernel_rfl) (by kernel_rfl) (fun _ _ _ h => h) (Or.inl ⟨rfl, fun _ => rfl⟩) ?_
  simp only [Act.put, lsE, lsZ, lsS]
  refine wpAny_take (i := 2) (oi := ⟨some 24, .nilCheck (.tmp 23), _, _, _, none⟩) (v := .pointer (some ⟨A, 0, none⟩)) rfl (by kernel_rfl) (by kernel_rfl) (by kernel_rfl) (fun _ _ _ h => h) (Or.inl ⟨rfl, fun _ => rfl⟩) ?_
  simp only [Act.put, lsE, lsZ, lsS]
  refine wpAny_take (i := 3) (oi := ⟨some 25, .fieldAddr 96 (.tmp 24) 1, _, _, _, none⟩) (v := .pointer (some ⟨A, 1, none⟩)) rfl (by kernel_rfl) (by kernel_rfl) (by kernel_rfl) (fun _ _ _ h => h) (Or.inl ⟨rfl, fun _ => by kernel_rfl⟩) ?_
  simp only [Act.put, lsE, lsZ, lsS]
  refine wpAny_all (rs := [4, 5]) (by kernel_rfl) (by simp) ?_
  obtain ⟨inf, hi0, hz0, hz1, hz2⟩ := info_parts write_info
  have hl1 : (Instr.loadAt 94 (.pointer (some ⟨A, 1, none⟩))).run Tryz.prog w2.drew = .ok cache w2.drew := run_loadAt_one (w := w2.drew) (HD2.out.drew.c1) Tryz.underlying94 rfl
  have hl2 : (Instr.loadAt 101 (.pointer (some ⟨g, 0, none⟩))).run Tryz.prog w2.drew = .ok (.agg (Value.int .i64 i :: data).toArray) w2.drew :=
   run_loadAt_mid w2.drew g 0 101 (Value.int .i64 i :: data) _ (fun j v hv => by rw [Nat.zero_add, cell_of_row w2.drew g j _ _ _ HB2.out]; simpa using hv) Tryz.underlying101 rfl (by rw [write_size]; simp [hl])
  have hbs : (Instr.buildSlice 94 1 #[(0, .agg (Value.int .i64 i :: data).toArray)]).run Tryz.prog w2.drew = .ok (.slice (some ⟨w2.drew.heap.size, 0, none⟩) 1 1) (w2.drew.alloc (.cells (Value.int .i64 i :: data).toArray 101)) :=
   run_buildSlice_one w2.drew 94 101 inf _ _ Tryz.underlying94 hi0 hz0 (by rw [hz1]; simp [Value.cells, hl]) (by rw [hz1]; decide) (by rw [hz1]; decide)
  have hl3 : (Instr.loadAt 94 (.pointer (some ⟨A, 1, none⟩))).run Tryz.prog (w2.drew.alloc (.cells (Value.int .i64 i :: data).toArray 101)) = .ok cache (w2.drew.alloc (.cells (Value.int .i64 i :: data).toArray 101)) := run_loadAt_one ((HD2.out.drew.alloc _).c1) Tryz.underlying94 rfl
  have hownW : (w2.drew.alloc (.cells (Value.int .i64 i :: data).toArray 101)).ownsRow base 101 129 cache k xs := (show w2.drew.ownsRow base 101 129 cache k xs from HO2.out).alloc _
  have hnewsW := World.news_of_block (w := w2.drew.alloc (.cells (Value.int .i64 i :: data).toArray 101)) (B := w2.drew.heap.size) (heap_alloc_at _ _)
  have hdW : DkAt (w2.drew.alloc (.cells (Value.int .i64 i :: data).toArray 101)) A B n cache d.next := HD2.out.drew.alloc _
  have hfW : Fr (fun b => b = A ∨ cache.ownBlock = some b) w (w2.drew.alloc (.cells (Value.int .i64 i :: data).toArray 101)) := HF2.out.drew.alloc _
  have hzW : base ≤ (w2.drew.alloc (.cells (Value.int .i64 i :: data).toArray 101)).heap.size := by
   have := HG2.out; simp; omega
  have hAc : cache.ownBlock ≠ some A := by
   intro e
   rcases HO2.out.2 with ⟨rfl, _⟩ | ⟨g', cap, cur, rfl, hb, hg, _⟩
   ·simp [Value.ownBlock] at e
   ·simp only [Value.ownBlock, Option.some.injEq] at e
    subst e
    have := HD2.out.symm.trans hg
    simp at this
  have fin : ∀ (gn cap : Nat) (wn : World), DkAt wn A B n cache d.next → wn.ownsRow base 101 129 (.slice (some ⟨gn, 0, none⟩) (k + 1) cap) (k + 1) (xs ++ (.int .i64 i :: data)) →
    (w2.drew.alloc (.cells (Value.int .i64 i :: data).toArray 101)).grownBy wn cache.ownBlock →
    (cache.ownBlock = some gn ∨ gn = (w2.drew.alloc (.cells (Value.int .i64 i :: data).toArray 101)).heap.size) →
    ∃ cache', DkAt (wn.setCell ⟨A, 1, none⟩ (.slice (some ⟨gn, 0, none⟩) (k + 1) cap)) A B n cache' d.next ∧ (wn.setCell ⟨A, 1, none⟩ (.slice (some ⟨gn, 0, none⟩) (k + 1) cap)).ownsRow base 101 129 cache' (k + 1) (xs ++ (.int .i64 i :: data)) ∧ CB w cache cache' ∧
     Fr (fun b => b = A ∨ cache.ownBlock = some b) w (wn.setCell ⟨A, 1, none⟩ (.slice (some ⟨gn, 0, none⟩) (k + 1) cap)) := by
   intro gn cap wn hdn hon hgrow hat
   refine ⟨_, hdn.set1 _, ?_, ?_, (hfW.grown hgrow (fun b _ hb => Or.inr hb)).setCell _ (fun _ => Or.inl rfl) _⟩
   rotate_left
   ·intro b hb
    simp only [Value.ownBlock, Option.some.injEq] at hb
    subst hb
    rcases hat with e | e
    ·exact .inl e
    ·right; rw [e]; exact hfW.size
   refine hon.kept (row := some A) ⟨rfl, rfl, rfl, by simp [World.setCell], fun b _ hn => heap_setCell_ne _ _ _ _ (fun e => hn (by rw [e]))⟩ ?_
   right
   intro e
   rcases hon.2 with ⟨hv, _⟩ | ⟨g', cap', cur, hv, hb, hg, _⟩
   ·cases hv
   ·simp only [Value.ownBlock, Option.some.injEq] at e
    simp only [Value.slice.injEq, Option.some.injEq, Addr.mk.injEq, and_true] at hv
    rw [← hv.1, e] at hg
    have := hdn.symm.trans hg
    simp at this
  intro i1 hi1
  simp only [List.mem_cons, List.not_mem_nil, or_false] at hi1
  rcases hi1 with rfl | rfl
  ·skip
   refine wpOp_value (o := ⟨some 26, .load 94 (.tmp 25), _, _, _, none⟩) rfl rfl (exec_load 94 (.tmp 25) rfl ⟨A, 1, none⟩ (by rfl) hl1) ?_
   simp only [Act.put, lsE, lsZ, lsS]
   refine wpAny_all (rs := [5]) (by kernel_rfl) (by simp) ?_
   intro i2 hi2
   obtain rfl : i2 = 5 := by simpa using hi2
   refine wpOp_value (o := ⟨some 27, .load 101 (.tmp 7), _, _, _, none⟩) rfl rfl (exec_load 101 (.tmp 7) rfl ⟨g, 0, none⟩ (by rfl) hl2) ?_
   simp only [Act.put, lsE, lsZ, lsS]
   refine wpAny_all (rs := [6]) (by kernel_rfl) (by simp) ?_
   intro i3 hi3
   obtain rfl : i3 = 6 := by simpa using hi3
   refine wpOp_value (o := ⟨some 28, .buildSlice 94 1 #[(0, .tmp 27)], _, _, _, none⟩) rfl rfl (exec_buildSlice 94 1 #[(0, .tmp 27)] rfl #[(0, .agg (Value.int .i64 i :: data).toArray)] (by simp [Act.eval]) hbs) ?_
   simp only [Act.put, lsE, lsZ, lsS]
   refine wpAny_all (rs := [7]) (by kernel_rfl) (by simp) ?_
   intro i4 hi4
   obtain rfl : i4 = 7 := by simpa using hi4
   refine wpOp_of_wp (o := ⟨some 29, .call { callee := .builtin .append, args := #[.tmp 26, .tmp 28], argTypes := #[94, 94] }, _, _, _, none⟩) rfl rfl ?_
   refine wp_append_lies _ (.tmp 26) (.tmp 28) 94 rfl base 101 inf (.agg (wz (.int .i64 0))) 129 136 Tryz.underlying94 hi0 hz0 hz1 hz2 (wz_size _) (by decide) cache k xs (by simp [Act.eval]) hownW ⟨w2.drew.heap.size, 0, none⟩ 1 1 (Value.int .i64 i :: data) (by simp [Act.eval]) (by simp [hl]) hnewsW (fun u hu => by rcases List.mem_cons.1 hu with rfl | hu; rfl; exact hone u hu) (by decide) (by unfold maxLen; omega) (by omega) hzW _ rfl ?_
   intro gn cap wn hon hgrow hat hlt
   simp only [Act.put, lsE, lsZ, lsS]
   refine wpAny_take (i := 8) (oi := ⟨some 30, .nilCheck (.tmp 22), _, _, _, none⟩) (v := .pointer (some ⟨A, 0, none⟩)) rfl (by kernel_rfl) (by kernel_rfl) (by kernel_rfl) (fun _ _ _ h => h) (Or.inl ⟨rfl, fun _ => rfl⟩) ?_
   simp only [Act.put, lsE, lsZ, lsS]
   refine wpAny_take (i := 9) (oi := ⟨some 31, .fieldAddr 96 (.tmp 30) 1, _, _, _, none⟩) (v := .pointer (some ⟨A, 1, none⟩)) rfl (by kernel_rfl) (by kernel_rfl) (by kernel_rfl) (fun _ _ _ h => h) (Or.inl ⟨rfl, fun _ => by kernel_rfl⟩) ?_
   simp only [Act.put, lsE, lsZ, lsS]
   refine wpAny_all (rs := [10]) (by kernel_rfl) (by simp) ?_
   intro i5 hi5
   obtain rfl : i5 = 10 := by simpa using hi5
   have hdn : DkAt wn A B n cache d.next := by unfold DkAt; rw [hgrow.block A hdW.lt (fun e => hAc e.symm)]; exact hdW
   refine wpOp_skip (o := ⟨none, .store 94 (.tmp 31) (.tmp 29), _, _, _, none⟩) rfl rfl (exec_store 94 (.tmp 31) (.tmp 29) rfl ⟨A, 1, none⟩ (.slice (some ⟨gn, 0, none⟩) (k + 1) cap) (by rfl) (by rfl) (run_storeAt_one hdn.c1 (hdn.fz 1) (by kernel_rfl) rfl)) ?_
   simp only [Act.put]
   refine wpAny_done (by kernel_rfl) ?_ _
   go_wp2
   go_meet
   case rel => exact fin gn cap wn hdn hon hgrow hat
  ·skip
   refine wpOp_value (o := ⟨some 27, .load 101 (.tmp 7), _, _, _, none⟩) rfl rfl (exec_load 101 (.tmp 7) rfl ⟨g, 0, none⟩ (by rfl) hl2) ?_
   simp only [Act.put, lsE, lsZ, lsS]
   refine wpAny_all (rs := [4, 6]) (by kernel_rfl) (by simp) ?_
   intro i2 hi2
   simp only [List.mem_cons, List.not_mem_nil, or_false] at hi2
   rcases hi2 with rfl | rfl
   ·skip
    refine wpOp_value (o := ⟨some 26, .load 94 (.tmp 25), _, _, _, none⟩) rfl rfl (exec_load 94 (.tmp 25) rfl ⟨A, 1, none⟩ (by rfl) hl1) ?_
    simp only [Act.put, lsE, lsZ, lsS]
    refine wpAny_all (rs := [6]) (by kernel_rfl) (by simp) ?_
    intro i3 hi3
    obtain rfl : i3 = 6 := by simpa using hi3
    refine wpOp_value (o := ⟨some 28, .buildSlice 94 1 #[(0, .tmp 27)], _, _, _, none⟩) rfl rfl (exec_buildSlice 94 1 #[(0, .tmp 27)] rfl #[(0, .agg (Value.int .i64 i :: data).toArray)] (by simp [Act.eval]) hbs) ?_
    simp only [Act.put, lsE, lsZ, lsS]
    refine wpAny_all (rs := [7]) (by kernel_rfl) (by simp) ?_
    intro i4 hi4
    obtain rfl : i4 = 7 := by simpa using hi4
    refine wpOp_of_wp (o := ⟨some 29, .call { callee := .builtin .append, args := #[.tmp 26, .tmp 28], argTypes := #[94, 94] }, _, _, _, none⟩) rfl rfl ?_
    refine wp_append_lies _ (.tmp 26) (.tmp 28) 94 rfl base 101 inf (.agg (wz (.int .i64 0))) 129 136 Tryz.underlying94 hi0 hz0 hz1 hz2 (wz_size _) (by decide) cache k xs (by simp [Act.eval]) hownW ⟨w2.drew.heap.size, 0, none⟩ 1 1 (Value.int .i64 i :: data) (by simp [Act.eval]) (by simp [hl]) hnewsW (fun u hu => by rcases List.mem_cons.1 hu with rfl | hu; rfl; exact hone u hu) (by decide) (by unfold maxLen; omega) (by omega) hzW _ rfl ?_
    intro gn cap wn hon hgrow hat hlt
    simp only [Act.put, lsE, lsZ, lsS]
    refine wpAny_take (i := 8) (oi := ⟨some 30, .nilCheck (.tmp 22), _, _, _, none⟩) (v := .pointer (some ⟨A, 0, none⟩)) rfl (by kernel_rfl) (by kernel_rfl) (by kernel_rfl) (fun _ _ _ h => h) (Or.inl ⟨rfl, fun _ => rfl⟩) ?_
    simp only [Act.put, lsE, lsZ, lsS]
    refine wpAny_take (i := 9) (oi := ⟨some 31, .fieldAddr 96 (.tmp 30) 1, _, _, _, none⟩) (v := .pointer (some ⟨A, 1, none⟩)) rfl (by kernel_rfl) (by kernel_rfl) (by kernel_rfl) (fun _ _ _ h => h) (Or.inl ⟨rfl, fun _ => by kernel_rfl⟩) ?_
    simp only [Act.put, lsE, lsZ, lsS]
    refine wpAny_all (rs := [10]) (by kernel_rfl) (by simp) ?_
    intro i5 hi5
    obtain rfl : i5 = 10 := by simpa using hi5
    have hdn : DkAt wn A B n cache d.next := by unfold DkAt; rw [hgrow.block A hdW.lt (fun e => hAc e.symm)]; exact hdW
    refine wpOp_skip (o := ⟨none, .store 94 (.tmp 31) (.tmp 29), _, _, _, none⟩) rfl rfl (exec_store 94 (.tmp 31) (.tmp 29) rfl ⟨A, 1, none⟩ (.slice (some ⟨gn, 0, none⟩) (k + 1) cap) (by rfl) (by rfl) (run_storeAt_one hdn.c1 (hdn.fz 1) (by kernel_rfl) rfl)) ?_
    simp only [Act.put]
    refine wpAny_done (by kernel_rfl) ?_ _
    go_wp2
    go_meet
    case rel => exact fin gn cap wn hdn hon hgrow hat
   ·skip
    refine wpOp_value (o := ⟨some 28, .buildSlice 94 1 #[(0, .tmp 27)], _, _, _, none⟩) rfl rfl (exec_buildSlice 94 1 #[(0, .tmp 27)] rfl #[(0, .agg (Value.int .i64 i :: data).toArray)] (by simp [Act.eval]) hbs) ?_
    simp only [Act.put, lsE, lsZ, lsS]
    refine wpAny_all (rs := [4]) (by kernel_rfl) (by simp) ?_
    intro i3 hi3
    obtain rfl : i3 = 4 := by simpa using hi3
    refine wpOp_value (o := ⟨some 26, .load 94 (.tmp 25), _, _, _, none⟩) rfl rfl (exec_load 94 (.tmp 25) rfl ⟨A, 1, none⟩ (by rfl) hl3) ?_
    simp only [Act.put, lsE, lsZ, lsS]
    refine wpAny_all (rs := [7]) (by kernel_rfl) (by simp) ?_
    intro i4 hi4
    obtain rfl : i4 = 7 := by simpa using hi4
    refine wpOp_of_wp (o := ⟨some 29, .call { callee := .builtin .append, args := #[.tmp 26, .tmp 28], argTypes := #[94, 94] }, _, _, _, none⟩) rfl rfl ?_
    refine wp_append_lies _ (.tmp 26) (.tmp 28) 94 rfl base 101 inf (.agg (wz (.int .i64 0))) 129 136 Tryz.underlying94 hi0 hz0 hz1 hz2 (wz_size _) (by decide) cache k xs (by simp [Act.eval]) hownW ⟨w2.drew.heap.size, 0, none⟩ 1 1 (Value.int .i64 i :: data) (by simp [Act.eval]) (by simp [hl]) hnewsW (fun u hu => by rcases List.mem_cons.1 hu with rfl | hu; rfl; exact hone u hu) (by decide) (by unfold maxLen; omega) (by omega) hzW _ rfl ?_
    intro gn cap wn hon hgrow hat hlt
    simp only [Act.put, lsE, lsZ, lsS]
    refine wpAny_take (i := 8) (oi := ⟨some 30, .nilCheck (.tmp 22), _, _, _, none⟩) (v := .pointer (some ⟨A, 0, none⟩)) rfl (by kernel_rfl) (by kernel_rfl) (by kernel_rfl) (fun _ _ _ h => h) (Or.inl ⟨rfl, fun _ => rfl⟩) ?_
    simp only [Act.put, lsE, lsZ, lsS]
    refine wpAny_take (i := 9) (oi := ⟨some 31, .fieldAddr 96 (.tmp 30) 1, _, _, _, none⟩) (v := .pointer (some ⟨A, 1, none⟩)) rfl (by kernel_rfl) (by kernel_rfl) (by kernel_rfl) (fun _ _ _ h => h) (Or.inl ⟨rfl, fun _ => by kernel_rfl⟩) ?_
    simp only [Act.put, lsE, lsZ, lsS]
    refine wpAny_all (rs := [10]) (by kernel_rfl) (by simp) ?_
    intro i5 hi5
    obtain rfl : i5 = 10 := by simpa using hi5
    have hdn : DkAt wn A B n cache d.next := by unfold DkAt; rw [hgrow.block A hdW.lt (fun e => hAc e.symm)]; exact hdW
    refine wpOp_skip (o := ⟨none, .store 94 (.tmp 31) (.tmp 29), _, _, _, none⟩) rfl rfl (exec_store 94 (.tmp 31) (.tmp 29) rfl ⟨A, 1, none⟩ (.slice (some ⟨gn, 0, none⟩) (k + 1) cap) (by rfl) (by rfl) (run_storeAt_one hdn.c1 (hdn.fz 1) (by kernel_rfl) rfl)) ?_
    simp only [Act.put]
    refine wpAny_done (by kernel_rfl) ?_ _
    go_wp2
    go_meet
    case rel => exact fin gn cap wn hdn hon hgrow hat
end Go.Proofs.YteebjgfalllbjaaGreatDoor
