import Derived.Test.YteebjgfalllbjaaGreatDoorProg
import Derived.WalkKit
import Derived.OrdersHeld
import Derived.Test.YteebjgfalllbjaaGreatDoorCApiReadBs
namespace Go.Proofs.YteebjgfalllbjaaGreatDoor
open Go.RowKit
theorem lsE (l : List Value) (i : Nat) (v : Value) : l.toArray.setIfInBounds i v = (l.set i v).toArray := List.setIfInBounds_toArray l i v
theorem lsZ (a v : Value) (l : List Value) : (a :: l).set 0 v = v :: l := rfl
theorem lsS (a v : Value) (l : List Value) (n : Nat) : (a :: l).set (n + 1) v = a :: l.set n v := rfl
section
variable {P : Program} {ops : Array Oper} {Q : Exit → Act → World → Prop} {S : World → Prop} {i : Nat} {oi : Oper} {v : Value} {fuel : Nat} {listed : Array Bool} {a : Act} {w : World}
theorem tkY {md} (hi : ops[i]? = some oi) (hy : YieldsIf P ops S oi v a) (hS : S w) (h : wpAnyH P md ops Q S fuel (listed.setIfInBounds i true) (a.put oi.dst v) w) (hs : Region.noSelect ops = true := by kernel_rfl) (hf : Region.free md ops listed i = true := by kernel_rfl) (hr : (Region.ready md ops listed).contains i = true := by kernel_rfl) (hQ : ∀ c a w, Q (.panic c) (a.put oi.dst v) w → Q (.panic c) a w := by exact fun _ _ _ h => h) : wpAnyH P md ops Q S (fuel + 1) listed a w :=
 wpAnyH_take hi hs hf hr hQ hy hS h
theorem tkE {md} (hi : ops[i]? = some oi) (hS : S w) (h : wpAnyH P md ops Q S fuel (listed.setIfInBounds i true) (a.put oi.dst v) w) (hs : Region.noSelect ops = true := by kernel_rfl) (hf : Region.free md ops listed i = true := by kernel_rfl) (hr : (Region.ready md ops listed).contains i = true := by kernel_rfl) (hQ : ∀ c a w, Q (.panic c) (a.put oi.dst v) w → Q (.panic c) a w := by exact fun _ _ _ h => h) (hy : YieldsIf P ops S oi v a := by exact Or.inl ⟨rfl, fun _ _ => by kernel_rfl⟩) : wpAnyH P md ops Q S (fuel + 1) listed a w :=
 wpAnyH_take hi hs hf hr hQ hy hS h
end
end Go.Proofs.YteebjgfalllbjaaGreatDoor
namespace Go.Proofs.YteebjgfalllbjaaGreatDoor
open Go.RowKit

def wz (v : Value) : Array Value := #[v] ++ z128
theorem wz_size (v : Value) : (wz v).size = 129 := by simp [wz, z128_size]
theorem wz_list (v : Value) : (wz v).toList = v :: z128.toList := by simp [wz]
theorem built_write (x : Int) (w : World) : (Instr.build 101 #[(0, .int .i64 x)]).run Tryz.prog w = .ok (.agg (wz (.int .i64 x))) w := by kernel_rfl
theorem alloc_write (w : World) : (Instr.alloc 101 true (.tuple #[])).run Tryz.prog w = .ok (.pointer (some ⟨w.heap.size, 0, none⟩)) (w.alloc (.cells (wz (.int .i64 0)) 101)) := by kernel_rfl
theorem write_size : (Tryz.prog.info? 101).map (·.size) = some 129 := by kernel_rfl
theorem write_info : (Tryz.prog.info? 101).map (fun i => (i.zero, i.size, i.bytes)) = some (some (.agg (wz (.int .i64 0))), 129, 136) := by kernel_rfl
theorem z128_one : ∀ v ∈ z128.toList, v.oneCell' = true := by
 intro v hv
 simp [z128] at hv
 rw [hv]; rfl
theorem store_write (i : Int) (w : World) : (Instr.storeAt 101 (.pointer (some ⟨w.heap.size, 0, none⟩)) (.agg (wz (.int .i64 i)))).run Tryz.prog (w.alloc (.cells (wz (.int .i64 0)) 101)) = .ok () (w.alloc (.cells (wz (.int .i64 i)) 101)) :=
 run_storeAt_new w 101 _ _ (by rw [wz_size]; exact write_size) (by rw [wz_size, wz_size]) (by
  rw [Array.all_eq_true_iff_forall_mem]
  intro v hv
  have : v ∈ (wz (.int .i64 i)).toList := by simpa using hv
  rw [wz_list] at this
  rcases List.mem_cons.1 this with rfl | h
  ·rfl
  ·exact z128_one v h)

theorem own_set {w : World} {A i : Nat} {u : Value} {cs : Array Value} {tA : TypeId} (hA : w.heap[A]? = some (.cells cs tA (0, 0))) {base e size k : Nat} {v : Value} {xs : List Value} (he : tA ≠ e) (h : w.ownsRow base e size v k xs) : (w.setCell ⟨A, i, none⟩ u).ownsRow base e size v k xs := by
 refine h.kept (row := some A) ⟨rfl, rfl, rfl, by simp [World.setCell], fun b _ hn => heap_setCell_ne _ _ _ _ (fun e => hn (by rw [e]))⟩ ?_
 rcases h.2 with ⟨rfl, _⟩ | ⟨g, cap, cur, rfl, hb, hg, _⟩
 ·exact .inl rfl
 ·right
  intro e
  simp only [Value.ownBlock, Option.some.injEq] at e
  subst e
  rw [hA] at hg
  simp at hg
  exact he hg.2

set_option maxRecDepth 100000 in
set_option maxHeartbeats 1000000 in
theorem Write_ok {w : World} {A B n : Nat} {cache : Value} {calls writes : Int} (h : DiskAt w A B n cache calls writes) (h0 : 0 ≤ calls) (h1 : calls < 1000000000) (h2 : 0 ≤ writes) (h3 : writes < 1000000000)
  {base k : Nat} {xs : List Value} (hown : w.ownsRow base 101 129 cache k xs) (hk : k < 1000000) (hbase : base ≤ w.heap.size)
  (i : Nat) (hi : i < n) (C : Nat) (tC : TypeId) (data : List Value) (hC : w.heap[C]? = some (.cells data.toArray tC (0, 0))) (hl : data.length = 128) (hone : ∀ v ∈ data, v.oneCell' = true) (hCA : C ≠ A) :
  Calls Tryz.prog 207 #[.pointer (some ⟨A, 0, none⟩), .int .i64 i, .slice (some ⟨C, 0, none⟩) 128 128] w fun e w' => e = .returned .nilIface ∧
   ∃ cache', DiskAt w' A B n cache' (calls + 1) (writes + 1) ∧ w'.ownsRow base 101 129 cache' (k + 1) (xs ++ (.int .i64 i :: data)) ∧ Fr (fun b => b = A ∨ cache.ownBlock = some b) w w' := by
 have hA := h.lt
 have hCl := lt_of_heap hC
 have hnew : (wz (.int .i64 i)).toList.take 1 ++ (data ++ (wz (.int .i64 i)).toList.drop (1 + data.length)) = .int .i64 i :: data := by
  rw [wz_list, hl, List.drop_of_length_le (l := Value.int .i64 i :: z128.toList) (by simp [z128_size])]; simp
 go_enter Tryz.func207, Tryz.ntmps207
 go_wp2_with fail
 refine (fails_ok h h0 h1).mono ?_
 rintro e w1 ⟨rfl, hd1, hf1, hs1⟩
 have HS1 : Hid (w1.heap.size = w.heap.size) := hs1
 clear hs1
 have hC1 := hf1.keep hC hCA
 have hsrc := World.news_of_block (w := w1.alloc (.cells (wz (.int .i64 i)) 101)) (B := C) (cs := data.toArray) (t := tC) (fr := (0, 0)) (by rw [heap_alloc_lt _ _ _ (lt_of_heap hC1)]; exact hC1)
 go_wp2_with fail
 refine (none_ok hd1 _ (by omega) (by omega)).mono ?_
 rintro e w' ⟨rfl, rfl⟩
 go_wp2_with (first
  | (refine wpList_buildOf 101 #[(0, .tmp 16)] (v := .agg (wz (.int .i64 i))) (w' := w') rfl rfl #[(0, .int .i64 i)] ?_ ?_ ?_; (simp [Act.eval]); exact built_write i w')
  | (refine wpList_alloc 101 (v := .pointer (some ⟨w'.heap.size, 0, none⟩)) (w' := w'.alloc (.cells (wz (.int .i64 0)) 101)) rfl rfl ?_ ?_; exact alloc_write w')
  | (refine wpList_store 101 (w' := w'.alloc (.cells (wz (.int .i64 i)) 101)) (.tmp 7) (.tmp 17) rfl rfl ?_ ?_; exact store_write i w')
  | (refine wpList_copy_to rfl (.tmp 19) (.tmp 20) 85 85 rfl 5 Tryz.underlying85 u8size w'.heap.size 1 128 128 ⟨C, 0, none⟩ 128 128 rfl rfl (wz (.int .i64 i)) 101 ?_ data ?_ ?_ ?_ hone (.int .i64 i :: data) hnew ?_; exact heap_alloc_at _ _; (rw [hl]; rfl); (simpa using hsrc); (rw [hl, wz_size]; decide); intro w2 HW2))
 have hg2 : w2.heap[w'.heap.size]? = some (.cells (Value.int .i64 i :: data).toArray 101 (0, 0)) := by rw [HW2.out]; exact setRow_heap _ _ _ _ _ _ (heap_alloc_at _ _)
 have hs2 : w2.heap.size = w'.heap.size + 1 := by rw [HW2.out]; simp
 have hne2 : ∀ b, b < w'.heap.size → w2.heap[b]? = w'.heap[b]? := fun b hb => by
  rw [HW2.out, setRow_other _ _ _ _ (by omega), heap_alloc_lt _ _ _ hb]
 have hd2 : DiskAt w2 A B n cache (calls + 1) writes := by unfold DiskAt; rw [hne2 A hd1.lt]; exact hd1
 have hf2 : Fr (fun b => b = A ∨ cache.ownBlock = some b) w w2 := by
  rw [HW2.out]; exact ((hf1.mono (fun b _ hb => Or.inl hb)).alloc _).setRow _ (fun hh => by rw [HS1.out] at hh; omega) _
 have hown1 : w'.ownsRow base 101 129 cache k xs := by
  refine hown.kept (row := some A) ⟨hf1.os, hf1.tape, hf1.output, hf1.size, fun b hb hn => hf1.block b hb (fun e => hn (by rw [e]))⟩ ?_
  rcases hown.2 with ⟨rfl, _⟩ | ⟨g, cap, cur, rfl, hb, hg, _⟩
  ·exact .inl rfl
  ·right
   intro e
   simp only [Value.ownBlock, Option.some.injEq] at e
   subst e
   have := h.symm.trans hg
   simp at this
 have hown2 : w2.ownsRow base 101 129 cache k xs :=
  hown1.kept (row := none) ⟨by rw [HW2.out]; rfl, by rw [HW2.out]; rfl, by rw [HW2.out]; rfl, by omega, fun b hb _ => hne2 b hb⟩ (by cases hv : cache.ownBlock <;> simp)
 have hgA : A < w'.heap.size := hd1.lt
 have hgC : ∀ b, cache.ownBlock = some b → b < w'.heap.size := fun b hb => (hown1.lt b hb).2
 have hb' : base ≤ w'.heap.size := by rw [HS1.out]; exact hbase
 obtain ⟨g, HG⟩ : ∃ g, Hid (g = w'.heap.size) := ⟨_, rfl⟩
 rw [← HG.out] at hg2 hs2 hgA hgC hb'
 have HG2 : Hid (w2.heap.size = g + 1) := hs2
 have HO2 : Hid (w2.ownsRow base 101 129 cache k xs) := hown2
 have HD2 : Hid (DiskAt w2 A B n cache (calls + 1) writes) := hd2
 have HF2 : Hid (Fr (fun b => b = A ∨ cache.ownBlock = some b) w w2) := hf2
 have HB2 : Hid (w2.heap[g]? = some (.cells (Value.int .i64 i :: data).toArray 101 (0, 0))) := hg2
 clear hs2 hown2 hd2 hf2 hg2 hne2 hsrc hown1 HW2
 try go_simp
 rw [← HG.out]
 go_cut [] (fun wx => ∃ cache', DiskAt wx A B n cache' (calls + 1) writes ∧ wx.ownsRow base 101 129 cache' (k + 1) (xs ++ (.int .i64 i :: data)) ∧ Fr (fun b => b = A ∨ cache.ownBlock = some b) w wx)
 case rest =>
  obtain ⟨cache', hd3, ho3, hf3⟩ := hcut
  have c3 := hd3.c3
  have f3 := hd3.fz 3
  have HD3 : Hid (DiskAt wc A B n cache' (calls + 1) writes) := hd3
  have HO3 : Hid (wc.ownsRow base 101 129 cache' (k + 1) (xs ++ (.int .i64 i :: data))) := ho3
  have HF3 : Hid (Fr (fun b => b = A ∨ cache.ownBlock = some b) w wc) := hf3
  clear hd3 ho3 hf3
  go_wp2
  go_ret
  exact ⟨rfl, cache', HD3.out.set3 _, own_set HD3.out (by decide) HO3.out, HF3.out.setCell _ (fun _ => Or.inl rfl) _⟩
 case first =>
  have hw2 : Tryz.prog.follows .mixedOrders = true := by kernel_rfl
  refine wp_region_any hw2 ?_
  refine wpAny_take (i := 0) (oi := ⟨some 22, .move (.tmp 0), _, _, _, none⟩) (v := .pointer (some ⟨A, 0, none⟩)) rfl (by kernel_rfl) (by kernel_rfl) (by kernel_rfl) (fun _ _ _ h => h) (Or.inl ⟨rfl, fun _ => rfl⟩) ?_
  simp only [Act.put, lsE, lsZ, lsS]
  refine wpAny_take (i := 1) (oi := ⟨some 23, .move (.tmp 0), _, _, _, none⟩) (v := .pointer (some ⟨A, 0, none⟩)) rfl (by kernel_rfl) (by kernel_rfl) (by kernel_rfl) (fun _ _ _ h => h) (Or.inl ⟨rfl, fun _ => rfl⟩) ?_
  simp only [Act.put, lsE, lsZ, lsS]
  refine wpAny_take (i := 2) (oi := ⟨some 24, .nilCheck (.tmp 23), _, _, _, none⟩) (v := .pointer (some ⟨A, 0, none⟩)) rfl (by kernel_rfl) (by kernel_rfl) (by kernel_rfl) (fun _ _ _ h => h) (Or.inl ⟨rfl, fun _ => rfl⟩) ?_
  simp only [Act.put, lsE, lsZ, lsS]
  refine wpAny_take (i := 3) (oi := ⟨some 25, .fieldAddr 96 (.tmp 24) 1, _, _, _, none⟩) (v := .pointer (some ⟨A, 1, none⟩)) rfl (by kernel_rfl) (by kernel_rfl) (by kernel_rfl) (fun _ _ _ h => h) (Or.inl ⟨rfl, fun _ => by kernel_rfl⟩) ?_
  simp only [Act.put, lsE, lsZ, lsS]
  refine wpAny_all (rs := [4, 5]) (by kernel_rfl) (by simp) ?_
  obtain ⟨inf, hi0, hz0, hz1, hz2⟩ := info_parts write_info
  have hl1 : (Instr.loadAt 94 (.pointer (some ⟨A, 1, none⟩))).run Tryz.prog w2.drew = .ok cache w2.drew := run_loadAt_one (w := w2.drew) (HD2.out.drew.c1) Tryz.underlying94 rfl
  have hl2 : (Instr.loadAt 101 (.pointer (some ⟨g, 0, none⟩))).run Tryz.prog w2.drew = .ok (.agg (Value.int .i64 i :: data).toArray) w2.drew :=
   run_loadAt_mid w2.drew g 0 101 (Value.int .i64 i :: data) _ (fun j v hv => by rw [Nat.zero_add, cell_of_row w2.drew g j _ _ _ HB2.out]; simpa using hv) Tryz.underlying101 rfl (by rw [write_size]; simp [hl])
  have hbs : (Instr.buildSlice 94 1 #[(0, .agg (Value.int .i64 i :: data).toArray)]).run Tryz.prog w2.drew = .ok (.slice (some ⟨w2.drew.heap.size, 0, none⟩) 1 1) (w2.drew.alloc (.cells (Value.int .i64 i :: data).toArray 101)) :=
   run_buildSlice_one w2.drew 94 101 inf _ _ Tryz.underlying94 hi0 hz0 (by rw [hz1]; simp [Value.cells, hl]) (by rw [hz1]; decide) (by rw [hz1]; decide)
  have hl3 : (Instr.loadAt 94 (.pointer (some ⟨A, 1, none⟩))).run Tryz.prog (w2.drew.alloc (.cells (Value.int .i64 i :: data).toArray 101)) = .ok cache (w2.drew.alloc (.cells (Value.int .i64 i :: data).toArray 101)) := run_loadAt_one ((HD2.out.drew.alloc _).c1) Tryz.underlying94 rfl
  have hownW : (w2.drew.alloc (.cells (Value.int .i64 i :: data).toArray 101)).ownsRow base 101 129 cache k xs := (show w2.drew.ownsRow base 101 129 cache k xs from HO2.out).alloc _
  have hnewsW := World.news_of_block (w := w2.drew.alloc (.cells (Value.int .i64 i :: data).toArray 101)) (B := w2.drew.heap.size) (heap_alloc_at _ _)
  have hdW : DiskAt (w2.drew.alloc (.cells (Value.int .i64 i :: data).toArray 101)) A B n cache (calls + 1) writes := HD2.out.drew.alloc _
  have hfW : Fr (fun b => b = A ∨ cache.ownBlock = some b) w (w2.drew.alloc (.cells (Value.int .i64 i :: data).toArray 101)) := HF2.out.drew.alloc _
  have hzW : base ≤ (w2.drew.alloc (.cells (Value.int .i64 i :: data).toArray 101)).heap.size := by
   have := HG2.out; simp; omega
  have hAc : cache.ownBlock ≠ some A := by
   intro e
   rcases HO2.out.2 with ⟨rfl, _⟩ | ⟨g', cap, cur, rfl, hb, hg, _⟩
   ·simp [Value.ownBlock] at e
   ·simp only [Value.ownBlock, Option.some.injEq] at e
    subst e
    have := HD2.out.symm.trans hg
    simp at this
  have fin : ∀ (gn cap : Nat) (wn : World), DiskAt wn A B n cache (calls + 1) writes → wn.ownsRow base 101 129 (.slice (some ⟨gn, 0, none⟩) (k + 1) cap) (k + 1) (xs ++ (.int .i64 i :: data)) →
    (w2.drew.alloc (.cells (Value.int .i64 i :: data).toArray 101)).grownBy wn cache.ownBlock →
    ∃ cache', DiskAt (wn.setCell ⟨A, 1, none⟩ (.slice (some ⟨gn, 0, none⟩) (k + 1) cap)) A B n cache' (calls + 1) writes ∧ (wn.setCell ⟨A, 1, none⟩ (.slice (some ⟨gn, 0, none⟩) (k + 1) cap)).ownsRow base 101 129 cache' (k + 1) (xs ++ (.int .i64 i :: data)) ∧
     Fr (fun b => b = A ∨ cache.ownBlock = some b) w (wn.setCell ⟨A, 1, none⟩ (.slice (some ⟨gn, 0, none⟩) (k + 1) cap)) := by
   intro gn cap wn hdn hon hgrow
   refine ⟨_, hdn.set1 _, ?_, (hfW.grown hgrow (fun b _ hb => Or.inr hb)).setCell _ (fun _ => Or.inl rfl) _⟩
   refine hon.kept (row := some A) ⟨rfl, rfl, rfl, by simp [World.setCell], fun b _ hn => heap_setCell_ne _ _ _ _ (fun e => hn (by rw [e]))⟩ ?_
   right
   intro e
   rcases hon.2 with ⟨hv, _⟩ | ⟨g', cap', cur, hv, hb, hg, _⟩
   ·cases hv
   ·simp only [Value.ownBlock, Option.some.injEq] at e
    simp only [Value.slice.injEq, Option.some.injEq, Addr.mk.injEq, and_true] at hv
    rw [← hv.1, e] at hg
    have := hdn.symm.trans hg
    simp at this
  intro i1 hi1
  simp only [List.mem_cons, List.not_mem_nil, or_false] at hi1
  rcases hi1 with rfl | rfl
  ·skip
   refine wpOp_value (o := ⟨some 26, .load 94 (.tmp 25), _, _, _, none⟩) rfl rfl (exec_load 94 (.tmp 25) rfl ⟨A, 1, none⟩ (by rfl) hl1) ?_
   simp only [Act.put, lsE, lsZ, lsS]
   refine wpAny_all (rs := [5]) (by kernel_rfl) (by simp) ?_
   intro i2 hi2
   obtain rfl : i2 = 5 := by simpa using hi2
   refine wpOp_value (o := ⟨some 27, .load 101 (.tmp 7), _, _, _, none⟩) rfl rfl (exec_load 101 (.tmp 7) rfl ⟨g, 0, none⟩ (by rfl) hl2) ?_
   simp only [Act.put, lsE, lsZ, lsS]
   refine wpAny_all (rs := [6]) (by kernel_rfl) (by simp) ?_
   intro i3 hi3
   obtain rfl : i3 = 6 := by simpa using hi3
   refine wpOp_value (o := ⟨some 28, .buildSlice 94 1 #[(0, .tmp 27)], _, _, _, none⟩) rfl rfl (exec_buildSlice 94 1 #[(0, .tmp 27)] rfl #[(0, .agg (Value.int .i64 i :: data).toArray)] (by simp [Act.eval]) hbs) ?_
   simp only [Act.put, lsE, lsZ, lsS]
   refine wpAny_all (rs := [7]) (by kernel_rfl) (by simp) ?_
   intro i4 hi4
   obtain rfl : i4 = 7 := by simpa using hi4
   refine wpOp_of_wp (o := ⟨some 29, .call { callee := .builtin .append, args := #[.tmp 26, .tmp 28], argTypes := #[94, 94] }, _, _, _, none⟩) rfl rfl ?_
   refine wp_append_lies _ (.tmp 26) (.tmp 28) 94 rfl base 101 inf (.agg (wz (.int .i64 0))) 129 136 Tryz.underlying94 hi0 hz0 hz1 hz2 (wz_size _) (by decide) cache k xs (by simp [Act.eval]) hownW ⟨w2.drew.heap.size, 0, none⟩ 1 1 (Value.int .i64 i :: data) (by simp [Act.eval]) (by simp [hl]) hnewsW (fun u hu => by rcases List.mem_cons.1 hu with rfl | hu; rfl; exact hone u hu) (by decide) (by unfold maxLen; omega) (by omega) hzW _ rfl ?_
   intro gn cap wn hon hgrow hat hlt
   simp only [Act.put, lsE, lsZ, lsS]
   refine wpAny_take (i := 8) (oi := ⟨some 30, .nilCheck (.tmp 22), _, _, _, none⟩) (v := .pointer (some ⟨A, 0, none⟩)) rfl (by kernel_rfl) (by kernel_rfl) (by kernel_rfl) (fun _ _ _ h => h) (Or.inl ⟨rfl, fun _ => rfl⟩) ?_
   simp only [Act.put, lsE, lsZ, lsS]
   refine wpAny_take (i := 9) (oi := ⟨some 31, .fieldAddr 96 (.tmp 30) 1, _, _, _, none⟩) (v := .pointer (some ⟨A, 1, none⟩)) rfl (by kernel_rfl) (by kernel_rfl) (by kernel_rfl) (fun _ _ _ h => h) (Or.inl ⟨rfl, fun _ => by kernel_rfl⟩) ?_
   simp only [Act.put, lsE, lsZ, lsS]
   refine wpAny_all (rs := [10]) (by kernel_rfl) (by simp) ?_
   intro i5 hi5
   obtain rfl : i5 = 10 := by simpa using hi5
   have hdn : DiskAt wn A B n cache (calls + 1) writes := by unfold DiskAt; rw [hgrow.block A hdW.lt (fun e => hAc e.symm)]; exact hdW
   refine wpOp_skip (o := ⟨none, .store 94 (.tmp 31) (.tmp 29), _, _, _, none⟩) rfl rfl (exec_store 94 (.tmp 31) (.tmp 29) rfl ⟨A, 1, none⟩ (.slice (some ⟨gn, 0, none⟩) (k + 1) cap) (by rfl) (by rfl) (run_storeAt_one hdn.c1 (hdn.fz 1) (by kernel_rfl) rfl)) ?_
   simp only [Act.put]
   refine wpAny_done (by kernel_rfl) ?_ _
   go_wp2
   go_meet
   case rel => exact fin gn cap wn hdn hon hgrow
  ·skip
   refine wpOp_value (o := ⟨some 27, .load 101 (.tmp 7), _, _, _, none⟩) rfl rfl (exec_load 101 (.tmp 7) rfl ⟨g, 0, none⟩ (by rfl) hl2) ?_
   simp only [Act.put, lsE, lsZ, lsS]
   refine wpAny_all (rs := [4, 6]) (by kernel_rfl) (by simp) ?_
   intro i2 hi2
   simp only [List.mem_cons, List.not_mem_nil, or_false] at hi2
   rcases hi2 with rfl | rfl
   ·skip
    refine wpOp_value (o := ⟨some 26, .load 94 (.tmp 25), _, _, _, none⟩) rfl rfl (exec_load 94 (.tmp 25) rfl ⟨A, 1, none⟩ (by rfl) hl1) ?_
    simp only [Act.put, lsE, lsZ, lsS]
    refine wpAny_all (rs := [6]) (by kernel_rfl) (by simp) ?_
    intro i3 hi3
    obtain rfl : i3 = 6 := by simpa using hi3
    refine wpOp_value (o := ⟨some 28, .buildSlice 94 1 #[(0, .tmp 27)], _, _, _, none⟩) rfl rfl (exec_buildSlice 94 1 #[(0, .tmp 27)] rfl #[(0, .agg (Value.int .i64 i :: data).toArray)] (by simp [Act.eval]) hbs) ?_
    simp only [Act.put, lsE, lsZ, lsS]
    refine wpAny_all (rs := [7]) (by kernel_rfl) (by simp) ?_
    intro i4 hi4
    obtain rfl : i4 = 7 := by simpa using hi4
    refine wpOp_of_wp (o := ⟨some 29, .call { callee := .builtin .append, args := #[.tmp 26, .tmp 28], argTypes := #[94, 94] }, _, _, _, none⟩) rfl rfl ?_
    refine wp_append_lies _ (.tmp 26) (.tmp 28) 94 rfl base 101 inf (.agg (wz (.int .i64 0))) 129 136 Tryz.underlying94 hi0 hz0 hz1 hz2 (wz_size _) (by decide) cache k xs (by simp [Act.eval]) hownW ⟨w2.drew.heap.size, 0, none⟩ 1 1 (Value.int .i64 i :: data) (by simp [Act.eval]) (by simp [hl]) hnewsW (fun u hu => by rcases List.mem_cons.1 hu with rfl | hu; rfl; exact hone u hu) (by decide) (by unfold maxLen; omega) (by omega) hzW _ rfl ?_
    intro gn cap wn hon hgrow hat hlt
    simp only [Act.put, lsE, lsZ, lsS]
    refine wpAny_take (i := 8) (oi := ⟨some 30, .nilCheck (.tmp 22), _, _, _, none⟩) (v := .pointer (some ⟨A, 0, none⟩)) rfl (by kernel_rfl) (by kernel_rfl) (by kernel_rfl) (fun _ _ _ h => h) (Or.inl ⟨rfl, fun _ => rfl⟩) ?_
    simp only [Act.put, lsE, lsZ, lsS]
    refine wpAny_take (i := 9) (oi := ⟨some 31, .fieldAddr 96 (.tmp 30) 1, _, _, _, none⟩) (v := .pointer (some ⟨A, 1, none⟩)) rfl (by kernel_rfl) (by kernel_rfl) (by kernel_rfl) (fun _ _ _ h => h) (Or.inl ⟨rfl, fun _ => by kernel_rfl⟩) ?_
    simp only [Act.put, lsE, lsZ, lsS]
    refine wpAny_all (rs := [10]) (by kernel_rfl) (by simp) ?_
    intro i5 hi5
    obtain rfl : i5 = 10 := by simpa using hi5
    have hdn : DiskAt wn A B n cache (calls + 1) writes := by unfold DiskAt; rw [hgrow.block A hdW.lt (fun e => hAc e.symm)]; exact hdW
    refine wpOp_skip (o := ⟨none, .store 94 (.tmp 31) (.tmp 29), _, _, _, none⟩) rfl rfl (exec_store 94 (.tmp 31) (.tmp 29) rfl ⟨A, 1, none⟩ (.slice (some ⟨gn, 0, none⟩) (k + 1) cap) (by rfl) (by rfl) (run_storeAt_one hdn.c1 (hdn.fz 1) (by kernel_rfl) rfl)) ?_
    simp only [Act.put]
    refine wpAny_done (by kernel_rfl) ?_ _
    go_wp2
    go_meet
    case rel => exact fin gn cap wn hdn hon hgrow
   ·skip
    refine wpOp_value (o := ⟨some 28, .buildSlice 94 1 #[(0, .tmp 27)], _, _, _, none⟩) rfl rfl (exec_buildSlice 94 1 #[(0, .tmp 27)] rfl #[(0, .agg (Value.int .i64 i :: data).toArray)] (by simp [Act.eval]) hbs) ?_
    simp only [Act.put, lsE, lsZ, lsS]
    refine wpAny_all (rs := [4]) (by kernel_rfl) (by simp) ?_
    intro i3 hi3
    obtain rfl : i3 = 4 := by simpa using hi3
    refine wpOp_value (o := ⟨some 26, .load 94 (.tmp 25), _, _, _, none⟩) rfl rfl (exec_load 94 (.tmp 25) rfl ⟨A, 1, none⟩ (by rfl) hl3) ?_
    simp only [Act.put, lsE, lsZ, lsS]
    refine wpAny_all (rs := [7]) (by kernel_rfl) (by simp) ?_
    intro i4 hi4
    obtain rfl : i4 = 7 := by simpa using hi4
    refine wpOp_of_wp (o := ⟨some 29, .call { callee := .builtin .append, args := #[.tmp 26, .tmp 28], argTypes := #[94, 94] }, _, _, _, none⟩) rfl rfl ?_
    refine wp_append_lies _ (.tmp 26) (.tmp 28) 94 rfl base 101 inf (.agg (wz (.int .i64 0))) 129 136 Tryz.underlying94 hi0 hz0 hz1 hz2 (wz_size _) (by decide) cache k xs (by simp [Act.eval]) hownW ⟨w2.drew.heap.size, 0, none⟩ 1 1 (Value.int .i64 i :: data) (by simp [Act.eval]) (by simp [hl]) hnewsW (fun u hu => by rcases List.mem_cons.1 hu with rfl | hu; rfl; exact hone u hu) (by decide) (by unfold maxLen; omega) (by omega) hzW _ rfl ?_
    intro gn cap wn hon hgrow hat hlt
    simp only [Act.put, lsE, lsZ, lsS]
    refine wpAny_take (i := 8) (oi := ⟨some 30, .nilCheck (.tmp 22), _, _, _, none⟩) (v := .pointer (some ⟨A, 0, none⟩)) rfl (by kernel_rfl) (by kernel_rfl) (by kernel_rfl) (fun _ _ _ h => h) (Or.inl ⟨rfl, fun _ => rfl⟩) ?_
    simp only [Act.put, lsE, lsZ, lsS]
    refine wpAny_take (i := 9) (oi := ⟨some 31, .fieldAddr 96 (.tmp 30) 1, _, _, _, none⟩) (v := .pointer (some ⟨A, 1, none⟩)) rfl (by kernel_rfl) (by kernel_rfl) (by kernel_rfl) (fun _ _ _ h => h) (Or.inl ⟨rfl, fun _ => by kernel_rfl⟩) ?_
    simp only [Act.put, lsE, lsZ, lsS]
    refine wpAny_all (rs := [10]) (by kernel_rfl) (by simp) ?_
    intro i5 hi5
    obtain rfl : i5 = 10 := by simpa using hi5
    have hdn : DiskAt wn A B n cache (calls + 1) writes := by unfold DiskAt; rw [hgrow.block A hdW.lt (fun e => hAc e.symm)]; exact hdW
    refine wpOp_skip (o := ⟨none, .store 94 (.tmp 31) (.tmp 29), _, _, _, none⟩) rfl rfl (exec_store 94 (.tmp 31) (.tmp 29) rfl ⟨A, 1, none⟩ (.slice (some ⟨gn, 0, none⟩) (k + 1) cap) (by rfl) (by rfl) (run_storeAt_one hdn.c1 (hdn.fz 1) (by kernel_rfl) rfl)) ?_
    simp only [Act.put]
    refine wpAny_done (by kernel_rfl) ?_ _
    go_wp2
    go_meet
    case rel => exact fin gn cap wn hdn hon hgrow
end Go.Proofs.YteebjgfalllbjaaGreatDoor
namespace Go.Proofs.YteebjgfalllbjaaGreatDoor
open Go.RowKit

theorem run_storeAt_row {P : Program} {w : World} {g o : Nat} {ty t : TypeId} {cur vs : List Value} (hg : w.heap[g]? = some (.cells cur.toArray t (0, 0))) (hf : o + vs.length ≤ cur.length) (h1 : ∀ v ∈ vs, v.oneCell' = true) (hi : (P.info? ty).map (·.size) = some vs.length) :
  (Instr.storeAt ty (.pointer (some ⟨g, o, none⟩)) (.agg vs.toArray)).run P w = .ok () (w.setRow g (splice cur o vs).toArray) := by
 have hst := run_storeCells_at P g o t vs 0 cur.toArray w hg (by simpa using hf) h1
 cases hq : P.info? ty with
 | none => simp [hq] at hi
 | some i =>
  have hs : i.size = vs.length := by simpa [hq] using hi
  simp [Instr.storeAt, Instr.sureAddr, storeVar, sizeOf, typeInfo, hq, hs, Value.cells, hst, splice]

def flat (ents : List (Nat × List Value)) : List Value := ents.flatMap fun p => Value.int .i64 p.1 :: p.2
theorem flat_at : ∀ (ents : List (Nat × List Value)) (_ : ∀ p ∈ ents, p.2.length = 128) (i : Nat) (p : Nat × List Value), ents[i]? = some p → ((flat ents).drop (i * 129)).take 129 = Value.int .i64 p.1 :: p.2
 | [], _, i, p, h => by simp at h
 | q :: r, hl, 0, p, h => by
  simp at h; subst h
  have := hl q (by simp)
  simp [flat, this]
 | q :: r, hl, i + 1, p, h => by
  have hq := hl q (by simp)
  have ih := flat_at r (fun p hp => hl p (by simp [hp])) i p (by simpa using h)
  have e : flat (q :: r) = (Value.int .i64 q.1 :: q.2) ++ flat r := by simp [flat]
  rw [e, List.drop_append, List.drop_of_length_le (by simp; omega)]
  have e2 : (i + 1) * 129 - (Value.int .i64 q.1 :: q.2).length = i * 129 := by simp [hq]; omega
  rw [e2]; simpa using ih
theorem flat_len : ∀ (ents : List (Nat × List Value)) (_ : ∀ p ∈ ents, p.2.length = 128), (flat ents).length = ents.length * 129
 | [], _ => rfl
 | q :: r, hl => by
  have hq := hl q (by simp)
  have ih := flat_len r (fun p hp => hl p (by simp [hp]))
  have e : flat (q :: r) = (Value.int .i64 q.1 :: q.2) ++ flat r := by simp [flat]
  rw [e, List.length_append, ih]; simp [hq]; omega
def lain (bs : List Value) (ents : List (Nat × List Value)) : List Value := ents.foldl (fun b p => splice b (p.1 * 128) p.2) bs
theorem lain_take (bs : List Value) (ents : List (Nat × List Value)) (i : Nat) (p : Nat × List Value) (h : ents[i]? = some p) : lain bs (ents.take (i + 1)) = splice (lain bs (ents.take i)) (p.1 * 128) p.2 := by
 have hi : i < ents.length := (List.getElem?_eq_some_iff.1 h).1
 have hp : ents[i] = p := (List.getElem?_eq_some_iff.1 h).2
 rw [List.take_succ_eq_append_getElem hi]
 simp [lain, hp]
theorem mem_splice {l c : List Value} {o : Nat} {v : Value} (h : v ∈ splice l o c) : v ∈ l ∨ v ∈ c := by
 simp only [splice, List.mem_append] at h
 rcases h with h | h | h
 ·exact .inl (List.mem_of_mem_take h)
 ·exact .inr h
 ·exact .inl (List.mem_of_mem_drop h)
theorem RowsAt.splice {w : World} {B n : Nat} {bs : List Value} (h : RowsAt w B n bs) (a : Nat) (ha : a < n) (d : List Value) (hd : d.length = 128) (h1 : ∀ v ∈ d, v.oneCell' = true) :
  RowsAt (w.setRow B (Go.splice bs (a * 128) d).toArray) B n (Go.splice bs (a * 128) d) := by
 obtain ⟨hb, hl, ho⟩ := h
 refine ⟨setRow_heap _ _ _ _ _ _ hb, ?_, fun v hv => ?_⟩
 ·rw [length_splice _ _ _ (by rw [hd, hl]; omega), hl]
 ·rcases mem_splice hv with hv | hv
  ·exact ho v hv
  ·exact h1 v hv
theorem arr_size : (Tryz.prog.info? 97).map (·.size) = some 128 := by kernel_rfl
theorem store_write' (p : List Value) (hp : p.length = 129) (h1 : ∀ v ∈ p, v.oneCell' = true) (w : World) : (Instr.storeAt 101 (.pointer (some ⟨w.heap.size, 0, none⟩)) (.agg p.toArray)).run Tryz.prog (w.alloc (.cells (wz (.int .i64 0)) 101)) = .ok () (w.alloc (.cells p.toArray 101)) :=
 run_storeAt_new w 101 _ _ (by rw [write_size]; simp [hp]) (by rw [wz_size]; simp [hp]) (all_oneCell_toArray h1)
theorem range_own {w : World} {base k g cap : Nat} {ents : List (Nat × List Value)} (h : w.ownsRow base 101 129 (.slice (some ⟨g, 0, none⟩) k cap) k (flat ents)) (hl : ∀ p ∈ ents, p.2.length = 128) {i : Nat} {p : Nat × List Value} (hp : ents[i]? = some p) :
  w.rangeAt g (i * 129) (Value.int .i64 p.1 :: p.2) := by
 intro j v hv
 have hc := h.cells (g := g) rfl (i * 129 + j) v
 rw [← flat_at ents hl i p hp, List.getElem?_take] at hv
 split at hv
 ·rw [List.getElem?_drop] at hv
  have := hc hv
  rwa [Addr.add_mid, Nat.zero_add] at this
 ·cases hv
end Go.Proofs.YteebjgfalllbjaaGreatDoor
