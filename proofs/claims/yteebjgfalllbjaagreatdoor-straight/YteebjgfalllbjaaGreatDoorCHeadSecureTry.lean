import Derived.Test.YteebjgfalllbjaaGreatDoorCFlushWVolStore
namespace Go.Proofs.YteebjgfalllbjaaGreatDoor
open Go.RowKit

def markS : ByteArray := ⟨#[115, 97, 103, 97, 115, 58, 32, 97, 32, 106, 111, 117, 114, 110, 97, 108, 44, 32, 102, 111, 114, 109, 32, 49]⟩
def markB : List Value := markS.toList.map (fun x => Value.int .u8 x.toNat)
def headB (n : Nat) : List Value := [.int .u8 1, .int .u8 ((n : Int) / 256), .int .u8 ((n : Int) % 256)] ++ (markB ++ List.replicate 101 (Value.int .u8 0))
def headA (n : Nat) : List Value := [.int .u8 1, .int .u8 ((n : Int) / 256), .int .u8 ((n : Int) % 256)] ++ List.replicate 125 (Value.int .u8 0)
theorem markB_len : markB.length = 24 := by kernel_rfl
theorem headB_len (n : Nat) : (headB n).length = 128 := by simp [headB, markB_len]
theorem headB_one (n : Nat) : ∀ v ∈ headB n, v.oneCell' = true := by
 intro v hv
 simp only [headB, markB, List.mem_append, List.mem_cons, List.not_mem_nil, or_false, List.mem_map, List.mem_replicate] at hv
 rcases hv with (rfl | rfl | rfl) | ⟨_, _, rfl⟩ | ⟨_, rfl⟩ <;> rfl
theorem alloc_block (w : World) : (Instr.alloc 130 true (.tuple #[])).run Tryz.prog w = .ok (.pointer (some ⟨w.heap.size, 0, none⟩)) (w.alloc (.cells z128 130)) := by kernel_rfl
theorem block_size : (Tryz.prog.info? 130).map (·.size) = some 128 := by kernel_rfl
def cur1 : Array Value := z128.setIfInBounds 0 (.int .u8 1)
theorem new1 (x y : Value) : cur1.toList.take 1 ++ ([x, y] ++ cur1.toList.drop (1 + [x, y].length)) = [.int .u8 1, x, y] ++ List.replicate 125 (Value.int .u8 0) := by kernel_rfl
theorem new2 (n : Nat) : (headA n).toArray.toList.take 3 ++ markB ++ (headA n).toArray.toList.drop (3 + markB.length) = headB n := by kernel_rfl

theorem run_copy_mark (w : World) (g n : Nat) (hg : w.heap[g]? = some (.cells (headA n).toArray 130 (0, 0))) :
  (Builtin.copy_ #[85, 9] 3 #[.slice (some ⟨g, 3, none⟩) 24 24, .string markS]).run Tryz.prog w = .ok (.int .i64 24) (w.setRow g (headB n).toArray) := by
 have hst := run_storeCells_at Tryz.prog g 3 130 markB 0 (headA n).toArray w hg (by rw [markB_len]; simp [headA]) (fun v hv => by simp only [markB, List.mem_map] at hv; obtain ⟨_, _, rfl⟩ := hv; rfl)
 have hc : (Builtin.firstCells 1 24 (.string markS)).run Tryz.prog w = .ok markB.toArray w := by kernel_rfl
 have hlen : (Builtin.lenOf (.string markS)).run Tryz.prog w = .ok 24 w := by kernel_rfl
 have hsz : (sizeOf 5).run Tryz.prog w = .ok 1 w := by kernel_rfl
 have hm : Nat.min 24 24 = 24 := rfl
 simp only [Nat.add_zero] at hst
 rw [new2] at hst
 simp only [Builtin.copy_, List.getElem?_toArray, List.getElem?_cons_zero, List.getElem?_cons_succ, Sem.run_bind, run_underlying Tryz.underlying85, Result.andThen_ok, hlen, hsz, hm, hc, hst, Sem.run_pure]
 rfl

theorem wpList_copy_mark {ops : Array Oper} {rest : List Oper} {op : Oper} {a : Act} {w : World} {Q : Exit → Act → World → Prop} (hgd : op.guard = none) (d : Operand) (ho : op.op = .call { callee := .builtin .copy, args := #[d, .const (.string markS)], argTypes := #[85, 9] }) (ht : op.type = 3)
  (g n : Nat) (hg : w.heap[g]? = some (.cells (headA n).toArray 130 (0, 0))) (hd : a.eval d = .slice (some ⟨g, 3, none⟩) 24 24)
  (h : ∀ w2, Hid (w2 = w.setRow g (headB n).toArray) → wpList Tryz.prog ops Q rest (a.put op.dst (.int .i64 24)) w2) : wpList Tryz.prog ops Q (op :: rest) a w :=
 wpList_plain hgd fun _ hK => by
  have hr := run_copy_mark w g n hg
  have hc : a.eval (.const (.string markS)) = .string markS := rfl
  unfold Oper.wp execOp
  simp only [ho, ht, resolve, invoke, builtin, Sem.run_bind, Sem.run_pure, Result.andThen_ok, List.map_toArray, List.map_cons, List.map_nil, hd, hc, hr]
  exact hK _ _ (h _ rfl)

set_option maxRecDepth 100000 in
set_option maxHeartbeats 1000000 in
theorem Head_ok (w : World) (n : Nat) (hn : n ≤ 400) :
  Calls Tryz.prog 113 #[.int .i64 n] w fun e w' => e = .returned (.agg (headB n).toArray) ∧ Fr (fun _ => False) w w' := by
 have hz0 : z128[0]? = some (.int .u8 0) := by kernel_rfl
 go_enter Tryz.func113, Tryz.ntmps113
 go_wp2_with (first
  | (refine wpList_alloc 130 (v := .pointer (some ⟨w.heap.size, 0, none⟩)) (w' := w.alloc (.cells z128 130)) rfl rfl ?_ ?_; exact alloc_block w)
  | (refine wpList_alloc 130 (v := .pointer (some ⟨(w.alloc (.cells z128 130)).heap.size, 0, none⟩)) (w' := (w.alloc (.cells z128 130)).alloc (.cells z128 130)) rfl rfl ?_ ?_; exact alloc_block _))
 refine (Part1_ok _ _).mono ?_
 rintro e w' ⟨rfl, rfl⟩
 obtain ⟨N, HN⟩ : ∃ N, Hid (N = w.heap.size) := ⟨_, rfl⟩
 have hW1 : ∀ o : Obj, (((w.alloc (.cells z128 130)).alloc (.cells cur1 130)).alloc o).heap[w.heap.size + 1]? = some (.cells cur1 130 (0, 0)) := fun o => by
  rw [heap_alloc_lt _ _ _ (by simp)]; exact heap_alloc2_new w _ _
 have hW2 : ∀ o : Obj, (((w.alloc (.cells z128 130)).alloc (.cells cur1 130)).alloc o).heap[w.heap.size + 1 + 1]? = some o := fun o => by
  have := heap_alloc_at ((w.alloc (.cells z128 130)).alloc (.cells cur1 130)) o
  simpa using this
 have hW3 : ∀ (o : Obj), (((w.alloc (.cells z128 130)).alloc (.cells cur1 130)).alloc o).heap[w.heap.size]? = some (.cells z128 130 (0, 0)) := fun o => by
  rw [heap_alloc_lt _ _ _ (by simp; omega), heap_alloc_lt _ _ _ (by simp)]; exact heap_alloc_at _ _
 have hF3 : ∀ (o : Obj), Fr (fun _ => False) w (((w.alloc (.cells z128 130)).alloc (.cells cur1 130)).alloc o) := fun o => (((Fr.refl _ _).alloc _).alloc _).alloc _
 have hcur : z128.setIfInBounds 0 (.int .u8 1) = cur1 := rfl
 go_wp2_with (first | (refine wpList_copy_to rfl (.tmp 5) (.tmp 11) 85 85 rfl 5 Tryz.underlying85 u8size (w.heap.size + 1) 1 2 2 ⟨w.heap.size + 1 + 1, 0, none⟩ 2 2 rfl rfl cur1 130 (hW1 _) [.int .u8 ((n : Int) / 256), .int .u8 ((n : Int) % 256)] rfl ?_ ?_ ?_ (headA n) (new1 _ _) ?_; exact World.news_of_block (hW2 _); (simp [cur1, z128_size]); (simp [Value.oneCell']); intro w2 HW2))
 have hN1 : w2.heap[w.heap.size + 1]? = some (.cells (headA n).toArray 130 (0, 0)) := by rw [HW2.out]; exact setRow_heap _ _ _ _ _ _ (hW1 _)
 have hN0 : w2.heap[w.heap.size]? = some (.cells z128 130 (0, 0)) := by rw [HW2.out, setRow_other _ _ _ _ (by omega)]; exact hW3 _
 have hF2 : Fr (fun _ => False) w w2 := by rw [HW2.out]; exact (hF3 _).setRow _ (fun h => by omega) _
 clear HW2 hW1 hW2 hW3 hF3
 refine (Part3_ok _ _).mono ?_
 rintro e w' ⟨rfl, rfl⟩
 go_wp2_with (first
  | (refine wpList_copy_mark rfl (.tmp 13) rfl rfl (w.heap.size + 1) n hN1 rfl ?_; intro w3 HW3; have hM1 : w3.rangeAt (w.heap.size + 1) 0 (headB n) := by (rw [HW3.out]; intro j v hv; rw [cell_setRow_same _ _ _ _ _ _ _ hN1]; simpa using hv))
  | (refine wpList_load_mid rfl 130 (.tmp 3) rfl (w.heap.size + 1) 0 ?_ (headB n) _ hM1 Tryz.underlying130 rfl ?_ ?_; rfl; (rw [block_size, headB_len]))
  | (refine wpList_store 130 (w' := w3.setRow w.heap.size (headB n).toArray) (.tmp 2) (.tmp 15) rfl rfl ?_ ?_; (have hM0 : w3.heap[w.heap.size]? = some (.cells z128.toList.toArray 130 (0, 0)) := by (rw [HW3.out, setRow_other _ _ _ _ (by omega)]; simpa using hN0)); (have := run_storeAt_row (P := Tryz.prog) (o := 0) (ty := 130) (vs := headB n) hM0 (by simp [headB_len, z128_size]) (headB_one n) (by rw [block_size, headB_len])); (rw [show splice z128.toList 0 (headB n) = headB n from by simp [splice, headB_len, z128_size]] at this); exact this))
 simp only [Act.put, lsE, lsZ, lsS]
 have hM0 : w3.heap[w.heap.size]? = some (.cells z128 130 (0, 0)) := by rw [HW3.out, setRow_other _ _ _ _ (by omega)]; exact hN0
 have hE := setRow_heap w3 w.heap.size z128 (headB n).toArray 130 (0, 0) hM0
 refine bodyPost_ret (v := .agg (headB n).toArray) (results_cell_row Tryz.results113 _ _ w.heap.size 130 _ (0, 0) _ rfl hE Tryz.underlying130 rfl (by rw [block_size]; simp [headB_len])) rfl ⟨rfl, ?_⟩
 have hF3 : Fr (fun _ => False) w w3 := by rw [HW3.out]; exact hF2.setRow _ (fun h => by omega) _
 exact hF3.setRow _ (fun h => by omega) _
end Go.Proofs.YteebjgfalllbjaaGreatDoor
namespace Go.Proofs.YteebjgfalllbjaaGreatDoor
open Go.RowKit
theorem method_Flush (a : Addr) (w : World) : (method 410 31 (.pointer (some a)) "Flush").run Tryz.prog w = .ok (205, .pointer (some a)) w := by kernel_rfl
theorem method_Read (a : Addr) (w : World) : (method 410 31 (.pointer (some a)) "Read").run Tryz.prog w = .ok (206, .pointer (some a)) w := by kernel_rfl
theorem method_Blocks (a : Addr) (w : World) : (method 410 31 (.pointer (some a)) "Blocks").run Tryz.prog w = .ok (204, .pointer (some a)) w := by kernel_rfl
set_option maxRecDepth 100000 in
set_option maxHeartbeats 1000000 in
theorem Secure_ok {w : World} {V A B n : Nat} {cache : Value} {calls writes : Int} {bs : List Value} (hv : VolAt w V A n) (h : DiskAt w A B n cache calls writes) (hr : RowsAt w B n bs) (h0 : 0 ≤ calls) (h1 : calls < 1000000000)
  {base k : Nat} {ents : List (Nat × List Value)} (hown : w.ownsRow base 101 129 cache k (flat ents)) (hk : k < 1000000) (hk0 : 0 < k) (hl : ∀ p ∈ ents, p.2.length = 128) (ho : ∀ p ∈ ents, ∀ v ∈ p.2, v.oneCell' = true) (hn : ∀ p ∈ ents, p.1 < n) :
  Calls Tryz.prog 95 #[.pointer (some ⟨V, 0, none⟩)] w fun e w' => e = .returned (.tuple #[]) ∧
   DiskAt w' A B n (.slice none 0 0) (calls + 1) writes ∧ RowsAt w' B n (lain bs ents) ∧ Fr (fun b => b = A ∨ b = B) w w' := by
 have c0 := hv.c0
 have mf := method_Flush
 go_enter Tryz.func95, Tryz.ntmps95
 go_wp2_with fail
 refine (Flush_ok h hr h0 h1 hown hk hk0 hl ho hn).mono ?_
 rintro e w2 ⟨rfl, hd2, hr2, hf2⟩
 go_wp2
 go_end0
 exact ⟨rfl, hd2, hr2, hf2⟩

set_option maxRecDepth 100000 in
set_option maxHeartbeats 1000000 in
theorem Load_ok {w : World} {V A B n : Nat} {calls writes : Int} {bs : List Value} (hv : VolAt w V A n) (h : DiskAt w A B n (.slice none 0 0) calls writes) (hr : RowsAt w B n bs) (h0 : 0 ≤ calls) (h1 : calls < 1000000000) (i : Nat) (hi : i < n) :
  Calls Tryz.prog 112 #[.pointer (some ⟨V, 0, none⟩), .int .i64 i] w fun e w' => e = .returned (.agg ((bs.drop (i * 128)).take 128).toArray) ∧ DiskAt w' A B n (.slice none 0 0) (calls + 1) writes ∧ Fr (· = A) w w' := by
 have hcl : ((bs.drop (i * 128)).take 128).length = 128 := by have := hr.2.1; simp; omega
 have hone' : ∀ v ∈ (bs.drop (i * 128)).take 128, v.oneCell' = true := fun v hv => hr.2.2 v (List.mem_of_mem_drop (List.mem_of_mem_take hv))
 have hAl := h.lt
 have hVl := lt_of_heap hv
 have mr := method_Read
 have hv1 : VolAt (w.alloc (.cells z128 130)) V A n := by unfold VolAt; rw [heap_alloc_lt _ _ _ hVl]; exact hv
 have hr1 : RowsAt (w.alloc (.cells z128 130)) B n bs := ⟨by rw [heap_alloc_lt _ _ _ (lt_of_heap hr.1)]; exact hr.1, hr.2⟩
 have c0 := hv1.c0
 go_enter Tryz.func112, Tryz.ntmps112
 go_wp2_with (first
  | (refine wpList_alloc 130 (v := .pointer (some ⟨w.heap.size, 0, none⟩)) (w' := w.alloc (.cells z128 130)) rfl rfl ?_ ?_; exact alloc_block w))
 refine (Read_ok (h.alloc _) hr1 h0 h1 i hi).mono ?_
 rintro e w2 ⟨rfl, hb2, hd2, hf2⟩
 obtain ⟨cs, HCS⟩ : ∃ cs, Hid (cs = (bs.drop (i * 128)).take 128) := ⟨_, rfl⟩
 rw [← HCS.out] at hcl hone' hb2
 have hN : w2.heap[w.heap.size]? = some (.cells z128 130 (0, 0)) := hf2.keep (heap_alloc_at w _) (by omega)
 have hF : Fr (· = A) w w2 := ((Fr.refl _ _).alloc _).trans hf2 (fun _ _ h => h)
 simp only [World.size_alloc] at hb2
 have hL1 : w.heap.size + 1 < w2.heap.size := lt_of_heap hb2
 obtain ⟨M, HM⟩ : ∃ M, Hid (M = w2.heap.size) := ⟨_, rfl⟩
 go_wp2_with (first
  | (refine wpList_alloc 130 (v := .pointer (some ⟨w2.heap.size, 0, none⟩)) (w' := w2.alloc (.cells z128 130)) rfl rfl ?_ ?_; exact alloc_block w2)
  | (refine wpList_copy_to rfl (.tmp 23) (.tmp 24) 85 85 rfl 5 Tryz.underlying85 u8size w2.heap.size 0 128 128 ⟨w.heap.size + 1, 0, none⟩ 128 128 rfl rfl z128 130 ?_ cs ?_ ?_ ?_ hone' cs ?_ ?_; exact heap_alloc_at _ _; (rw [hcl]; rfl); (exact World.news_of_block (cs := cs.toArray) (t := 5) (fr := (0, 0)) (by rw [heap_alloc_lt _ _ _ hL1]; exact hb2)); (rw [hcl, z128_size]; decide); (rw [hcl, List.drop_of_length_le (l := z128.toList) (by rw [Array.length_toList, z128_size]; decide)]; simp); intro w3 HW3; have hM1 : w3.rangeAt w2.heap.size 0 cs := by (rw [HW3.out]; intro j v hv; rw [cell_setRow_same _ _ _ _ _ _ _ (heap_alloc_at _ _)]; simpa using hv))
  | (refine wpList_load_mid rfl 130 (.tmp 7) rfl w2.heap.size 0 ?_ cs _ hM1 Tryz.underlying130 rfl ?_ ?_; rfl; (rw [block_size, hcl]))
  | (refine wpList_store 130 (w' := w3.setRow w.heap.size cs.toArray) (.tmp 4) (.tmp 26) rfl rfl ?_ ?_; (have hM0 : w3.heap[w.heap.size]? = some (.cells z128.toList.toArray 130 (0, 0)) := by (rw [HW3.out, setRow_other _ _ _ _ (by omega), heap_alloc_lt _ _ _ (by omega)]; simpa using hN)); (have := run_storeAt_row (P := Tryz.prog) (o := 0) (ty := 130) (vs := cs) hM0 (by simp [hcl, z128_size]) hone' (by rw [block_size, hcl])); (rw [show splice z128.toList 0 cs = cs from by simp [splice, hcl, z128_size]] at this); exact this))
 simp only [Act.put, lsE, lsZ, lsS]
 have hM0 : w3.heap[w.heap.size]? = some (.cells z128 130 (0, 0)) := by rw [HW3.out, setRow_other _ _ _ _ (by omega), heap_alloc_lt _ _ _ (by omega)]; exact hN
 have hE := setRow_heap w3 w.heap.size z128 cs.toArray 130 (0, 0) hM0
 have hF3 : Fr (· = A) w w3 := by rw [HW3.out]; exact (hF.alloc _).setRow _ (fun h => by have := hF.size; omega) _
 have hd3 : DiskAt w3 A B n (.slice none 0 0) (calls + 1) writes := by unfold DiskAt; rw [HW3.out, setRow_other _ _ _ _ (by have := hd2.lt; omega)]; exact hd2.alloc _
 refine bodyPost_ret (v := .agg cs.toArray) (results_cell_row Tryz.results112 _ _ w.heap.size 130 _ (0, 0) _ rfl hE Tryz.underlying130 rfl (by rw [block_size]; simp [hcl])) rfl ⟨by rw [HCS.out], ?_, hF3.setRow _ (fun h => by omega) _⟩
 unfold DiskAt; rw [setRow_other _ _ _ _ (by omega)]; exact hd3
end Go.Proofs.YteebjgfalllbjaaGreatDoor
namespace Go.Proofs.YteebjgfalllbjaaGreatDoor
open Go.RowKit
theorem count1_idle (p : Addr) (w : World) :
  CallsD Tryz.prog 152 #[.pointer (some p)] .returning w fun e u' w' => e = .returned (.tuple #[]) ∧ u' = .returning ∧ w' = w := by
 refine callsD_of_wpS Tryz.func152 rfl fun c₀ cs hu => ?_
 apply wpS_seq
 apply wpS_region
 simp [wpOpsS, go_sem, recoverD, hu, Tryz.ntmps152, Exit.thenS]
 refine wpS_cond (t := false) (by simp [Act.eval, Array.replicate]) ?_
 simp only [Bool.false_eq_true, if_false]
 refine wpS_of_wp (wp_skip ?_)
 cases c₀
 simp_all [bodyPostS, results, Tryz.results152]

theorem count_ok {w : World} {A B n : Nat} {cache : Value} {calls writes : Int} (h : DiskAt w A B n cache calls writes) :
  Calls Tryz.prog 109 #[.iface 31 (.pointer (some ⟨A, 0, none⟩))] w fun e w' => e = .returned (.int .i64 n) ∧ Fr (fun _ => False) w w' := by
 have hmf : ∀ (fn : Fn) (first cap : Array Value) (w : World), (Instr.makeFunc fn first cap).run Tryz.prog w = .ok (.func fn first cap) w := fun _ _ _ _ => rfl
 have mb := method_Blocks
 go_enter_defers Tryz.func109, Tryz.ntmps109
 go_wp2_with fail
 refine (dBlocks_ok (h.alloc _)).mono ?_
 rintro e w2 ⟨rfl, rfl⟩
 go_wp2
 refine leaves_cons (f := 152) (args := #[.pointer (some ⟨w.heap.size, 0, none⟩)]) (by simp) (by simp [go_sem]) ?_
 refine (count1_idle ⟨w.heap.size, 0, none⟩ _).mono ?_
 rintro e u' w'' ⟨rfl, rfl, rfl⟩
 simp [Leaves, settle, results, Tryz.results109, go_sem]
 exact (Fr.refl _ _).alloc _

theorem Try1_idle (p : Addr) (w : World) :
  CallsD Tryz.prog 139 #[.pointer (some p)] .returning w fun e u' w' => e = .returned (.tuple #[]) ∧ u' = .returning ∧ w' = w := by
 refine callsD_of_wpS Tryz.func139 rfl fun c₀ cs hu => ?_
 apply wpS_seq
 apply wpS_region
 simp [wpOpsS, go_sem, recoverD, hu, Tryz.ntmps139, Exit.thenS]
 apply wpS_seq
 apply wpS_region
 simp [wpOpsS, go_sem, Exit.thenS]
 refine wpS_cond (t := false) (by simp [Act.eval, Array.replicate]) ?_
 simp only [Bool.false_eq_true, if_false]
 refine wpS_of_wp (wp_skip ?_)
 cases c₀
 simp_all [bodyPostS, results, Tryz.results139]

def zB : List Value := List.replicate 128 (.int .u8 0)
theorem zB_len : zB.length = 128 := by simp [zB]
theorem zB_one : ∀ v ∈ zB, v.oneCell' = true := by intro v hv; simp only [zB, List.mem_replicate] at hv; rw [hv.2]; rfl
theorem build_zB (w : World) : (Instr.build 130 #[]).run Tryz.prog w = .ok (.agg zB.toArray) w := by kernel_rfl
def wipes (m : Nat) : List (Nat × List Value) := (List.range m).map (fun j => (j + 1, zB))
theorem wipes_succ (m : Nat) : wipes (m + 1) = wipes m ++ [(m + 1, zB)] := by simp [wipes, List.range_succ]
theorem flat_append (a b : List (Nat × List Value)) : flat (a ++ b) = flat a ++ flat b := by simp [flat]
theorem flat_one (p : Nat × List Value) : flat [p] = Value.int .i64 p.1 :: p.2 := by simp [flat]
theorem mem_wipes {m : Nat} {p : Nat × List Value} (h : p ∈ wipes m) : 1 ≤ p.1 ∧ p.1 ≤ m ∧ p.2 = zB := by
 simp only [wipes, List.mem_map, List.mem_range] at h
 obtain ⟨j, hj, rfl⟩ := h
 exact ⟨by simp, by simp; omega, rfl⟩
end Go.Proofs.YteebjgfalllbjaaGreatDoor
