import Derived.Test.YthnmpgnaahkgkaaGreatDoorStore
namespace Go.Proofs.YthnmpgnaahkgkaaGreatDoor
open Go.RowKit

def markS : ByteArray := ⟨#[115, 97, 103, 97, 115, 58, 32, 97, 32, 106, 111, 117, 114, 110, 97, 108, 44, 32, 102, 111, 114, 109, 32, 49]⟩
def markB : List Value := markS.toList.map (fun x => Value.int .u8 x.toNat)
/-- The head of a journal on n blocks. -/
def headB (n : Nat) : List Value := [.int .u8 1, .int .u8 ((n : Int) / 256), .int .u8 ((n : Int) % 256)] ++ (markB ++ List.replicate 101 (Value.int .u8 0))
def headA (n : Nat) : List Value := [.int .u8 1, .int .u8 ((n : Int) / 256), .int .u8 ((n : Int) % 256)] ++ List.replicate 125 (Value.int .u8 0)
theorem markB_len : markB.length = 24 := by kernel_rfl
theorem headB_len (n : Nat) : (headB n).length = 128 := by simp [headB, markB_len]
theorem headB_one (n : Nat) : ∀ v ∈ headB n, v.oneCell' = true := by
  intro v hv
  simp only [headB, markB, List.mem_append, List.mem_cons, List.not_mem_nil, or_false, List.mem_map, List.mem_replicate] at hv
  rcases hv with (rfl | rfl | rfl) | ⟨_, _, rfl⟩ | ⟨_, rfl⟩ <;> rfl
theorem alloc_block (w : World) : (Instr.alloc 153 true (.tuple #[])).run Tryz.prog w = .ok (.pointer (some ⟨w.heap.size, 0, none⟩)) (w.alloc (.cells z128 153)) := by kernel_rfl
theorem block_size : (Tryz.prog.info? 153).map (·.size) = some 128 := by kernel_rfl
theorem build_block (w : World) : (Instr.build 153 #[]).run Tryz.prog w = .ok (.agg z128) w := by kernel_rfl
def cur1 : Array Value := z128.setIfInBounds 0 (.int .u8 1)
theorem new1 (x y : Value) : cur1.toList.take 1 ++ ([x, y] ++ cur1.toList.drop (1 + [x, y].length)) = [.int .u8 1, x, y] ++ List.replicate 125 (Value.int .u8 0) := by kernel_rfl
theorem new2 (n : Nat) : (headA n).toArray.toList.take 3 ++ markB ++ (headA n).toArray.toList.drop (3 + markB.length) = headB n := by kernel_rfl

/-- copy of the mark, a text, into a row that is known whole. -/
theorem run_copy_mark (w : World) (g n : Nat) (hg : w.heap[g]? = some (.cells (headA n).toArray 153 (0, 0))) :
    (Builtin.copy_ #[66, 9] 3 #[.slice (some ⟨g, 3, none⟩) 24 24, .string markS]).run Tryz.prog w = .ok (.int .i64 24) (w.setRow g (headB n).toArray) := by
  have hst := run_storeCells_at Tryz.prog g 3 153 markB 0 (headA n).toArray w hg (by rw [markB_len]; simp [headA]) (fun v hv => by simp only [markB, List.mem_map] at hv; obtain ⟨_, _, rfl⟩ := hv; rfl)
  have hc : (Builtin.firstCells 1 24 (.string markS)).run Tryz.prog w = .ok markB.toArray w := by kernel_rfl
  have hlen : (Builtin.lenOf (.string markS)).run Tryz.prog w = .ok 24 w := by kernel_rfl
  have hsz : (sizeOf 5).run Tryz.prog w = .ok 1 w := by kernel_rfl
  have hm : Nat.min 24 24 = 24 := rfl
  simp only [Nat.add_zero] at hst
  rw [new2] at hst
  simp only [Builtin.copy_, List.getElem?_toArray, List.getElem?_cons_zero, List.getElem?_cons_succ, Sem.run_bind, run_underlying Tryz.underlying66, Result.andThen_ok, hlen, hsz, hm, hc, hst, Sem.run_pure]
  rfl

theorem wpList_copy_mark {ops : Array Oper} {rest : List Oper} {op : Oper} {a : Act} {w : World} {Q : Exit → Act → World → Prop} (hgd : op.guard = none) (d : Operand) (ho : op.op = .call { callee := .builtin .copy, args := #[d, .const (.string markS)], argTypes := #[66, 9] }) (ht : op.type = 3)
    (g n : Nat) (hg : w.heap[g]? = some (.cells (headA n).toArray 153 (0, 0))) (hd : a.eval d = .slice (some ⟨g, 3, none⟩) 24 24)
    (h : ∀ w2, Hid (w2 = w.setRow g (headB n).toArray) → wpList Tryz.prog ops Q rest (a.put op.dst (.int .i64 24)) w2) : wpList Tryz.prog ops Q (op :: rest) a w :=
  wpList_plain hgd fun _ hK => by
    have hr := run_copy_mark w g n hg
    have hc : a.eval (.const (.string markS)) = .string markS := rfl
    unfold Oper.wp execOp
    simp only [ho, ht, resolve, invoke, builtin, Sem.run_bind, Sem.run_pure, Result.andThen_ok, List.map_toArray, List.map_cons, List.map_nil, hd, hc, hr]
    exact hK _ _ (h _ rfl)

set_option maxRecDepth 100000 in
set_option maxHeartbeats 1000000 in
theorem Head_ok (w : World) (n : Nat) (hn : n ≤ 400) :
    Calls Tryz.prog 82 #[.int .i64 n] w fun e w' => e = .returned (.agg (headB n).toArray) ∧ Fr (fun _ => False) w w' := by
  have hz0 : z128[0]? = some (.int .u8 0) := by kernel_rfl
  go_enter Tryz.func82, Tryz.ntmps82
  go_wp2_with (first
    | (refine wpList_alloc 153 (v := .pointer (some ⟨w.heap.size, 0, none⟩)) (w' := w.alloc (.cells z128 153)) rfl rfl ?_ ?_; exact alloc_block w)
    | (refine wpList_alloc 153 (v := .pointer (some ⟨(w.alloc (.cells z128 153)).heap.size, 0, none⟩)) (w' := (w.alloc (.cells z128 153)).alloc (.cells z128 153)) rfl rfl ?_ ?_; exact alloc_block _))
  refine (Part1_ok _ _).mono ?_
  rintro e w' ⟨rfl, rfl⟩
  obtain ⟨N, HN⟩ : ∃ N, Hid (N = w.heap.size) := ⟨_, rfl⟩
  have hW1 : ∀ o : Obj, (((w.alloc (.cells z128 153)).alloc (.cells cur1 153)).alloc o).heap[w.heap.size + 1]? = some (.cells cur1 153 (0, 0)) := fun o => by
    rw [heap_alloc_lt _ _ _ (by simp)]; exact heap_alloc2_new w _ _
  have hW2 : ∀ o : Obj, (((w.alloc (.cells z128 153)).alloc (.cells cur1 153)).alloc o).heap[w.heap.size + 1 + 1]? = some o := fun o => by
    have := heap_alloc_at ((w.alloc (.cells z128 153)).alloc (.cells cur1 153)) o
    simpa using this
  have hW3 : ∀ (o : Obj), (((w.alloc (.cells z128 153)).alloc (.cells cur1 153)).alloc o).heap[w.heap.size]? = some (.cells z128 153 (0, 0)) := fun o => by
    rw [heap_alloc_lt _ _ _ (by simp; omega), heap_alloc_lt _ _ _ (by simp)]; exact heap_alloc_at _ _
  have hF3 : ∀ (o : Obj), Fr (fun _ => False) w (((w.alloc (.cells z128 153)).alloc (.cells cur1 153)).alloc o) := fun o => (((Fr.refl _ _).alloc _).alloc _).alloc _
  have hcur : z128.setIfInBounds 0 (.int .u8 1) = cur1 := rfl
  go_wp2_with (first | (refine wpList_copy_to rfl (.tmp 5) (.tmp 11) 66 66 rfl 5 Tryz.underlying66 u8size (w.heap.size + 1) 1 2 2 ⟨w.heap.size + 1 + 1, 0, none⟩ 2 2 rfl rfl cur1 153 (hW1 _) [.int .u8 ((n : Int) / 256), .int .u8 ((n : Int) % 256)] rfl ?_ ?_ ?_ (headA n) (new1 _ _) ?_; exact World.news_of_block (hW2 _); (simp [cur1, z128_size]); (simp [Value.oneCell']); intro w2 HW2))
  have hN1 : w2.heap[w.heap.size + 1]? = some (.cells (headA n).toArray 153 (0, 0)) := by rw [HW2.out]; exact setRow_heap _ _ _ _ _ _ (hW1 _)
  have hN0 : w2.heap[w.heap.size]? = some (.cells z128 153 (0, 0)) := by rw [HW2.out, setRow_other _ _ _ _ (by omega)]; exact hW3 _
  have hF2 : Fr (fun _ => False) w w2 := by rw [HW2.out]; exact (hF3 _).setRow _ (fun h => by omega) _
  clear HW2 hW1 hW2 hW3 hF3
  refine (Part3_ok _ _).mono ?_
  rintro e w' ⟨rfl, rfl⟩
  go_wp2_with (first
    | (refine wpList_copy_mark rfl (.tmp 13) rfl rfl (w.heap.size + 1) n hN1 rfl ?_; intro w3 HW3; have hM1 : w3.rangeAt (w.heap.size + 1) 0 (headB n) := by (rw [HW3.out]; intro j v hv; rw [cell_setRow_same _ _ _ _ _ _ _ hN1]; simpa using hv))
    | (refine wpList_load_mid rfl 153 (.tmp 3) rfl (w.heap.size + 1) 0 ?_ (headB n) _ hM1 Tryz.underlying153 rfl ?_ ?_; rfl; (rw [block_size, headB_len]))
    | (refine wpList_store 153 (w' := w3.setRow w.heap.size (headB n).toArray) (.tmp 2) (.tmp 15) rfl rfl ?_ ?_; (have hM0 : w3.heap[w.heap.size]? = some (.cells z128.toList.toArray 153 (0, 0)) := by (rw [HW3.out, setRow_other _ _ _ _ (by omega)]; simpa using hN0)); (have := run_storeAt_row (P := Tryz.prog) (o := 0) (ty := 153) (vs := headB n) hM0 (by simp [headB_len, z128_size]) (headB_one n) (by rw [block_size, headB_len])); (rw [show splice z128.toList 0 (headB n) = headB n from by simp [splice, headB_len, z128_size]] at this); exact this))
  simp only [Act.put, List.setIfInBounds_toArray, List.set_cons_zero, List.set_cons_succ]
  have hM0 : w3.heap[w.heap.size]? = some (.cells z128 153 (0, 0)) := by rw [HW3.out, setRow_other _ _ _ _ (by omega)]; exact hN0
  have hE := setRow_heap w3 w.heap.size z128 (headB n).toArray 153 (0, 0) hM0
  refine bodyPost_ret (v := .agg (headB n).toArray) (results_cell_row Tryz.results82 _ _ w.heap.size 153 _ (0, 0) _ rfl hE Tryz.underlying153 rfl (by rw [block_size]; simp [headB_len])) rfl ⟨rfl, ?_⟩
  have hF3 : Fr (fun _ => False) w w3 := by rw [HW3.out]; exact hF2.setRow _ (fun h => by omega) _
  exact hF3.setRow _ (fun h => by omega) _
end Go.Proofs.YthnmpgnaahkgkaaGreatDoor
