import Derived.Test.YteebjgfalllbjaaGreatDoorCIxFlushWVol
namespace Go.Proofs.YteebjgfalllbjaaGreatDoor
open Go.RowKit
theorem box_block (cs : List Value) (w : World) : (Instr.box 130 (.agg cs.toArray)).run Tryz.prog w = .ok (.pointer (some ⟨w.heap.size, 0, none⟩)) (w.alloc (.cells cs.toArray 130)) := rfl

set_option maxRecDepth 100000 in
set_option maxHeartbeats 1000000 in
theorem Store_ok {w : World} {V A B n : Nat} {cache : Value} {calls writes : Int} (hv : VolAt w V A n) (h : DiskAt w A B n cache calls writes) (h0 : 0 ≤ calls) (h1 : calls < 1000000000) (h2 : 0 ≤ writes) (h3 : writes < 1000000000)
    {base k : Nat} {xs : List Value} (hown : w.ownsRow base 101 129 cache k xs) (hk : k < 1000000) (hbase : base ≤ w.heap.size)
    (i : Nat) (hi : i < n) (data : List Value) (hl : data.length = 128) (hone : ∀ v ∈ data, v.oneCell' = true) :
    Calls Tryz.prog 94 #[.pointer (some ⟨V, 0, none⟩), .int .i64 i, .agg data.toArray] w fun e w' => e = .returned (.tuple #[]) ∧
      ∃ cache', DiskAt w' A B n cache' (calls + 1) (writes + 1) ∧ w'.ownsRow base 101 129 cache' (k + 1) (xs ++ (.int .i64 i :: data)) ∧ Fr (fun b => b = A ∨ cache.ownBlock = some b) w w' := by
  have hVA := hv.ne h
  have hVc : cache.ownBlock ≠ some V := by
    intro e
    rcases hown.2 with ⟨rfl, _⟩ | ⟨g, cap, cur, rfl, hb, hg, _⟩
    · simp [Value.ownBlock] at e
    · simp only [Value.ownBlock, Option.some.injEq] at e
      subst e
      have := hv.symm.trans hg
      simp at this
  have hVl := lt_of_heap hv
  have hAl := h.lt
  go_enter Tryz.func94, Tryz.ntmps94
  go_wp2_with (refine wpList_box 130 (.tmp 2) (v := .pointer (some ⟨w.heap.size, 0, none⟩)) (w' := w.alloc (.cells data.toArray 130)) rfl rfl ?_ ?_; exact box_block data w)
  try go_simp
  have hlift : Tryz.prog.follows .mixedOrders = true := by kernel_rfl
  obtain ⟨W, HW⟩ : ∃ W, Hid (W = (w.alloc (.cells data.toArray 130)).drew) := ⟨_, rfl⟩
  obtain ⟨G, HG⟩ : ∃ G, Hid (G = w.heap.size) := ⟨_, rfl⟩
  have hGA : G ≠ A := by have := HG.out; omega
  have hGW : W.heap[G]? = some (.cells data.toArray 130 (0, 0)) := by rw [HW.out, HG.out]; exact heap_alloc_at _ _
  have hdW : DiskAt W A B n cache calls writes := by rw [HW.out]; exact (h.alloc _).drew
  have hvW : VolAt W V A n := by rw [HW.out]; unfold VolAt; rw [heap_drew', heap_alloc_lt _ _ _ hVl]; exact hv
  have hoW : W.ownsRow base 101 129 cache k xs := by rw [HW.out]; exact hown.alloc _
  have hfW : Fr (fun b => b = A ∨ cache.ownBlock = some b) w W := by rw [HW.out]; exact ((Fr.refl _ _).alloc _).drew
  have hbW : base ≤ W.heap.size := Nat.le_trans hbase hfW.size
  rw [← HG.out]
  let S : World → Prop := fun w' => w'.cell? ⟨V, 0, none⟩ = some (.iface 31 (.pointer (some ⟨A, 0, none⟩)))
  have hS : S W := hvW.c0
  refine wp_region_held (S := S) hlift ?_
  change wpAnyH _ _ _ _ S _ _ _ (World.drew _)
  rw [← HW.out]
  refine tkE (S := S) (i := 0) (oi := ⟨some 6, .move (.tmp 0), _, _, _, none⟩) (v := .pointer (some ⟨V, 0, none⟩)) rfl hS ?_
  simp only [Act.put, lsE, lsZ, lsS]
  refine tkE (S := S) (i := 1) (oi := ⟨some 7, .nilCheck (.tmp 6), _, _, _, none⟩) (v := .pointer (some ⟨V, 0, none⟩)) rfl hS ?_
  simp only [Act.put, lsE, lsZ, lsS]
  refine tkE (S := S) (i := 2) (oi := ⟨some 8, .fieldAddr 212 (.tmp 7) 0, _, _, _, none⟩) (v := .pointer (some ⟨V, 0, none⟩)) rfl hS ?_
  simp only [Act.put, lsE, lsZ, lsS]
  refine tkY (S := S) (i := 3) (oi := ⟨some 9, .load 154 (.tmp 8), _, _, _, none⟩) (v := .iface 31 (.pointer (some ⟨A, 0, none⟩))) rfl (Or.inl ⟨rfl, fun w' hs => exec_load 154 (.tmp 8) rfl ⟨V, 0, none⟩ rfl (run_loadAt_one hs Tryz.underlying154 rfl)⟩) hS ?_
  simp only [Act.put, lsE, lsZ, lsS]
  refine tkE (S := S) (i := 4) (oi := ⟨some 10, .move (.tmp 1), _, _, _, none⟩) (v := .int .i64 i) rfl hS ?_
  simp only [Act.put, lsE, lsZ, lsS]
  refine tkE (S := S) (i := 6) (oi := ⟨some 12, .nilCheck (.tmp 9), _, _, _, none⟩) (v := .iface 31 (.pointer (some ⟨A, 0, none⟩))) rfl hS ?_
  simp only [Act.put, lsE, lsZ, lsS]
  refine tkE (S := S) (i := 7) (oi := ⟨some 13, .move (.tmp 9), _, _, _, none⟩) (v := .iface 31 (.pointer (some ⟨A, 0, none⟩))) rfl hS ?_
  simp only [Act.put, lsE, lsZ, lsS]
  refine wpAnyH_all (rs := [5]) (by kernel_rfl) (by simp) ?_
  intro i5 hi5
  obtain rfl : i5 = 5 := by simpa using hi5
  refine wpOp_call (o := ⟨some 11, .call { callee := .value (.func 141), args := #[.tmp 5, .const (.int .i64 0), .const (.int .i64 128)], argTypes := _ }, _, _, _, none⟩) (f := 141) (args := #[.pointer (some ⟨G, 0, none⟩), .int .i64 0, .int .i64 128]) rfl rfl (by kernel_rfl) ?_
  refine (Part0_ok W G).mono ?_
  rintro e w' ⟨rfl, rfl⟩
  refine ⟨_, rfl, hS, ?_⟩
  simp only [Act.put, lsE, lsZ, lsS]
  refine wpAnyH_all (rs := [8]) (by kernel_rfl) (by simp) ?_
  intro i8 hi8
  obtain rfl : i8 = 8 := by simpa using hi8
  refine wpOp_call (o := ⟨some 14, .call { callee := .invoke (.tmp 13) _, args := #[.tmp 10, .tmp 11], argTypes := _ }, _, _, _, none⟩) (f := 207) (args := #[.pointer (some ⟨A, 0, none⟩), .int .i64 i, .slice (some ⟨G, 0, none⟩) 128 128]) rfl rfl (by kernel_rfl) ?_
  refine (Write_ok hdW h0 h1 h2 h3 hoW hk hbW i hi G 130 data hGW hl hone hGA).mono ?_
  rintro e w2 ⟨rfl, cache', hd2, ho2, hf2⟩
  have hS2 : S w2 := hf2.cell (p := ⟨V, 0, none⟩) hvW.c0 (by rintro (e | e); exact hVA e; exact hVc e)
  refine ⟨_, rfl, hS2, ?_⟩
  simp only [Act.put, lsE, lsZ, lsS]
  refine tkE (S := S) (i := 9) (oi := ⟨some 15, .binOp .neq 36 (.tmp 14) (.const .nilIface) 36, _, _, _, none⟩) (v := .bool false) rfl hS2 ?_
  simp only [Act.put, lsE, lsZ, lsS]
  refine wpAnyH_done (by kernel_rfl) ?_ _
  go_wp2
  go_end0
  exact ⟨rfl, cache', hd2, ho2, hfW.trans hf2 (fun _ _ h => h)⟩
end Go.Proofs.YteebjgfalllbjaaGreatDoor
namespace Go.Proofs.YteebjgfalllbjaaGreatDoor
open Go.RowKit

def markS : ByteArray := ⟨#[115, 97, 103, 97, 115, 58, 32, 97, 32, 106, 111, 117, 114, 110, 97, 108, 44, 32, 102, 111, 114, 109, 32, 49]⟩
def markB : List Value := markS.toList.map (fun x => Value.int .u8 x.toNat)
/-- The head of a journal on n blocks. -/
def headB (n : Nat) : List Value := [.int .u8 1, .int .u8 ((n : Int) / 256), .int .u8 ((n : Int) % 256)] ++ (markB ++ List.replicate 101 (Value.int .u8 0))
def headA (n : Nat) : List Value := [.int .u8 1, .int .u8 ((n : Int) / 256), .int .u8 ((n : Int) % 256)] ++ List.replicate 125 (Value.int .u8 0)
theorem markB_len : markB.length = 24 := by kernel_rfl
theorem headB_len (n : Nat) : (headB n).length = 128 := by simp [headB, markB_len]
theorem headB_one (n : Nat) : ∀ v ∈ headB n, v.oneCell' = true := by
  intro v hv
  simp only [headB, markB, List.mem_append, List.mem_cons, List.not_mem_nil, or_false, List.mem_map, List.mem_replicate] at hv
  rcases hv with (rfl | rfl | rfl) | ⟨_, _, rfl⟩ | ⟨_, rfl⟩ <;> rfl
theorem alloc_block (w : World) : (Instr.alloc 130 true (.tuple #[])).run Tryz.prog w = .ok (.pointer (some ⟨w.heap.size, 0, none⟩)) (w.alloc (.cells z128 130)) := by kernel_rfl
theorem block_size : (Tryz.prog.info? 130).map (·.size) = some 128 := by kernel_rfl
def cur1 : Array Value := z128.setIfInBounds 0 (.int .u8 1)
theorem new1 (x y : Value) : cur1.toList.take 1 ++ ([x, y] ++ cur1.toList.drop (1 + [x, y].length)) = [.int .u8 1, x, y] ++ List.replicate 125 (Value.int .u8 0) := by kernel_rfl
theorem new2 (n : Nat) : (headA n).toArray.toList.take 3 ++ markB ++ (headA n).toArray.toList.drop (3 + markB.length) = headB n := by kernel_rfl

/-- copy of the mark, a text, into a row that is known whole. -/
theorem run_copy_mark (w : World) (g n : Nat) (hg : w.heap[g]? = some (.cells (headA n).toArray 130 (0, 0))) :
    (Builtin.copy_ #[85, 9] 3 #[.slice (some ⟨g, 3, none⟩) 24 24, .string markS]).run Tryz.prog w = .ok (.int .i64 24) (w.setRow g (headB n).toArray) := by
  have hst := run_storeCells_at Tryz.prog g 3 130 markB 0 (headA n).toArray w hg (by rw [markB_len]; simp [headA]) (fun v hv => by simp only [markB, List.mem_map] at hv; obtain ⟨_, _, rfl⟩ := hv; rfl)
  have hc : (Builtin.firstCells 1 24 (.string markS)).run Tryz.prog w = .ok markB.toArray w := by kernel_rfl
  have hlen : (Builtin.lenOf (.string markS)).run Tryz.prog w = .ok 24 w := by kernel_rfl
  have hsz : (sizeOf 5).run Tryz.prog w = .ok 1 w := by kernel_rfl
  have hm : Nat.min 24 24 = 24 := rfl
  simp only [Nat.add_zero] at hst
  rw [new2] at hst
  simp only [Builtin.copy_, List.getElem?_toArray, List.getElem?_cons_zero, List.getElem?_cons_succ, Sem.run_bind, run_underlying Tryz.underlying85, Result.andThen_ok, hlen, hsz, hm, hc, hst, Sem.run_pure]
  rfl

theorem wpList_copy_mark {ops : Array Oper} {rest : List Oper} {op : Oper} {a : Act} {w : World} {Q : Exit → Act → World → Prop} (hgd : op.guard = none) (d : Operand) (ho : op.op = .call { callee := .builtin .copy, args := #[d, .const (.string markS)], argTypes := #[85, 9] }) (ht : op.type = 3)
    (g n : Nat) (hg : w.heap[g]? = some (.cells (headA n).toArray 130 (0, 0))) (hd : a.eval d = .slice (some ⟨g, 3, none⟩) 24 24)
    (h : ∀ w2, Hid (w2 = w.setRow g (headB n).toArray) → wpList Tryz.prog ops Q rest (a.put op.dst (.int .i64 24)) w2) : wpList Tryz.prog ops Q (op :: rest) a w :=
  wpList_plain hgd fun _ hK => by
    have hr := run_copy_mark w g n hg
    have hc : a.eval (.const (.string markS)) = .string markS := rfl
    unfold Oper.wp execOp
    simp only [ho, ht, resolve, invoke, builtin, Sem.run_bind, Sem.run_pure, Result.andThen_ok, List.map_toArray, List.map_cons, List.map_nil, hd, hc, hr]
    exact hK _ _ (h _ rfl)

set_option maxRecDepth 100000 in
set_option maxHeartbeats 1000000 in
theorem Head_ok (w : World) (n : Nat) (hn : n ≤ 400) :
    Calls Tryz.prog 113 #[.int .i64 n] w fun e w' => e = .returned (.agg (headB n).toArray) ∧ Fr (fun _ => False) w w' := by
  have hz0 : z128[0]? = some (.int .u8 0) := by kernel_rfl
  go_enter Tryz.func113, Tryz.ntmps113
  go_wp2_with (first
    | (refine wpList_alloc 130 (v := .pointer (some ⟨w.heap.size, 0, none⟩)) (w' := w.alloc (.cells z128 130)) rfl rfl ?_ ?_; exact alloc_block w)
    | (refine wpList_alloc 130 (v := .pointer (some ⟨(w.alloc (.cells z128 130)).heap.size, 0, none⟩)) (w' := (w.alloc (.cells z128 130)).alloc (.cells z128 130)) rfl rfl ?_ ?_; exact alloc_block _))
  refine (Part1_ok _ _).mono ?_
  rintro e w' ⟨rfl, rfl⟩
  obtain ⟨N, HN⟩ : ∃ N, Hid (N = w.heap.size) := ⟨_, rfl⟩
  have hW1 : ∀ o : Obj, (((w.alloc (.cells z128 130)).alloc (.cells cur1 130)).alloc o).heap[w.heap.size + 1]? = some (.cells cur1 130 (0, 0)) := fun o => by
    rw [heap_alloc_lt _ _ _ (by simp)]; exact heap_alloc2_new w _ _
  have hW2 : ∀ o : Obj, (((w.alloc (.cells z128 130)).alloc (.cells cur1 130)).alloc o).heap[w.heap.size + 1 + 1]? = some o := fun o => by
    have := heap_alloc_at ((w.alloc (.cells z128 130)).alloc (.cells cur1 130)) o
    simpa using this
  have hW3 : ∀ (o : Obj), (((w.alloc (.cells z128 130)).alloc (.cells cur1 130)).alloc o).heap[w.heap.size]? = some (.cells z128 130 (0, 0)) := fun o => by
    rw [heap_alloc_lt _ _ _ (by simp; omega), heap_alloc_lt _ _ _ (by simp)]; exact heap_alloc_at _ _
  have hF3 : ∀ (o : Obj), Fr (fun _ => False) w (((w.alloc (.cells z128 130)).alloc (.cells cur1 130)).alloc o) := fun o => (((Fr.refl _ _).alloc _).alloc _).alloc _
  have hcur : z128.setIfInBounds 0 (.int .u8 1) = cur1 := rfl
  go_wp2_with (first | (refine wpList_copy_to rfl (.tmp 5) (.tmp 11) 85 85 rfl 5 Tryz.underlying85 u8size (w.heap.size + 1) 1 2 2 ⟨w.heap.size + 1 + 1, 0, none⟩ 2 2 rfl rfl cur1 130 (hW1 _) [.int .u8 ((n : Int) / 256), .int .u8 ((n : Int) % 256)] rfl ?_ ?_ ?_ (headA n) (new1 _ _) ?_; exact World.news_of_block (hW2 _); (simp [cur1, z128_size]); (simp [Value.oneCell']); intro w2 HW2))
  have hN1 : w2.heap[w.heap.size + 1]? = some (.cells (headA n).toArray 130 (0, 0)) := by rw [HW2.out]; exact setRow_heap _ _ _ _ _ _ (hW1 _)
  have hN0 : w2.heap[w.heap.size]? = some (.cells z128 130 (0, 0)) := by rw [HW2.out, setRow_other _ _ _ _ (by omega)]; exact hW3 _
  have hF2 : Fr (fun _ => False) w w2 := by rw [HW2.out]; exact (hF3 _).setRow _ (fun h => by omega) _
  clear HW2 hW1 hW2 hW3 hF3
  refine (Part3_ok _ _).mono ?_
  rintro e w' ⟨rfl, rfl⟩
  go_wp2_with (first
    | (refine wpList_copy_mark rfl (.tmp 13) rfl rfl (w.heap.size + 1) n hN1 rfl ?_; intro w3 HW3; have hM1 : w3.rangeAt (w.heap.size + 1) 0 (headB n) := by (rw [HW3.out]; intro j v hv; rw [cell_setRow_same _ _ _ _ _ _ _ hN1]; simpa using hv))
    | (refine wpList_load_mid rfl 130 (.tmp 3) rfl (w.heap.size + 1) 0 ?_ (headB n) _ hM1 Tryz.underlying130 rfl ?_ ?_; rfl; (rw [block_size, headB_len]))
    | (refine wpList_store 130 (w' := w3.setRow w.heap.size (headB n).toArray) (.tmp 2) (.tmp 15) rfl rfl ?_ ?_; (have hM0 : w3.heap[w.heap.size]? = some (.cells z128.toList.toArray 130 (0, 0)) := by (rw [HW3.out, setRow_other _ _ _ _ (by omega)]; simpa using hN0)); (have := run_storeAt_row (P := Tryz.prog) (o := 0) (ty := 130) (vs := headB n) hM0 (by simp [headB_len, z128_size]) (headB_one n) (by rw [block_size, headB_len])); (rw [show splice z128.toList 0 (headB n) = headB n from by simp [splice, headB_len, z128_size]] at this); exact this))
  simp only [Act.put, lsE, lsZ, lsS]
  have hM0 : w3.heap[w.heap.size]? = some (.cells z128 130 (0, 0)) := by rw [HW3.out, setRow_other _ _ _ _ (by omega)]; exact hN0
  have hE := setRow_heap w3 w.heap.size z128 (headB n).toArray 130 (0, 0) hM0
  refine bodyPost_ret (v := .agg (headB n).toArray) (results_cell_row Tryz.results113 _ _ w.heap.size 130 _ (0, 0) _ rfl hE Tryz.underlying130 rfl (by rw [block_size]; simp [headB_len])) rfl ⟨rfl, ?_⟩
  have hF3 : Fr (fun _ => False) w w3 := by rw [HW3.out]; exact hF2.setRow _ (fun h => by omega) _
  exact hF3.setRow _ (fun h => by omega) _
end Go.Proofs.YteebjgfalllbjaaGreatDoor
namespace Go.Proofs.YteebjgfalllbjaaGreatDoor
open Go.RowKit
theorem method_Flush (a : Addr) (w : World) : (method 410 31 (.pointer (some a)) "Flush").run Tryz.prog w = .ok (205, .pointer (some a)) w := by kernel_rfl
theorem method_Read (a : Addr) (w : World) : (method 410 31 (.pointer (some a)) "Read").run Tryz.prog w = .ok (206, .pointer (some a)) w := by kernel_rfl
theorem method_Blocks (a : Addr) (w : World) : (method 410 31 (.pointer (some a)) "Blocks").run Tryz.prog w = .ok (204, .pointer (some a)) w := by kernel_rfl
set_option maxRecDepth 100000 in
set_option maxHeartbeats 1000000 in
theorem Secure_ok {w : World} {V A B n : Nat} {cache : Value} {calls writes : Int} {bs : List Value} (hv : VolAt w V A n) (h : DiskAt w A B n cache calls writes) (hr : RowsAt w B n bs) (h0 : 0 ≤ calls) (h1 : calls < 1000000000)
    {base k : Nat} {ents : List (Nat × List Value)} (hown : w.ownsRow base 101 129 cache k (flat ents)) (hk : k < 1000000) (hk0 : 0 < k) (hl : ∀ p ∈ ents, p.2.length = 128) (ho : ∀ p ∈ ents, ∀ v ∈ p.2, v.oneCell' = true) (hn : ∀ p ∈ ents, p.1 < n) :
    Calls Tryz.prog 95 #[.pointer (some ⟨V, 0, none⟩)] w fun e w' => e = .returned (.tuple #[]) ∧
      DiskAt w' A B n (.slice none 0 0) (calls + 1) writes ∧ RowsAt w' B n (lain bs ents) ∧ Fr (fun b => b = A ∨ b = B) w w' := by
  have c0 := hv.c0
  have mf := method_Flush
  go_enter Tryz.func95, Tryz.ntmps95
  go_wp2_with fail
  refine (Flush_ok h hr h0 h1 hown hk hk0 hl ho hn).mono ?_
  rintro e w2 ⟨rfl, hd2, hr2, hf2⟩
  go_wp2
  go_end0
  exact ⟨rfl, hd2, hr2, hf2⟩

set_option maxRecDepth 100000 in
set_option maxHeartbeats 1000000 in
theorem Load_ok {w : World} {V A B n : Nat} {calls writes : Int} {bs : List Value} (hv : VolAt w V A n) (h : DiskAt w A B n (.slice none 0 0) calls writes) (hr : RowsAt w B n bs) (h0 : 0 ≤ calls) (h1 : calls < 1000000000) (i : Nat) (hi : i < n) :
    Calls Tryz.prog 112 #[.pointer (some ⟨V, 0, none⟩), .int .i64 i] w fun e w' => e = .returned (.agg ((bs.drop (i * 128)).take 128).toArray) ∧ DiskAt w' A B n (.slice none 0 0) (calls + 1) writes ∧ Fr (· = A) w w' := by
  have hcl : ((bs.drop (i * 128)).take 128).length = 128 := by have := hr.2.1; simp; omega
  have hone' : ∀ v ∈ (bs.drop (i * 128)).take 128, v.oneCell' = true := fun v hv => hr.2.2 v (List.mem_of_mem_drop (List.mem_of_mem_take hv))
  have hAl := h.lt
  have hVl := lt_of_heap hv
  have mr := method_Read
  have hv1 : VolAt (w.alloc (.cells z128 130)) V A n := by unfold VolAt; rw [heap_alloc_lt _ _ _ hVl]; exact hv
  have hr1 : RowsAt (w.alloc (.cells z128 130)) B n bs := ⟨by rw [heap_alloc_lt _ _ _ (lt_of_heap hr.1)]; exact hr.1, hr.2⟩
  have c0 := hv1.c0
  go_enter Tryz.func112, Tryz.ntmps112
  go_wp2_with (first
    | (refine wpList_alloc 130 (v := .pointer (some ⟨w.heap.size, 0, none⟩)) (w' := w.alloc (.cells z128 130)) rfl rfl ?_ ?_; exact alloc_block w))
  refine (Read_ok (h.alloc _) hr1 h0 h1 i hi).mono ?_
  rintro e w2 ⟨rfl, hb2, hd2, hf2⟩
  obtain ⟨cs, HCS⟩ : ∃ cs, Hid (cs = (bs.drop (i * 128)).take 128) := ⟨_, rfl⟩
  rw [← HCS.out] at hcl hone' hb2
  have hN : w2.heap[w.heap.size]? = some (.cells z128 130 (0, 0)) := hf2.keep (heap_alloc_at w _) (by omega)
  have hF : Fr (· = A) w w2 := ((Fr.refl _ _).alloc _).trans hf2 (fun _ _ h => h)
  simp only [World.size_alloc] at hb2
  have hL1 : w.heap.size + 1 < w2.heap.size := lt_of_heap hb2
  obtain ⟨M, HM⟩ : ∃ M, Hid (M = w2.heap.size) := ⟨_, rfl⟩
  go_wp2_with (first
    | (refine wpList_alloc 130 (v := .pointer (some ⟨w2.heap.size, 0, none⟩)) (w' := w2.alloc (.cells z128 130)) rfl rfl ?_ ?_; exact alloc_block w2)
    | (refine wpList_copy_to rfl (.tmp 23) (.tmp 24) 85 85 rfl 5 Tryz.underlying85 u8size w2.heap.size 0 128 128 ⟨w.heap.size + 1, 0, none⟩ 128 128 rfl rfl z128 130 ?_ cs ?_ ?_ ?_ hone' cs ?_ ?_; exact heap_alloc_at _ _; (rw [hcl]; rfl); (exact World.news_of_block (cs := cs.toArray) (t := 5) (fr := (0, 0)) (by rw [heap_alloc_lt _ _ _ hL1]; exact hb2)); (rw [hcl, z128_size]; decide); (rw [hcl, List.drop_of_length_le (l := z128.toList) (by rw [Array.length_toList, z128_size]; decide)]; simp); intro w3 HW3; have hM1 : w3.rangeAt w2.heap.size 0 cs := by (rw [HW3.out]; intro j v hv; rw [cell_setRow_same _ _ _ _ _ _ _ (heap_alloc_at _ _)]; simpa using hv))
    | (refine wpList_load_mid rfl 130 (.tmp 7) rfl w2.heap.size 0 ?_ cs _ hM1 Tryz.underlying130 rfl ?_ ?_; rfl; (rw [block_size, hcl]))
    | (refine wpList_store 130 (w' := w3.setRow w.heap.size cs.toArray) (.tmp 4) (.tmp 26) rfl rfl ?_ ?_; (have hM0 : w3.heap[w.heap.size]? = some (.cells z128.toList.toArray 130 (0, 0)) := by (rw [HW3.out, setRow_other _ _ _ _ (by omega), heap_alloc_lt _ _ _ (by omega)]; simpa using hN)); (have := run_storeAt_row (P := Tryz.prog) (o := 0) (ty := 130) (vs := cs) hM0 (by simp [hcl, z128_size]) hone' (by rw [block_size, hcl])); (rw [show splice z128.toList 0 cs = cs from by simp [splice, hcl, z128_size]] at this); exact this))
  simp only [Act.put, lsE, lsZ, lsS]
  have hM0 : w3.heap[w.heap.size]? = some (.cells z128 130 (0, 0)) := by rw [HW3.out, setRow_other _ _ _ _ (by omega), heap_alloc_lt _ _ _ (by omega)]; exact hN
  have hE := setRow_heap w3 w.heap.size z128 cs.toArray 130 (0, 0) hM0
  have hF3 : Fr (· = A) w w3 := by rw [HW3.out]; exact (hF.alloc _).setRow _ (fun h => by have := hF.size; omega) _
  have hd3 : DiskAt w3 A B n (.slice none 0 0) (calls + 1) writes := by unfold DiskAt; rw [HW3.out, setRow_other _ _ _ _ (by have := hd2.lt; omega)]; exact hd2.alloc _
  refine bodyPost_ret (v := .agg cs.toArray) (results_cell_row Tryz.results112 _ _ w.heap.size 130 _ (0, 0) _ rfl hE Tryz.underlying130 rfl (by rw [block_size]; simp [hcl])) rfl ⟨by rw [HCS.out], ?_, hF3.setRow _ (fun h => by omega) _⟩
  unfold DiskAt; rw [setRow_other _ _ _ _ (by omega)]; exact hd3
end Go.Proofs.YteebjgfalllbjaaGreatDoor
