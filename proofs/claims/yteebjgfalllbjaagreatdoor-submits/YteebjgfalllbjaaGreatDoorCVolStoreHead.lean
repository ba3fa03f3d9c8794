import Derived.Test.YteebjgfalllbjaaGreatDoorCReadBsWrite
import Derived.Test.YteebjgfalllbjaaGreatDoorCArgIxFlushW
namespace Go.Proofs.YteebjgfalllbjaaGreatDoor
open Go.RowKit

/-- A volume over the disk at A lies at V. -/
def VolAt (w : World) (V A n : Nat) : Prop := w.heap[V]? = some (.cells #[.iface 31 (.pointer (some ⟨A, 0, none⟩)), .int .i64 n] 212 (0, 0))
theorem VolAt.c0 {w : World} {V A n : Nat} (h : VolAt w V A n) : w.cell? ⟨V, 0, none⟩ = some (.iface 31 (.pointer (some ⟨A, 0, none⟩))) := by rw [cell_of_row w V 0 _ _ _ h]; rfl
theorem VolAt.c1 {w : World} {V A n : Nat} (h : VolAt w V A n) : w.cell? ⟨V, 1, none⟩ = some (.int .i64 n) := by rw [cell_of_row w V 1 _ _ _ h]; rfl
theorem VolAt.fr {S : Nat → Prop} {w w' : World} {V A n : Nat} (h : VolAt w V A n) (hf : Fr S w w') (hn : ¬ S V) : VolAt w' V A n := hf.keep h hn
theorem VolAt.ne {w : World} {V A B n m : Nat} {c : Value} {x y : Int} (h : VolAt w V A n) (hd : DiskAt w m B n c x y) : V ≠ m := by
  intro e; subst e
  have := h.symm.trans hd
  simp [dcells] at this

theorem vBlocks_ok {w : World} {V A n : Nat} (h : VolAt w V A n) :
    Calls Tryz.prog 110 #[.pointer (some ⟨V, 0, none⟩)] w fun e w' => e = .returned (.int .i64 n) ∧ w' = w := by
  have c1 := h.c1
  clear h
  go_enter Tryz.func110, Tryz.ntmps110
  go_wp2
  go_ret
  exact ⟨rfl, rfl⟩


theorem Part0_cut (C : Nat) (w : World) : (Instr.sliceAt 130 (.pointer (some ⟨C, 0, none⟩)) (some (.int .i64 0)) (some (.int .i64 128)) (some (.int .i64 128))).run Tryz.prog w = .ok (.slice (some ⟨C, 0, none⟩) 128 128) w := by kernel_rfl
theorem Part0_ok (w : World) (C : Nat) :
    Calls Tryz.prog 141 #[.pointer (some ⟨C, 0, none⟩), .int .i64 0, .int .i64 128] w fun e w' => e = .returned (.slice (some ⟨C, 0, none⟩) 128 128) ∧ w' = w := by
  go_enter Tryz.func141, Tryz.ntmps141
  go_wp2_with (refine wpList_sliceAt 130 (.tmp 8) (some (.tmp 9)) (some (.tmp 12)) (some (.tmp 15)) (v := .slice (some ⟨C, 0, none⟩) 128 128) (w' := w) rfl rfl ?_ ?_; exact Part0_cut C w)
  go_ret
  exact ⟨rfl, rfl⟩

theorem Part1_cut (C : Nat) (w : World) : (Instr.sliceAt 130 (.pointer (some ⟨C, 0, none⟩)) (some (.int .i64 1)) (some (.int .i64 3)) (some (.int .i64 3))).run Tryz.prog w = .ok (.slice (some ⟨C, 1, none⟩) 2 2) w := by kernel_rfl
theorem Part1_ok (w : World) (C : Nat) :
    Calls Tryz.prog 141 #[.pointer (some ⟨C, 0, none⟩), .int .i64 1, .int .i64 2] w fun e w' => e = .returned (.slice (some ⟨C, 1, none⟩) 2 2) ∧ w' = w := by
  go_enter Tryz.func141, Tryz.ntmps141
  go_wp2_with (refine wpList_sliceAt 130 (.tmp 8) (some (.tmp 9)) (some (.tmp 12)) (some (.tmp 15)) (v := .slice (some ⟨C, 1, none⟩) 2 2) (w' := w) rfl rfl ?_ ?_; exact Part1_cut C w)
  go_ret
  exact ⟨rfl, rfl⟩

theorem Part3_cut (C : Nat) (w : World) : (Instr.sliceAt 130 (.pointer (some ⟨C, 0, none⟩)) (some (.int .i64 3)) (some (.int .i64 27)) (some (.int .i64 27))).run Tryz.prog w = .ok (.slice (some ⟨C, 3, none⟩) 24 24) w := by kernel_rfl
theorem Part3_ok (w : World) (C : Nat) :
    Calls Tryz.prog 141 #[.pointer (some ⟨C, 0, none⟩), .int .i64 3, .int .i64 24] w fun e w' => e = .returned (.slice (some ⟨C, 3, none⟩) 24 24) ∧ w' = w := by
  go_enter Tryz.func141, Tryz.ntmps141
  go_wp2_with (refine wpList_sliceAt 130 (.tmp 8) (some (.tmp 9)) (some (.tmp 12)) (some (.tmp 15)) (v := .slice (some ⟨C, 3, none⟩) 24 24) (w' := w) rfl rfl ?_ ?_; exact Part3_cut C w)
  go_ret
  exact ⟨rfl, rfl⟩
end Go.Proofs.YteebjgfalllbjaaGreatDoor
namespace Go.Proofs.YteebjgfalllbjaaGreatDoor
open Go.RowKit
theorem box_block (cs : List Value) (w : World) : (Instr.box 130 (.agg cs.toArray)).run Tryz.prog w = .ok (.pointer (some ⟨w.heap.size, 0, none⟩)) (w.alloc (.cells cs.toArray 130)) := rfl

set_option maxRecDepth 100000 in
set_option maxHeartbeats 1000000 in
theorem Store_ok {w : World} {V A B n : Nat} {cache : Value} {calls writes : Int} (hv : VolAt w V A n) (h : DiskAt w A B n cache calls writes) (h0 : 0 ≤ calls) (h1 : calls < 1000000000) (h2 : 0 ≤ writes) (h3 : writes < 1000000000)
    {base k : Nat} {xs : List Value} (hown : w.ownsRow base 101 129 cache k xs) (hk : k < 1000000) (hbase : base ≤ w.heap.size)
    (i : Nat) (hi : i < n) (data : List Value) (hl : data.length = 128) (hone : ∀ v ∈ data, v.oneCell' = true) :
    Calls Tryz.prog 94 #[.pointer (some ⟨V, 0, none⟩), .int .i64 i, .agg data.toArray] w fun e w' => e = .returned (.tuple #[]) ∧
      ∃ cache', DiskAt w' A B n cache' (calls + 1) (writes + 1) ∧ w'.ownsRow base 101 129 cache' (k + 1) (xs ++ (.int .i64 i :: data)) ∧ Fr (fun b => b = A ∨ cache.ownBlock = some b) w w' := by
  have hVA := hv.ne h
  have hVc : cache.ownBlock ≠ some V := by
    intro e
    rcases hown.2 with ⟨rfl, _⟩ | ⟨g, cap, cur, rfl, hb, hg, _⟩
    · simp [Value.ownBlock] at e
    · simp only [Value.ownBlock, Option.some.injEq] at e
      subst e
      have := hv.symm.trans hg
      simp at this
  have hVl := lt_of_heap hv
  have hAl := h.lt
  go_enter Tryz.func94, Tryz.ntmps94
  go_wp2_with (refine wpList_box 130 (.tmp 2) (v := .pointer (some ⟨w.heap.size, 0, none⟩)) (w' := w.alloc (.cells data.toArray 130)) rfl rfl ?_ ?_; exact box_block data w)
  try go_simp
  have hlift : Tryz.prog.follows .mixedOrders = true := by kernel_rfl
  obtain ⟨W, HW⟩ : ∃ W, Hid (W = (w.alloc (.cells data.toArray 130)).drew) := ⟨_, rfl⟩
  obtain ⟨G, HG⟩ : ∃ G, Hid (G = w.heap.size) := ⟨_, rfl⟩
  have hGA : G ≠ A := by have := HG.out; omega
  have hGW : W.heap[G]? = some (.cells data.toArray 130 (0, 0)) := by rw [HW.out, HG.out]; exact heap_alloc_at _ _
  have hdW : DiskAt W A B n cache calls writes := by rw [HW.out]; exact (h.alloc _).drew
  have hvW : VolAt W V A n := by rw [HW.out]; unfold VolAt; rw [heap_drew', heap_alloc_lt _ _ _ hVl]; exact hv
  have hoW : W.ownsRow base 101 129 cache k xs := by rw [HW.out]; exact hown.alloc _
  have hfW : Fr (fun b => b = A ∨ cache.ownBlock = some b) w W := by rw [HW.out]; exact ((Fr.refl _ _).alloc _).drew
  have hbW : base ≤ W.heap.size := Nat.le_trans hbase hfW.size
  rw [← HG.out]
  let S : World → Prop := fun w' => w'.cell? ⟨V, 0, none⟩ = some (.iface 31 (.pointer (some ⟨A, 0, none⟩)))
  have hS : S W := hvW.c0
  refine wp_region_held (S := S) hlift ?_
  change wpAnyH _ _ _ _ S _ _ _ (World.drew _)
  rw [← HW.out]
  refine wpAnyH_take (S := S) (i := 0) (oi := ⟨some 6, .move (.tmp 0), _, _, _, none⟩) (v := .pointer (some ⟨V, 0, none⟩)) rfl (by kernel_rfl) (by kernel_rfl) (by kernel_rfl) (fun _ _ _ h => h) (Or.inl ⟨rfl, fun _ _ => rfl⟩) hS ?_
  simp only [Act.put, List.setIfInBounds_toArray, List.set_cons_zero, List.set_cons_succ]
  refine wpAnyH_take (S := S) (i := 1) (oi := ⟨some 7, .nilCheck (.tmp 6), _, _, _, none⟩) (v := .pointer (some ⟨V, 0, none⟩)) rfl (by kernel_rfl) (by kernel_rfl) (by kernel_rfl) (fun _ _ _ h => h) (Or.inl ⟨rfl, fun _ _ => rfl⟩) hS ?_
  simp only [Act.put, List.setIfInBounds_toArray, List.set_cons_zero, List.set_cons_succ]
  refine wpAnyH_take (S := S) (i := 2) (oi := ⟨some 8, .fieldAddr 212 (.tmp 7) 0, _, _, _, none⟩) (v := .pointer (some ⟨V, 0, none⟩)) rfl (by kernel_rfl) (by kernel_rfl) (by kernel_rfl) (fun _ _ _ h => h) (Or.inl ⟨rfl, fun _ _ => by kernel_rfl⟩) hS ?_
  simp only [Act.put, List.setIfInBounds_toArray, List.set_cons_zero, List.set_cons_succ]
  refine wpAnyH_take (S := S) (i := 3) (oi := ⟨some 9, .load 154 (.tmp 8), _, _, _, none⟩) (v := .iface 31 (.pointer (some ⟨A, 0, none⟩))) rfl (by kernel_rfl) (by kernel_rfl) (by kernel_rfl) (fun _ _ _ h => h) (Or.inl ⟨rfl, fun w' hs => exec_load 154 (.tmp 8) rfl ⟨V, 0, none⟩ rfl (run_loadAt_one hs Tryz.underlying154 rfl)⟩) hS ?_
  simp only [Act.put, List.setIfInBounds_toArray, List.set_cons_zero, List.set_cons_succ]
  refine wpAnyH_take (S := S) (i := 4) (oi := ⟨some 10, .move (.tmp 1), _, _, _, none⟩) (v := .int .i64 i) rfl (by kernel_rfl) (by kernel_rfl) (by kernel_rfl) (fun _ _ _ h => h) (Or.inl ⟨rfl, fun _ _ => rfl⟩) hS ?_
  simp only [Act.put, List.setIfInBounds_toArray, List.set_cons_zero, List.set_cons_succ]
  refine wpAnyH_take (S := S) (i := 6) (oi := ⟨some 12, .nilCheck (.tmp 9), _, _, _, none⟩) (v := .iface 31 (.pointer (some ⟨A, 0, none⟩))) rfl (by kernel_rfl) (by kernel_rfl) (by kernel_rfl) (fun _ _ _ h => h) (Or.inl ⟨rfl, fun _ _ => rfl⟩) hS ?_
  simp only [Act.put, List.setIfInBounds_toArray, List.set_cons_zero, List.set_cons_succ]
  refine wpAnyH_take (S := S) (i := 7) (oi := ⟨some 13, .move (.tmp 9), _, _, _, none⟩) (v := .iface 31 (.pointer (some ⟨A, 0, none⟩))) rfl (by kernel_rfl) (by kernel_rfl) (by kernel_rfl) (fun _ _ _ h => h) (Or.inl ⟨rfl, fun _ _ => rfl⟩) hS ?_
  simp only [Act.put, List.setIfInBounds_toArray, List.set_cons_zero, List.set_cons_succ]
  refine wpAnyH_all (rs := [5]) (by kernel_rfl) (by simp) ?_
  intro i5 hi5
  obtain rfl : i5 = 5 := by simpa using hi5
  refine wpOp_call (o := ⟨some 11, .call { callee := .value (.func 141), args := #[.tmp 5, .const (.int .i64 0), .const (.int .i64 128)], argTypes := _ }, _, _, _, none⟩) (f := 141) (args := #[.pointer (some ⟨G, 0, none⟩), .int .i64 0, .int .i64 128]) rfl rfl (by kernel_rfl) ?_
  refine (Part0_ok W G).mono ?_
  rintro e w' ⟨rfl, rfl⟩
  refine ⟨_, rfl, hS, ?_⟩
  simp only [Act.put, List.setIfInBounds_toArray, List.set_cons_zero, List.set_cons_succ]
  refine wpAnyH_all (rs := [8]) (by kernel_rfl) (by simp) ?_
  intro i8 hi8
  obtain rfl : i8 = 8 := by simpa using hi8
  refine wpOp_call (o := ⟨some 14, .call { callee := .invoke (.tmp 13) _, args := #[.tmp 10, .tmp 11], argTypes := _ }, _, _, _, none⟩) (f := 207) (args := #[.pointer (some ⟨A, 0, none⟩), .int .i64 i, .slice (some ⟨G, 0, none⟩) 128 128]) rfl rfl (by kernel_rfl) ?_
  refine (Write_ok hdW h0 h1 h2 h3 hoW hk hbW i hi G 130 data hGW hl hone hGA).mono ?_
  rintro e w2 ⟨rfl, cache', hd2, ho2, hf2⟩
  have hS2 : S w2 := hf2.cell (p := ⟨V, 0, none⟩) hvW.c0 (by rintro (e | e); exact hVA e; exact hVc e)
  refine ⟨_, rfl, hS2, ?_⟩
  simp only [Act.put, List.setIfInBounds_toArray, List.set_cons_zero, List.set_cons_succ]
  refine wpAnyH_take (S := S) (i := 9) (oi := ⟨some 15, .binOp .neq 36 (.tmp 14) (.const .nilIface) 36, _, _, _, none⟩) (v := .bool false) rfl (by kernel_rfl) (by kernel_rfl) (by kernel_rfl) (fun _ _ _ h => h) (Or.inl ⟨rfl, fun _ _ => by kernel_rfl⟩) hS2 ?_
  simp only [Act.put, List.setIfInBounds_toArray, List.set_cons_zero, List.set_cons_succ]
  refine wpAnyH_done (by kernel_rfl) ?_ _
  go_wp2
  go_end0
  exact ⟨rfl, cache', hd2, ho2, hfW.trans hf2 (fun _ _ h => h)⟩
end Go.Proofs.YteebjgfalllbjaaGreatDoor
namespace Go.Proofs.YteebjgfalllbjaaGreatDoor
open Go.RowKit

def markS : ByteArray := ⟨#[115, 97, 103, 97, 115, 58, 32, 97, 32, 106, 111, 117, 114, 110, 97, 108, 44, 32, 102, 111, 114, 109, 32, 49]⟩
def markB : List Value := markS.toList.map (fun x => Value.int .u8 x.toNat)
/-- The head of a journal on n blocks. -/
def headB (n : Nat) : List Value := [.int .u8 1, .int .u8 ((n : Int) / 256), .int .u8 ((n : Int) % 256)] ++ (markB ++ List.replicate 101 (Value.int .u8 0))
def headA (n : Nat) : List Value := [.int .u8 1, .int .u8 ((n : Int) / 256), .int .u8 ((n : Int) % 256)] ++ List.replicate 125 (Value.int .u8 0)
theorem markB_len : markB.length = 24 := by kernel_rfl
theorem headB_len (n : Nat) : (headB n).length = 128 := by simp [headB, markB_len]
theorem headB_one (n : Nat) : ∀ v ∈ headB n, v.oneCell' = true := by
  intro v hv
  simp only [headB, markB, List.mem_append, List.mem_cons, List.not_mem_nil, or_false, List.mem_map, List.mem_replicate] at hv
  rcases hv with (rfl | rfl | rfl) | ⟨_, _, rfl⟩ | ⟨_, rfl⟩ <;> rfl
theorem alloc_block (w : World) : (Instr.alloc 130 true (.tuple #[])).run Tryz.prog w = .ok (.pointer (some ⟨w.heap.size, 0, none⟩)) (w.alloc (.cells z128 130)) := by kernel_rfl
theorem block_size : (Tryz.prog.info? 130).map (·.size) = some 128 := by kernel_rfl
theorem build_block (w : World) : (Instr.build 130 #[]).run Tryz.prog w = .ok (.agg z128) w := by kernel_rfl
def cur1 : Array Value := z128.setIfInBounds 0 (.int .u8 1)
theorem new1 (x y : Value) : cur1.toList.take 1 ++ ([x, y] ++ cur1.toList.drop (1 + [x, y].length)) = [.int .u8 1, x, y] ++ List.replicate 125 (Value.int .u8 0) := by kernel_rfl
theorem new2 (n : Nat) : (headA n).toArray.toList.take 3 ++ markB ++ (headA n).toArray.toList.drop (3 + markB.length) = headB n := by kernel_rfl

/-- copy of the mark, a text, into a row that is known whole. -/
theorem run_copy_mark (w : World) (g n : Nat) (hg : w.heap[g]? = some (.cells (headA n).toArray 130 (0, 0))) :
    (Builtin.copy_ #[85, 9] 3 #[.slice (some ⟨g, 3, none⟩) 24 24, .string markS]).run Tryz.prog w = .ok (.int .i64 24) (w.setRow g (headB n).toArray) := by
  have hst := run_storeCells_at Tryz.prog g 3 130 markB 0 (headA n).toArray w hg (by rw [markB_len]; simp [headA]) (fun v hv => by simp only [markB, List.mem_map] at hv; obtain ⟨_, _, rfl⟩ := hv; rfl)
  have hc : (Builtin.firstCells 1 24 (.string markS)).run Tryz.prog w = .ok markB.toArray w := by kernel_rfl
  have hlen : (Builtin.lenOf (.string markS)).run Tryz.prog w = .ok 24 w := by kernel_rfl
  have hsz : (sizeOf 5).run Tryz.prog w = .ok 1 w := by kernel_rfl
  have hm : Nat.min 24 24 = 24 := rfl
  simp only [Nat.add_zero] at hst
  rw [new2] at hst
  simp only [Builtin.copy_, List.getElem?_toArray, List.getElem?_cons_zero, List.getElem?_cons_succ, Sem.run_bind, run_underlying Tryz.underlying85, Result.andThen_ok, hlen, hsz, hm, hc, hst, Sem.run_pure]
  rfl

theorem wpList_copy_mark {ops : Array Oper} {rest : List Oper} {op : Oper} {a : Act} {w : World} {Q : Exit → Act → World → Prop} (hgd : op.guard = none) (d : Operand) (ho : op.op = .call { callee := .builtin .copy, args := #[d, .const (.string markS)], argTypes := #[85, 9] }) (ht : op.type = 3)
    (g n : Nat) (hg : w.heap[g]? = some (.cells (headA n).toArray 130 (0, 0))) (hd : a.eval d = .slice (some ⟨g, 3, none⟩) 24 24)
    (h : ∀ w2, Hid (w2 = w.setRow g (headB n).toArray) → wpList Tryz.prog ops Q rest (a.put op.dst (.int .i64 24)) w2) : wpList Tryz.prog ops Q (op :: rest) a w :=
  wpList_plain hgd fun _ hK => by
    have hr := run_copy_mark w g n hg
    have hc : a.eval (.const (.string markS)) = .string markS := rfl
    unfold Oper.wp execOp
    simp only [ho, ht, resolve, invoke, builtin, Sem.run_bind, Sem.run_pure, Result.andThen_ok, List.map_toArray, List.map_cons, List.map_nil, hd, hc, hr]
    exact hK _ _ (h _ rfl)

set_option maxRecDepth 100000 in
set_option maxHeartbeats 1000000 in
theorem Head_ok (w : World) (n : Nat) (hn : n ≤ 400) :
    Calls Tryz.prog 113 #[.int .i64 n] w fun e w' => e = .returned (.agg (headB n).toArray) ∧ Fr (fun _ => False) w w' := by
  have hz0 : z128[0]? = some (.int .u8 0) := by kernel_rfl
  go_enter Tryz.func113, Tryz.ntmps113
  go_wp2_with (first
    | (refine wpList_alloc 130 (v := .pointer (some ⟨w.heap.size, 0, none⟩)) (w' := w.alloc (.cells z128 130)) rfl rfl ?_ ?_; exact alloc_block w)
    | (refine wpList_alloc 130 (v := .pointer (some ⟨(w.alloc (.cells z128 130)).heap.size, 0, none⟩)) (w' := (w.alloc (.cells z128 130)).alloc (.cells z128 130)) rfl rfl ?_ ?_; exact alloc_block _))
  refine (Part1_ok _ _).mono ?_
  rintro e w' ⟨rfl, rfl⟩
  obtain ⟨N, HN⟩ : ∃ N, Hid (N = w.heap.size) := ⟨_, rfl⟩
  have hW1 : ∀ o : Obj, (((w.alloc (.cells z128 130)).alloc (.cells cur1 130)).alloc o).heap[w.heap.size + 1]? = some (.cells cur1 130 (0, 0)) := fun o => by
    rw [heap_alloc_lt _ _ _ (by simp)]; exact heap_alloc2_new w _ _
  have hW2 : ∀ o : Obj, (((w.alloc (.cells z128 130)).alloc (.cells cur1 130)).alloc o).heap[w.heap.size + 1 + 1]? = some o := fun o => by
    have := heap_alloc_at ((w.alloc (.cells z128 130)).alloc (.cells cur1 130)) o
    simpa using this
  have hW3 : ∀ (o : Obj), (((w.alloc (.cells z128 130)).alloc (.cells cur1 130)).alloc o).heap[w.heap.size]? = some (.cells z128 130 (0, 0)) := fun o => by
    rw [heap_alloc_lt _ _ _ (by simp; omega), heap_alloc_lt _ _ _ (by simp)]; exact heap_alloc_at _ _
  have hF3 : ∀ (o : Obj), Fr (fun _ => False) w (((w.alloc (.cells z128 130)).alloc (.cells cur1 130)).alloc o) := fun o => (((Fr.refl _ _).alloc _).alloc _).alloc _
  have hcur : z128.setIfInBounds 0 (.int .u8 1) = cur1 := rfl
  go_wp2_with (first | (refine wpList_copy_to rfl (.tmp 5) (.tmp 11) 85 85 rfl 5 Tryz.underlying85 u8size (w.heap.size + 1) 1 2 2 ⟨w.heap.size + 1 + 1, 0, none⟩ 2 2 rfl rfl cur1 130 (hW1 _) [.int .u8 ((n : Int) / 256), .int .u8 ((n : Int) % 256)] rfl ?_ ?_ ?_ (headA n) (new1 _ _) ?_; exact World.news_of_block (hW2 _); (simp [cur1, z128_size]); (simp [Value.oneCell']); intro w2 HW2))
  have hN1 : w2.heap[w.heap.size + 1]? = some (.cells (headA n).toArray 130 (0, 0)) := by rw [HW2.out]; exact setRow_heap _ _ _ _ _ _ (hW1 _)
  have hN0 : w2.heap[w.heap.size]? = some (.cells z128 130 (0, 0)) := by rw [HW2.out, setRow_other _ _ _ _ (by omega)]; exact hW3 _
  have hF2 : Fr (fun _ => False) w w2 := by rw [HW2.out]; exact (hF3 _).setRow _ (fun h => by omega) _
  clear HW2 hW1 hW2 hW3 hF3
  refine (Part3_ok _ _).mono ?_
  rintro e w' ⟨rfl, rfl⟩
  go_wp2_with (first
    | (refine wpList_copy_mark rfl (.tmp 13) rfl rfl (w.heap.size + 1) n hN1 rfl ?_; intro w3 HW3; have hM1 : w3.rangeAt (w.heap.size + 1) 0 (headB n) := by (rw [HW3.out]; intro j v hv; rw [cell_setRow_same _ _ _ _ _ _ _ hN1]; simpa using hv))
    | (refine wpList_load_mid rfl 130 (.tmp 3) rfl (w.heap.size + 1) 0 ?_ (headB n) _ hM1 Tryz.underlying130 rfl ?_ ?_; rfl; (rw [block_size, headB_len]))
    | (refine wpList_store 130 (w' := w3.setRow w.heap.size (headB n).toArray) (.tmp 2) (.tmp 15) rfl rfl ?_ ?_; (have hM0 : w3.heap[w.heap.size]? = some (.cells z128.toList.toArray 130 (0, 0)) := by (rw [HW3.out, setRow_other _ _ _ _ (by omega)]; simpa using hN0)); (have := run_storeAt_row (P := Tryz.prog) (o := 0) (ty := 130) (vs := headB n) hM0 (by simp [headB_len, z128_size]) (headB_one n) (by rw [block_size, headB_len])); (rw [show splice z128.toList 0 (headB n) = headB n from by simp [splice, headB_len, z128_size]] at this); exact this))
  simp only [Act.put, List.setIfInBounds_toArray, List.set_cons_zero, List.set_cons_succ]
  have hM0 : w3.heap[w.heap.size]? = some (.cells z128 130 (0, 0)) := by rw [HW3.out, setRow_other _ _ _ _ (by omega)]; exact hN0
  have hE := setRow_heap w3 w.heap.size z128 (headB n).toArray 130 (0, 0) hM0
  refine bodyPost_ret (v := .agg (headB n).toArray) (results_cell_row Tryz.results113 _ _ w.heap.size 130 _ (0, 0) _ rfl hE Tryz.underlying130 rfl (by rw [block_size]; simp [headB_len])) rfl ⟨rfl, ?_⟩
  have hF3 : Fr (fun _ => False) w w3 := by rw [HW3.out]; exact hF2.setRow _ (fun h => by omega) _
  exact hF3.setRow _ (fun h => by omega) _
end Go.Proofs.YteebjgfalllbjaaGreatDoor
