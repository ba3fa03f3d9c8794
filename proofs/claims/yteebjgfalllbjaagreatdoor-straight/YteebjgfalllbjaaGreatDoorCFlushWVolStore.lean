import Derived.Test.YteebjgfalllbjaaGreatDoorCVbNeIx
import Derived.Test.YteebjgfalllbjaaGreatDoorCApiReadBs
namespace Go.Proofs.YteebjgfalllbjaaGreatDoor
open Go.RowKit
set_option maxRecDepth 100000 in
set_option maxHeartbeats 1000000 in
theorem Flush_ok {w : World} {A B n : Nat} {cache : Value} {calls writes : Int} {bs : List Value} (h : DiskAt w A B n cache calls writes) (hr : RowsAt w B n bs) (h0 : 0 ≤ calls) (h1 : calls < 1000000000)
  {base k : Nat} {ents : List (Nat × List Value)} (hown : w.ownsRow base 101 129 cache k (flat ents)) (hk : k < 1000000) (hk0 : 0 < k) (hl : ∀ p ∈ ents, p.2.length = 128) (ho : ∀ p ∈ ents, ∀ v ∈ p.2, v.oneCell' = true) (hn : ∀ p ∈ ents, p.1 < n) :
  Calls Tryz.prog 205 #[.pointer (some ⟨A, 0, none⟩)] w fun e w' => e = .returned .nilIface ∧
   DiskAt w' A B n (.slice none 0 0) (calls + 1) writes ∧ RowsAt w' B n (lain bs ents) ∧ Fr (fun b => b = A ∨ b = B) w w' := by
 obtain ⟨g, cap, rfl, hbg, hglt⟩ := hown.form hk0
 have hel : ents.length = k := by
  have := flat_len ents hl
  rw [hown.1] at this
  omega
 have HEL : Hid (ents.length = k) := hel
 clear hel
 go_enter Tryz.func205, Tryz.ntmps205
 go_wp2_with fail
 refine (fails_ok h h0 h1).mono ?_
 rintro e w1 ⟨rfl, hd1, hf1, hs1⟩
 have hAB : A ≠ B := by
  intro e; subst e
  have := h.symm.trans hr.1
  simp at this
 have hAg : A ≠ g := by
  intro e; subst e
  rcases hown.2 with ⟨hv, _⟩ | ⟨g', cap', cur, hv, hb, hg, _⟩
  ·cases hv
  ·simp only [Value.slice.injEq, Option.some.injEq, Addr.mk.injEq, and_true] at hv
   rw [← hv.1] at hg
   have := h.symm.trans hg
   simp at this
 have hBg : B ≠ g := by
  intro e; subst e
  rcases hown.2 with ⟨hv, _⟩ | ⟨g', cap', cur, hv, hb, hg, _⟩
  ·cases hv
  ·simp only [Value.slice.injEq, Option.some.injEq, Addr.mk.injEq, and_true] at hv
   rw [← hv.1] at hg
   have := hr.1.symm.trans hg
   simp at this
 have hr1 : RowsAt w1 B n bs := ⟨hf1.keep hr.1 hAB.symm, hr.2⟩
 have ho1 : w1.ownsRow base 101 129 (.slice (some ⟨g, 0, none⟩) k cap) k (flat ents) :=
  hown.kept (row := some A) ⟨hf1.os, hf1.tape, hf1.output, hf1.size, fun b hb hn => hf1.block b hb (fun e => hn (by rw [e]))⟩ (by right; simp only [Value.ownBlock]; intro e; exact hAg (by simpa using e.symm))
 have c1 := hd1.c1
 have HI : Hid (DiskAt w1 A B n (.slice (some ⟨g, 0, none⟩) k cap) (calls + 1) writes ∧ RowsAt w1 B n (lain bs (ents.take 0)) ∧ w1.ownsRow base 101 129 (.slice (some ⟨g, 0, none⟩) k cap) k (flat ents) ∧ Fr (fun b => b = A ∨ b = B) w w1) := ⟨hd1, by simpa [lain] using hr1, ho1, hf1.mono (fun _ _ => Or.inl)⟩
 clear hd1 hr1 ho1 hf1 hs1
 go_wp2
 go_loopw [13] (fun c wr => ∃ i : Nat, i ≤ k ∧ c = .int .i64 i ∧ Hid (DiskAt wr A B n (.slice (some ⟨g, 0, none⟩) k cap) (calls + 1) writes ∧ RowsAt wr B n (lain bs (ents.take i)) ∧ wr.ownsRow base 101 129 (.slice (some ⟨g, 0, none⟩) k cap) k (flat ents) ∧ Fr (fun b => b = A ∨ b = B) w wr)) (fun c _ => k - (intOf c).toNat)
 case atStart => exact ⟨0, Nat.zero_le _, rfl, HI⟩
 case round =>
  obtain ⟨i, hik, rfl, HR⟩ := hrel
  by_cases hlt : i < k
  ·obtain ⟨p, hp⟩ : ∃ p, ents[i]? = some p := by
    have := HEL.out
    exact ⟨_, List.getElem?_eq_getElem (by omega)⟩
   obtain ⟨a, d⟩ := p
   have hpm : (a, d) ∈ ents := List.mem_of_getElem? hp
   have hdl : d.length = 128 := hl _ hpm
   have hdo : ∀ v ∈ d, v.oneCell' = true := ho _ hpm
   have han : a < n := hn _ hpm
   have hrg := range_own HR.out.2.2.1 hl hp
   have hwl : (Value.int .i64 a :: d).length = 129 := by simp [hdl]
   have hwo : ∀ v ∈ (Value.int .i64 a :: d), v.oneCell' = true := fun v hv => by
    rcases List.mem_cons.1 hv with rfl | hv
    ·rfl
    ·exact hdo v hv
   have hki : (i : Int) < k := by omega
   go_wp2_with (first
    | (refine wpList_load_mid rfl 101 (.tmp 15) rfl g (i * 129) ?_ (Value.int .i64 a :: d) _ hrg Tryz.underlying101 rfl ?_ ?_; rfl; (rw [write_size, hwl]))
    | (refine wpList_alloc 101 (v := .pointer (some ⟨wr.heap.size, 0, none⟩)) (w' := wr.alloc (.cells (wz (.int .i64 0)) 101)) rfl rfl ?_ ?_; exact alloc_write wr)
    | (refine wpList_store 101 (w' := wr.alloc (.cells (Value.int .i64 a :: d).toArray 101)) (.tmp 4) (.tmp 16) rfl rfl ?_ ?_; exact store_write' _ hwl hwo wr))
   try go_simp
   have hlift : Tryz.prog.follows .mixedOrders = true := by kernel_rfl
   obtain ⟨hd2, hr2, ho2, hf2⟩ := HR.out
   obtain ⟨W, HW⟩ : ∃ W, Hid (W = (wr.alloc (.cells (Value.int .i64 a :: d).toArray 101)).drew) := ⟨_, rfl⟩
   obtain ⟨G, HG⟩ : ∃ G, Hid (G = wr.heap.size) := ⟨_, rfl⟩
   have hGW : W.heap[G]? = some (.cells (Value.int .i64 a :: d).toArray 101 (0, 0)) := by rw [HW.out, HG.out]; exact heap_alloc_at _ _
   have hdW : DiskAt W A B n (.slice (some ⟨g, 0, none⟩) k cap) (calls + 1) writes := by rw [HW.out]; exact (hd2.alloc _).drew
   have hrW : RowsAt W B n (lain bs (ents.take i)) := by
    rw [HW.out]; refine ⟨?_, hr2.2⟩; rw [heap_drew', heap_alloc_lt _ _ _ (lt_of_heap hr2.1)]; exact hr2.1
   have hGB : G ≠ B := by have := lt_of_heap hr2.1; have := HG.out; omega
   have hfW : Fr (fun b => b = A ∨ b = B) w W := by rw [HW.out]; exact (hf2.alloc _).drew
   have hoW : W.ownsRow base 101 129 (.slice (some ⟨g, 0, none⟩) k cap) k (flat ents) := by rw [HW.out]; exact ho2.alloc _
   clear hd2 hr2 ho2 hf2
   rw [← HG.out]
   let S : World → Prop := fun w' => w'.cell? ⟨A, 0, none⟩ = some (.slice (some ⟨B, 0, none⟩) n n) ∧ w'.cell? ⟨G, 0, none⟩ = some (.int .i64 a) ∧ w'.rangeAt G 1 d
   have hS : S W := ⟨hdW.c0, by rw [cell_of_row W G 0 _ _ _ hGW]; rfl, fun j v hv => by rw [cell_of_row W G (1 + j) _ _ _ hGW, Nat.add_comm]; simpa using hv⟩
   have hS' : S (W.setRow B (splice (lain bs (ents.take i)) (a * 128) d).toArray) := by
    refine ⟨by rw [cell_setRow_other _ _ _ _ hAB]; exact hS.1, by rw [cell_setRow_other _ _ _ _ hGB]; exact hS.2.1, fun j v hv => by rw [cell_setRow_other _ _ _ _ hGB]; exact hS.2.2 j v hv⟩
   have hstore := run_storeAt_row (P := Tryz.prog) (o := a * 128) (ty := 97) (vs := d) hrW.1 (by rw [hdl, hrW.2.1]; omega) hdo (by rw [arr_size, hdl])
   refine wp_region_held (S := S) hlift ?_
   change wpAnyH _ _ _ _ S _ _ _ (World.drew _)
   rw [← HW.out]
   refine tkE (S := S) (i := 0) (oi := ⟨some 17, .move (.tmp 0), _, _, _, none⟩) (v := .pointer (some ⟨A, 0, none⟩)) rfl hS ?_
   simp only [Act.put, lsE, lsZ, lsS]
   refine tkE (S := S) (i := 1) (oi := ⟨some 18, .nilCheck (.tmp 17), _, _, _, none⟩) (v := .pointer (some ⟨A, 0, none⟩)) rfl hS ?_
   simp only [Act.put, lsE, lsZ, lsS]
   refine tkE (S := S) (i := 2) (oi := ⟨some 19, .fieldAddr 96 (.tmp 18) 0, _, _, _, none⟩) (v := .pointer (some ⟨A, 0, none⟩)) rfl hS ?_
   simp only [Act.put, lsE, lsZ, lsS]
   refine tkY (S := S) (i := 3) (oi := ⟨some 20, .load 93 (.tmp 19), _, _, _, none⟩) (v := .slice (some ⟨B, 0, none⟩) n n) rfl (Or.inl ⟨rfl, fun w' hs => exec_load 93 (.tmp 19) rfl ⟨A, 0, none⟩ rfl (run_loadAt_one hs.1 Tryz.underlying93 rfl)⟩) hS ?_
   simp only [Act.put, lsE, lsZ, lsS]
   refine tkE (S := S) (i := 4) (oi := ⟨some 21, .fieldAddr 101 (.tmp 4) 0, _, _, _, none⟩) (v := .pointer (some ⟨G, 0, none⟩)) rfl hS ?_
   simp only [Act.put, lsE, lsZ, lsS]
   refine tkY (S := S) (i := 5) (oi := ⟨some 22, .load 3 (.tmp 21), _, _, _, none⟩) (v := .int .i64 a) rfl (Or.inl ⟨rfl, fun w' hs => exec_load 3 (.tmp 21) rfl ⟨G, 0, none⟩ rfl (run_loadAt_one hs.2.1 Tryz.underlying3 rfl)⟩) hS ?_
   simp only [Act.put, lsE, lsZ, lsS]
   refine tkE (S := S) (i := 6) (oi := ⟨some 23, .fieldAddr 101 (.tmp 4) 1, _, _, _, none⟩) (v := .pointer (some ⟨G, 1, none⟩)) rfl hS ?_
   simp only [Act.put, lsE, lsZ, lsS]
   refine tkY (S := S) (i := 7) (oi := ⟨some 24, .load 97 (.tmp 23), _, _, _, none⟩) (v := .agg d.toArray) rfl (Or.inl ⟨rfl, fun w' hs => exec_load 97 (.tmp 23) rfl ⟨G, 1, none⟩ rfl (run_loadAt_mid w' G 1 97 d _ hs.2.2 Tryz.underlying97 rfl (by rw [arr_size, hdl]))⟩) hS ?_
   simp only [Act.put, lsE, lsZ, lsS]
   refine tkY (S := S) (i := 8) (oi := ⟨some 25, .indexAddr 93 (.tmp 20) (.tmp 22), _, _, _, none⟩) (v := .pointer (some ⟨B, a * 128, none⟩)) rfl (Or.inl ⟨rfl, fun w' _ => exec_indexAddr 93 (.tmp 20) (.tmp 22) rfl (by rfl) (by rfl) (index_rows B n a han w')⟩) hS ?_
   simp only [Act.put, lsE, lsZ, lsS]
   refine wpAnyH_all (rs := [9]) (by kernel_rfl) (by simp) ?_
   intro i5 hi5
   obtain rfl : i5 = 9 := by simpa using hi5
   refine wpOp_skip (o := ⟨none, .store 97 (.tmp 25) (.tmp 24), _, _, _, none⟩) rfl rfl (exec_store 97 (.tmp 25) (.tmp 24) rfl ⟨B, a * 128, none⟩ (.agg d.toArray) (by rfl) (by rfl) hstore) ⟨hS', ?_⟩
   simp only [Act.put]
   refine wpAnyH_done (by kernel_rfl) ?_ _
   clear hS hS' hstore
   have HN : Hid (DiskAt (W.setRow B (splice (lain bs (ents.take i)) (a * 128) d).toArray) A B n (.slice (some ⟨g, 0, none⟩) k cap) (calls + 1) writes ∧ RowsAt (W.setRow B (splice (lain bs (ents.take i)) (a * 128) d).toArray) B n (lain bs (ents.take (i + 1))) ∧ (W.setRow B (splice (lain bs (ents.take i)) (a * 128) d).toArray).ownsRow base 101 129 (.slice (some ⟨g, 0, none⟩) k cap) k (flat ents) ∧ Fr (fun b => b = A ∨ b = B) w (W.setRow B (splice (lain bs (ents.take i)) (a * 128) d).toArray)) := by
    refine ⟨by unfold DiskAt; rw [setRow_other _ _ _ _ hAB]; exact hdW, by rw [lain_take bs ents i _ hp]; exact hrW.splice a han d hdl hdo, ?_, hfW.setRow _ (fun _ => Or.inr rfl) _⟩
    exact hoW.kept (row := some B) ⟨rfl, rfl, rfl, by simp, fun b _ hb => setRow_other _ _ _ _ (fun e => hb (by rw [e]))⟩ (by right; simp only [Value.ownBlock]; intro e; exact hBg (by simpa using e.symm))
   generalize W.setRow B (splice (lain bs (ents.take i)) (a * 128) d).toArray = WN at *
   clear hGW hdW hrW hfW hoW hrg
   go_wp2
   go_roundw
   case rel => exact ⟨i + 1, by omega, by go_num, HN⟩
   case measure => simp [intOf]; omega
  ·obtain ⟨hd2, hr2, ho2, hf2⟩ := HR.out
   have f1 := hd2.fz 1
   have c12 := hd2.c1
   clear hr2 ho2 hf2 hd2
   go_wp2
   go_ret
   obtain ⟨hd2, hr2, ho2, hf2⟩ := HR.out
   have hi : i = k := by omega
   have e2 : ents.take i = ents := List.take_of_length_le (by rw [HEL.out]; omega)
   rw [e2] at hr2
   exact ⟨rfl, hd2.set1 _, ⟨by rw [heap_setCell_ne _ _ _ _ hAB.symm]; exact hr2.1, hr2.2⟩, hf2.setCell _ (fun _ => Or.inl rfl) _⟩
end Go.Proofs.YteebjgfalllbjaaGreatDoor
namespace Go.Proofs.YteebjgfalllbjaaGreatDoor
open Go.RowKit

def VolAt (w : World) (V A n : Nat) : Prop := w.heap[V]? = some (.cells #[.iface 31 (.pointer (some ⟨A, 0, none⟩)), .int .i64 n] 212 (0, 0))
theorem VolAt.c0 {w : World} {V A n : Nat} (h : VolAt w V A n) : w.cell? ⟨V, 0, none⟩ = some (.iface 31 (.pointer (some ⟨A, 0, none⟩))) := by rw [cell_of_row w V 0 _ _ _ h]; rfl
theorem VolAt.c1 {w : World} {V A n : Nat} (h : VolAt w V A n) : w.cell? ⟨V, 1, none⟩ = some (.int .i64 n) := by rw [cell_of_row w V 1 _ _ _ h]; rfl
theorem VolAt.fr {S : Nat → Prop} {w w' : World} {V A n : Nat} (h : VolAt w V A n) (hf : Fr S w w') (hn : ¬ S V) : VolAt w' V A n := hf.keep h hn
theorem VolAt.ne {w : World} {V A B n m : Nat} {c : Value} {x y : Int} (h : VolAt w V A n) (hd : DiskAt w m B n c x y) : V ≠ m := by
 intro e; subst e
 have := h.symm.trans hd
 simp [dcells] at this

theorem vBlocks_ok {w : World} {V A n : Nat} (h : VolAt w V A n) :
  Calls Tryz.prog 110 #[.pointer (some ⟨V, 0, none⟩)] w fun e w' => e = .returned (.int .i64 n) ∧ w' = w := by
 have c1 := h.c1
 clear h
 go_enter Tryz.func110, Tryz.ntmps110
 go_wp2
 go_ret
 exact ⟨rfl, rfl⟩


theorem Part0_cut (C : Nat) (w : World) : (Instr.sliceAt 130 (.pointer (some ⟨C, 0, none⟩)) (some (.int .i64 0)) (some (.int .i64 128)) (some (.int .i64 128))).run Tryz.prog w = .ok (.slice (some ⟨C, 0, none⟩) 128 128) w := by kernel_rfl
theorem Part0_ok (w : World) (C : Nat) :
  Calls Tryz.prog 141 #[.pointer (some ⟨C, 0, none⟩), .int .i64 0, .int .i64 128] w fun e w' => e = .returned (.slice (some ⟨C, 0, none⟩) 128 128) ∧ w' = w := by
 go_enter Tryz.func141, Tryz.ntmps141
 go_wp2_with (refine wpList_sliceAt 130 (.tmp 8) (some (.tmp 9)) (some (.tmp 12)) (some (.tmp 15)) (v := .slice (some ⟨C, 0, none⟩) 128 128) (w' := w) rfl rfl ?_ ?_; exact Part0_cut C w)
 go_ret
 exact ⟨rfl, rfl⟩

theorem Part1_cut (C : Nat) (w : World) : (Instr.sliceAt 130 (.pointer (some ⟨C, 0, none⟩)) (some (.int .i64 1)) (some (.int .i64 3)) (some (.int .i64 3))).run Tryz.prog w = .ok (.slice (some ⟨C, 1, none⟩) 2 2) w := by kernel_rfl
theorem Part1_ok (w : World) (C : Nat) :
  Calls Tryz.prog 141 #[.pointer (some ⟨C, 0, none⟩), .int .i64 1, .int .i64 2] w fun e w' => e = .returned (.slice (some ⟨C, 1, none⟩) 2 2) ∧ w' = w := by
 go_enter Tryz.func141, Tryz.ntmps141
 go_wp2_with (refine wpList_sliceAt 130 (.tmp 8) (some (.tmp 9)) (some (.tmp 12)) (some (.tmp 15)) (v := .slice (some ⟨C, 1, none⟩) 2 2) (w' := w) rfl rfl ?_ ?_; exact Part1_cut C w)
 go_ret
 exact ⟨rfl, rfl⟩

theorem Part3_cut (C : Nat) (w : World) : (Instr.sliceAt 130 (.pointer (some ⟨C, 0, none⟩)) (some (.int .i64 3)) (some (.int .i64 27)) (some (.int .i64 27))).run Tryz.prog w = .ok (.slice (some ⟨C, 3, none⟩) 24 24) w := by kernel_rfl
theorem Part3_ok (w : World) (C : Nat) :
  Calls Tryz.prog 141 #[.pointer (some ⟨C, 0, none⟩), .int .i64 3, .int .i64 24] w fun e w' => e = .returned (.slice (some ⟨C, 3, none⟩) 24 24) ∧ w' = w := by
 go_enter Tryz.func141, Tryz.ntmps141
 go_wp2_with (refine wpList_sliceAt 130 (.tmp 8) (some (.tmp 9)) (some (.tmp 12)) (some (.tmp 15)) (v := .slice (some ⟨C, 3, none⟩) 24 24) (w' := w) rfl rfl ?_ ?_; exact Part3_cut C w)
 go_ret
 exact ⟨rfl, rfl⟩
end Go.Proofs.YteebjgfalllbjaaGreatDoor
namespace Go.Proofs.YteebjgfalllbjaaGreatDoor
open Go.RowKit
theorem box_block (cs : List Value) (w : World) : (Instr.box 130 (.agg cs.toArray)).run Tryz.prog w = .ok (.pointer (some ⟨w.heap.size, 0, none⟩)) (w.alloc (.cells cs.toArray 130)) := rfl

set_option maxRecDepth 100000 in
set_option maxHeartbeats 1000000 in
theorem Store_ok {w : World} {V A B n : Nat} {cache : Value} {calls writes : Int} (hv : VolAt w V A n) (h : DiskAt w A B n cache calls writes) (h0 : 0 ≤ calls) (h1 : calls < 1000000000) (h2 : 0 ≤ writes) (h3 : writes < 1000000000)
  {base k : Nat} {xs : List Value} (hown : w.ownsRow base 101 129 cache k xs) (hk : k < 1000000) (hbase : base ≤ w.heap.size)
  (i : Nat) (hi : i < n) (data : List Value) (hl : data.length = 128) (hone : ∀ v ∈ data, v.oneCell' = true) :
  Calls Tryz.prog 94 #[.pointer (some ⟨V, 0, none⟩), .int .i64 i, .agg data.toArray] w fun e w' => e = .returned (.tuple #[]) ∧
   ∃ cache', DiskAt w' A B n cache' (calls + 1) (writes + 1) ∧ w'.ownsRow base 101 129 cache' (k + 1) (xs ++ (.int .i64 i :: data)) ∧ Fr (fun b => b = A ∨ cache.ownBlock = some b) w w' := by
 have hVA := hv.ne h
 have hVc : cache.ownBlock ≠ some V := by
  intro e
  rcases hown.2 with ⟨rfl, _⟩ | ⟨g, cap, cur, rfl, hb, hg, _⟩
  ·simp [Value.ownBlock] at e
  ·simp only [Value.ownBlock, Option.some.injEq] at e
   subst e
   have := hv.symm.trans hg
   simp at this
 have hVl := lt_of_heap hv
 have hAl := h.lt
 go_enter Tryz.func94, Tryz.ntmps94
 go_wp2_with (refine wpList_box 130 (.tmp 2) (v := .pointer (some ⟨w.heap.size, 0, none⟩)) (w' := w.alloc (.cells data.toArray 130)) rfl rfl ?_ ?_; exact box_block data w)
 try go_simp
 have hlift : Tryz.prog.follows .mixedOrders = true := by kernel_rfl
 obtain ⟨W, HW⟩ : ∃ W, Hid (W = (w.alloc (.cells data.toArray 130)).drew) := ⟨_, rfl⟩
 obtain ⟨G, HG⟩ : ∃ G, Hid (G = w.heap.size) := ⟨_, rfl⟩
 have hGA : G ≠ A := by have := HG.out; omega
 have hGW : W.heap[G]? = some (.cells data.toArray 130 (0, 0)) := by rw [HW.out, HG.out]; exact heap_alloc_at _ _
 have hdW : DiskAt W A B n cache calls writes := by rw [HW.out]; exact (h.alloc _).drew
 have hvW : VolAt W V A n := by rw [HW.out]; unfold VolAt; rw [heap_drew', heap_alloc_lt _ _ _ hVl]; exact hv
 have hoW : W.ownsRow base 101 129 cache k xs := by rw [HW.out]; exact hown.alloc _
 have hfW : Fr (fun b => b = A ∨ cache.ownBlock = some b) w W := by rw [HW.out]; exact ((Fr.refl _ _).alloc _).drew
 have hbW : base ≤ W.heap.size := Nat.le_trans hbase hfW.size
 rw [← HG.out]
 let S : World → Prop := fun w' => w'.cell? ⟨V, 0, none⟩ = some (.iface 31 (.pointer (some ⟨A, 0, none⟩)))
 have hS : S W := hvW.c0
 refine wp_region_held (S := S) hlift ?_
 change wpAnyH _ _ _ _ S _ _ _ (World.drew _)
 rw [← HW.out]
 refine tkE (S := S) (i := 0) (oi := ⟨some 6, .move (.tmp 0), _, _, _, none⟩) (v := .pointer (some ⟨V, 0, none⟩)) rfl hS ?_
 simp only [Act.put, lsE, lsZ, lsS]
 refine tkE (S := S) (i := 1) (oi := ⟨some 7, .nilCheck (.tmp 6), _, _, _, none⟩) (v := .pointer (some ⟨V, 0, none⟩)) rfl hS ?_
 simp only [Act.put, lsE, lsZ, lsS]
 refine tkE (S := S) (i := 2) (oi := ⟨some 8, .fieldAddr 212 (.tmp 7) 0, _, _, _, none⟩) (v := .pointer (some ⟨V, 0, none⟩)) rfl hS ?_
 simp only [Act.put, lsE, lsZ, lsS]
 refine tkY (S := S) (i := 3) (oi := ⟨some 9, .load 154 (.tmp 8), _, _, _, none⟩) (v := .iface 31 (.pointer (some ⟨A, 0, none⟩))) rfl (Or.inl ⟨rfl, fun w' hs => exec_load 154 (.tmp 8) rfl ⟨V, 0, none⟩ rfl (run_loadAt_one hs Tryz.underlying154 rfl)⟩) hS ?_
 simp only [Act.put, lsE, lsZ, lsS]
 refine tkE (S := S) (i := 4) (oi := ⟨some 10, .move (.tmp 1), _, _, _, none⟩) (v := .int .i64 i) rfl hS ?_
 simp only [Act.put, lsE, lsZ, lsS]
 refine tkE (S := S) (i := 6) (oi := ⟨some 12, .nilCheck (.tmp 9), _, _, _, none⟩) (v := .iface 31 (.pointer (some ⟨A, 0, none⟩))) rfl hS ?_
 simp only [Act.put, lsE, lsZ, lsS]
 refine tkE (S := S) (i := 7) (oi := ⟨some 13, .move (.tmp 9), _, _, _, none⟩) (v := .iface 31 (.pointer (some ⟨A, 0, none⟩))) rfl hS ?_
 simp only [Act.put, lsE, lsZ, lsS]
 refine wpAnyH_all (rs := [5]) (by kernel_rfl) (by simp) ?_
 intro i5 hi5
 obtain rfl : i5 = 5 := by simpa using hi5
 refine wpOp_call (o := ⟨some 11, .call { callee := .value (.func 141), args := #[.tmp 5, .const (.int .i64 0), .const (.int .i64 128)], argTypes := _ }, _, _, _, none⟩) (f := 141) (args := #[.pointer (some ⟨G, 0, none⟩), .int .i64 0, .int .i64 128]) rfl rfl (by kernel_rfl) ?_
 refine (Part0_ok W G).mono ?_
 rintro e w' ⟨rfl, rfl⟩
 refine ⟨_, rfl, hS, ?_⟩
 simp only [Act.put, lsE, lsZ, lsS]
 refine wpAnyH_all (rs := [8]) (by kernel_rfl) (by simp) ?_
 intro i8 hi8
 obtain rfl : i8 = 8 := by simpa using hi8
 refine wpOp_call (o := ⟨some 14, .call { callee := .invoke (.tmp 13) _, args := #[.tmp 10, .tmp 11], argTypes := _ }, _, _, _, none⟩) (f := 207) (args := #[.pointer (some ⟨A, 0, none⟩), .int .i64 i, .slice (some ⟨G, 0, none⟩) 128 128]) rfl rfl (by kernel_rfl) ?_
 refine (Write_ok hdW h0 h1 h2 h3 hoW hk hbW i hi G 130 data hGW hl hone hGA).mono ?_
 rintro e w2 ⟨rfl, cache', hd2, ho2, hf2⟩
 have hS2 : S w2 := hf2.cell (p := ⟨V, 0, none⟩) hvW.c0 (by rintro (e | e); exact hVA e; exact hVc e)
 refine ⟨_, rfl, hS2, ?_⟩
 simp only [Act.put, lsE, lsZ, lsS]
 refine tkE (S := S) (i := 9) (oi := ⟨some 15, .binOp .neq 36 (.tmp 14) (.const .nilIface) 36, _, _, _, none⟩) (v := .bool false) rfl hS2 ?_
 simp only [Act.put, lsE, lsZ, lsS]
 refine wpAnyH_done (by kernel_rfl) ?_ _
 go_wp2
 go_end0
 exact ⟨rfl, cache', hd2, ho2, hfW.trans hf2 (fun _ _ h => h)⟩
end Go.Proofs.YteebjgfalllbjaaGreatDoor
