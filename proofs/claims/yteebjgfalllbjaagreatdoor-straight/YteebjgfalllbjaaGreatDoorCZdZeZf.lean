import Derived.Test.YteebjgfalllbjaaGreatDoorCZaZbZc
import Derived.Test.YteebjgfalllbjaaGreatDoorCVbNeIx
import Derived.Test.YteebjgfalllbjaaGreatDoorCApiReadBs
import Derived.WalkSpells
import Derived.WalkLawsBesides
import Derived.Test.YteebjgfalllbjaaGreatDoorCHeadSecureTry
namespace Go.Proofs.YteebjgfalllbjaaGreatDoor
open Go.RowKit
theorem index_rowsC (B n c a : Nat) (h : a < n) (w : World) : (Instr.indexAt 93 (.slice (some ⟨B, 0, none⟩) n c) (.int .i64 a)).run Tryz.prog w = .ok (.pointer (some ⟨B, a * 128, none⟩)) w := by
 have h' : (a : Int) < n := by omega
 go_simp
set_option maxRecDepth 100000 in
set_option maxHeartbeats 1000000 in
theorem Flush_bad {w : World} {A B n : Nat} {cache : Value} {d : DP} (h : DkAt w A B n cache d) (ho : d.Ok) (hb : d.bad = true) :
  Calls Tryz.prog 205 #[.pointer (some ⟨A, 0, none⟩)] w fun e w' => e = .returned ioV ∧ DkAt w' A B n cache d.next ∧ Fr (· = A) w w' := by
 go_enter Tryz.func205, Tryz.ntmps205
 go_wp2_with fail
 refine (fails_gen h ho).mono ?_
 rintro e w1 ⟨rfl, hd1, hf1, hs1⟩
 rw [hb]
 have HE : Hid (DkAt w1 A B n cache d.next ∧ Fr (· = A) w w1) := ⟨hd1, hf1⟩
 clear hd1 hf1 hs1
 go_wp2
 go_ret
 exact ⟨rfl, HE.out⟩
set_option maxRecDepth 100000 in
set_option maxHeartbeats 1000000 in
theorem Flush_good {w : World} {A B n : Nat} {cache : Value} {d : DP} {bs : List Value} (h : DkAt w A B n cache d) (hm : n ≤ d.cap) (hr : RowsAt w B d.cap bs) (hok : d.Ok) (hbad : d.bad = false)
  {base k : Nat} {ents : List (Nat × List Value)} (hown : w.ownsRow base 101 129 cache k (flat ents)) (hk : k < 1000000) (hk0 : 0 < k) (hl : ∀ p ∈ ents, p.2.length = 128) (ho : ∀ p ∈ ents, ∀ v ∈ p.2, v.oneCell' = true) (hn : ∀ p ∈ ents, p.1 < n) :
  Calls Tryz.prog 205 #[.pointer (some ⟨A, 0, none⟩)] w fun e w' => e = .returned .nilIface ∧
   DkAt w' A B n (.slice none 0 0) d.next ∧ RowsAt w' B d.cap (lain bs ents) ∧ Fr (fun b => b = A ∨ b = B) w w' := by
 obtain ⟨g, cap, rfl, hbg, hglt⟩ := hown.form hk0
 have hel : ents.length = k := by
  have := flat_len ents hl
  rw [hown.1] at this
  omega
 have HEL : Hid (ents.length = k) := hel
 clear hel
 go_enter Tryz.func205, Tryz.ntmps205
 go_wp2_with fail
 refine (fails_gen h hok).mono ?_
 rintro e w1 ⟨rfl, hd1, hf1, hs1⟩
 rw [hbad]
 have hAB : A ≠ B := by
  intro e; subst e
  have := h.symm.trans hr.1
  simp at this
 have hAg : A ≠ g := by
  intro e; subst e
  rcases hown.2 with ⟨hv, _⟩ | ⟨g', cap', cur, hv, hb, hg, _⟩
  ·cases hv
  ·simp only [Value.slice.injEq, Option.some.injEq, Addr.mk.injEq, and_true] at hv
   rw [← hv.1] at hg
   have := h.symm.trans hg
   simp at this
 have hBg : B ≠ g := by
  intro e; subst e
  rcases hown.2 with ⟨hv, _⟩ | ⟨g', cap', cur, hv, hb, hg, _⟩
  ·cases hv
  ·simp only [Value.slice.injEq, Option.some.injEq, Addr.mk.injEq, and_true] at hv
   rw [← hv.1] at hg
   have := hr.1.symm.trans hg
   simp at this
 have hr1 : RowsAt w1 B d.cap bs := ⟨hf1.keep hr.1 hAB.symm, hr.2⟩
 have ho1 : w1.ownsRow base 101 129 (.slice (some ⟨g, 0, none⟩) k cap) k (flat ents) :=
  hown.kept (row := some A) ⟨hf1.os, hf1.tape, hf1.output, hf1.size, fun b hb hn => hf1.block b hb (fun e => hn (by rw [e]))⟩ (by right; simp only [Value.ownBlock]; intro e; exact hAg (by simpa using e.symm))
 have c1 := hd1.c1
 have HI : Hid (DkAt w1 A B n (.slice (some ⟨g, 0, none⟩) k cap) d.next ∧ RowsAt w1 B d.cap (lain bs (ents.take 0)) ∧ w1.ownsRow base 101 129 (.slice (some ⟨g, 0, none⟩) k cap) k (flat ents) ∧ Fr (fun b => b = A ∨ b = B) w w1) := ⟨hd1, by simpa [lain] using hr1, ho1, hf1.mono (fun _ _ => Or.inl)⟩
 clear hd1 hr1 ho1 hf1 hs1
 go_wp2
 go_loopw [13] (fun c wr => ∃ i : Nat, i ≤ k ∧ c = .int .i64 i ∧ Hid (DkAt wr A B n (.slice (some ⟨g, 0, none⟩) k cap) d.next ∧ RowsAt wr B d.cap (lain bs (ents.take i)) ∧ wr.ownsRow base 101 129 (.slice (some ⟨g, 0, none⟩) k cap) k (flat ents) ∧ Fr (fun b => b = A ∨ b = B) w wr)) (fun c _ => k - (intOf c).toNat)
 case atStart => exact ⟨0, Nat.zero_le _, rfl, HI⟩
 case round =>
  obtain ⟨i, hik, rfl, HR⟩ := hrel
  by_cases hlt : i < k
  ·obtain ⟨p, hp⟩ : ∃ p, ents[i]? = some p := by
    have := HEL.out
    exact ⟨_, List.getElem?_eq_getElem (by omega)⟩
   obtain ⟨a, dd⟩ := p
   have hpm : (a, dd) ∈ ents := List.mem_of_getElem? hp
   have hdl : dd.length = 128 := hl _ hpm
   have hdo : ∀ v ∈ dd, v.oneCell' = true := ho _ hpm
   have han : a < n := hn _ hpm
   have hrg := range_own HR.out.2.2.1 hl hp
   have hwl : (Value.int .i64 a :: dd).length = 129 := by simp [hdl]
   have hwo : ∀ v ∈ (Value.int .i64 a :: dd), v.oneCell' = true := fun v hv => by
    rcases List.mem_cons.1 hv with rfl | hv
    ·rfl
    ·exact hdo v hv
   have hki : (i : Int) < k := by omega
   go_wp2_with (first
    | (refine wpList_load_mid rfl 101 (.tmp 15) rfl g (i * 129) ?_ (Value.int .i64 a :: dd) _ hrg Tryz.underlying101 rfl ?_ ?_; rfl; (rw [write_size, hwl]))
    | (refine wpList_alloc 101 (v := .pointer (some ⟨wr.heap.size, 0, none⟩)) (w' := wr.alloc (.cells (wz (.int .i64 0)) 101)) rfl rfl ?_ ?_; exact alloc_write wr)
    | (refine wpList_store 101 (w' := wr.alloc (.cells (Value.int .i64 a :: dd).toArray 101)) (.tmp 4) (.tmp 16) rfl rfl ?_ ?_; exact store_write' _ hwl hwo wr))
   try go_simp
   have hlift : Tryz.prog.follows .mixedOrders = true := by kernel_rfl
   obtain ⟨hd2, hr2, ho2, hf2⟩ := HR.out
   obtain ⟨W, HW⟩ : ∃ W, Hid (W = (wr.alloc (.cells (Value.int .i64 a :: dd).toArray 101)).drew) := ⟨_, rfl⟩
   obtain ⟨G, HG⟩ : ∃ G, Hid (G = wr.heap.size) := ⟨_, rfl⟩
   have hGW : W.heap[G]? = some (.cells (Value.int .i64 a :: dd).toArray 101 (0, 0)) := by rw [HW.out, HG.out]; exact heap_alloc_at _ _
   have hdW : DkAt W A B n (.slice (some ⟨g, 0, none⟩) k cap) d.next := by rw [HW.out]; exact (hd2.alloc _).drew
   have hrW : RowsAt W B d.cap (lain bs (ents.take i)) := by
    rw [HW.out]; refine ⟨?_, hr2.2⟩; rw [heap_drew', heap_alloc_lt _ _ _ (lt_of_heap hr2.1)]; exact hr2.1
   have hGB : G ≠ B := by have := lt_of_heap hr2.1; have := HG.out; omega
   have hfW : Fr (fun b => b = A ∨ b = B) w W := by rw [HW.out]; exact (hf2.alloc _).drew
   have hoW : W.ownsRow base 101 129 (.slice (some ⟨g, 0, none⟩) k cap) k (flat ents) := by rw [HW.out]; exact ho2.alloc _
   clear hd2 hr2 ho2 hf2
   rw [← HG.out]
   let S : World → Prop := fun w' => w'.cell? ⟨A, 0, none⟩ = some (.slice (some ⟨B, 0, none⟩) n d.cap) ∧ w'.cell? ⟨G, 0, none⟩ = some (.int .i64 a) ∧ w'.rangeAt G 1 dd
   have hS : S W := ⟨hdW.c0, by rw [cell_of_row W G 0 _ _ _ hGW]; rfl, fun j v hv => by rw [cell_of_row W G (1 + j) _ _ _ hGW, Nat.add_comm]; simpa using hv⟩
   have hS' : S (W.setRow B (splice (lain bs (ents.take i)) (a * 128) dd).toArray) := by
    refine ⟨by rw [cell_setRow_other _ _ _ _ hAB]; exact hS.1, by rw [cell_setRow_other _ _ _ _ hGB]; exact hS.2.1, fun j v hv => by rw [cell_setRow_other _ _ _ _ hGB]; exact hS.2.2 j v hv⟩
   have hstore := run_storeAt_row (P := Tryz.prog) (o := a * 128) (ty := 97) (vs := dd) hrW.1 (by rw [hdl, hrW.2.1]; omega) hdo (by rw [arr_size, hdl])
   refine wp_region_held (S := S) hlift ?_
   change wpAnyH _ _ _ _ S _ _ _ (World.drew _)
   rw [← HW.out]
   refine tkE (S := S) (i := 0) (oi := ⟨some 17, .move (.tmp 0), _, _, _, none⟩) (v := .pointer (some ⟨A, 0, none⟩)) rfl hS ?_
   simp only [Act.put, lsE, lsZ, lsS]
   refine tkE (S := S) (i := 1) (oi := ⟨some 18, .nilCheck (.tmp 17), _, _, _, none⟩) (v := .pointer (some ⟨A, 0, none⟩)) rfl hS ?_
   simp only [Act.put, lsE, lsZ, lsS]
   refine tkE (S := S) (i := 2) (oi := ⟨some 19, .fieldAddr 96 (.tmp 18) 0, _, _, _, none⟩) (v := .pointer (some ⟨A, 0, none⟩)) rfl hS ?_
   simp only [Act.put, lsE, lsZ, lsS]
   refine tkY (S := S) (i := 3) (oi := ⟨some 20, .load 93 (.tmp 19), _, _, _, none⟩) (v := .slice (some ⟨B, 0, none⟩) n d.cap) rfl (Or.inl ⟨rfl, fun w' hs => exec_load 93 (.tmp 19) rfl ⟨A, 0, none⟩ rfl (run_loadAt_one hs.1 Tryz.underlying93 rfl)⟩) hS ?_
   simp only [Act.put, lsE, lsZ, lsS]
   refine tkE (S := S) (i := 4) (oi := ⟨some 21, .fieldAddr 101 (.tmp 4) 0, _, _, _, none⟩) (v := .pointer (some ⟨G, 0, none⟩)) rfl hS ?_
   simp only [Act.put, lsE, lsZ, lsS]
   refine tkY (S := S) (i := 5) (oi := ⟨some 22, .load 3 (.tmp 21), _, _, _, none⟩) (v := .int .i64 a) rfl (Or.inl ⟨rfl, fun w' hs => exec_load 3 (.tmp 21) rfl ⟨G, 0, none⟩ rfl (run_loadAt_one hs.2.1 Tryz.underlying3 rfl)⟩) hS ?_
   simp only [Act.put, lsE, lsZ, lsS]
   refine tkE (S := S) (i := 6) (oi := ⟨some 23, .fieldAddr 101 (.tmp 4) 1, _, _, _, none⟩) (v := .pointer (some ⟨G, 1, none⟩)) rfl hS ?_
   simp only [Act.put, lsE, lsZ, lsS]
   refine tkY (S := S) (i := 7) (oi := ⟨some 24, .load 97 (.tmp 23), _, _, _, none⟩) (v := .agg dd.toArray) rfl (Or.inl ⟨rfl, fun w' hs => exec_load 97 (.tmp 23) rfl ⟨G, 1, none⟩ rfl (run_loadAt_mid w' G 1 97 dd _ hs.2.2 Tryz.underlying97 rfl (by rw [arr_size, hdl]))⟩) hS ?_
   simp only [Act.put, lsE, lsZ, lsS]
   refine tkY (S := S) (i := 8) (oi := ⟨some 25, .indexAddr 93 (.tmp 20) (.tmp 22), _, _, _, none⟩) (v := .pointer (some ⟨B, a * 128, none⟩)) rfl (Or.inl ⟨rfl, fun w' _ => exec_indexAddr 93 (.tmp 20) (.tmp 22) rfl (by rfl) (by rfl) (index_rowsC B n d.cap a han w')⟩) hS ?_
   simp only [Act.put, lsE, lsZ, lsS]
   refine wpAnyH_all (rs := [9]) (by kernel_rfl) (by simp) ?_
   intro i5 hi5
   obtain rfl : i5 = 9 := by simpa using hi5
   refine wpOp_skip (o := ⟨none, .store 97 (.tmp 25) (.tmp 24), _, _, _, none⟩) rfl rfl (exec_store 97 (.tmp 25) (.tmp 24) rfl ⟨B, a * 128, none⟩ (.agg dd.toArray) (by rfl) (by rfl) hstore) ⟨hS', ?_⟩
   simp only [Act.put]
   refine wpAnyH_done (by kernel_rfl) ?_ _
   clear hS hS' hstore
   have HN : Hid (DkAt (W.setRow B (splice (lain bs (ents.take i)) (a * 128) dd).toArray) A B n (.slice (some ⟨g, 0, none⟩) k cap) d.next ∧ RowsAt (W.setRow B (splice (lain bs (ents.take i)) (a * 128) dd).toArray) B d.cap (lain bs (ents.take (i + 1))) ∧ (W.setRow B (splice (lain bs (ents.take i)) (a * 128) dd).toArray).ownsRow base 101 129 (.slice (some ⟨g, 0, none⟩) k cap) k (flat ents) ∧ Fr (fun b => b = A ∨ b = B) w (W.setRow B (splice (lain bs (ents.take i)) (a * 128) dd).toArray)) := by
    refine ⟨by unfold DkAt; rw [setRow_other _ _ _ _ hAB]; exact hdW, by rw [lain_take bs ents i _ hp]; exact hrW.splice a (Nat.lt_of_lt_of_le han hm) dd hdl hdo, ?_, hfW.setRow _ (fun _ => Or.inr rfl) _⟩
    exact hoW.kept (row := some B) ⟨rfl, rfl, rfl, by simp, fun b _ hb => setRow_other _ _ _ _ (fun e => hb (by rw [e]))⟩ (by right; simp only [Value.ownBlock]; intro e; exact hBg (by simpa using e.symm))
   generalize W.setRow B (splice (lain bs (ents.take i)) (a * 128) dd).toArray = WN at *
   clear hGW hdW hrW hfW hoW hrg
   go_wp2
   go_roundw
   case rel => exact ⟨i + 1, by omega, by go_num, HN⟩
   case measure => simp [intOf]; omega
  ·obtain ⟨hd2, hr2, ho2, hf2⟩ := HR.out
   have f1 := hd2.fz 1
   have c12 := hd2.c1
   clear hr2 ho2 hf2 hd2
   go_wp2
   go_ret
   obtain ⟨hd2, hr2, ho2, hf2⟩ := HR.out
   have hi : i = k := by omega
   have e2 : ents.take i = ents := List.take_of_length_le (by rw [HEL.out]; omega)
   rw [e2] at hr2
   exact ⟨rfl, hd2.set1 _, ⟨by rw [heap_setCell_ne _ _ _ _ hAB.symm]; exact hr2.1, hr2.2⟩, hf2.setCell _ (fun _ => Or.inl rfl) _⟩
end Go.Proofs.YteebjgfalllbjaaGreatDoor
namespace Go.Proofs.YteebjgfalllbjaaGreatDoor
open Go.RowKit
set_option maxRecDepth 100000 in
set_option maxHeartbeats 1000000 in
theorem iSmall_ok (i : Nat) (hi : i < 100) (w : World) : Calls Tryz.prog 175 #[.int .i64 i] w fun e w' => (∃ s, e = .returned (.string s) ∧ s.size ≤ 100) ∧ w' = w := by
 by_cases h : i < 10
 ·have h' : (i : Int) < 10 := by omega
  go_enter Tryz.func175, Tryz.ntmps175
  go_wp2
  go_ret
  exact ⟨⟨_, rfl, by simp [ByteArray.size_extract]; omega⟩, rfl⟩
 ·have h' : ¬ (i : Int) < 10 := by omega
  go_enter Tryz.func175, Tryz.ntmps175
  go_wp2
  go_ret
  exact ⟨⟨_, rfl, by simp [ByteArray.size_extract]; omega⟩, rfl⟩
set_option maxRecDepth 100000 in
theorem FormatInt_small (i : Nat) (hi : i < 100) (w : World) : Calls Tryz.prog 170 #[.int .i64 i, .int .i64 10] w fun e w' => (∃ s, e = .returned (.string s) ∧ s.size ≤ 100) ∧ w' = w := by
 have h0 : decide ((0 : Int) ≤ i) = true := by simp
 have h1 : decide ((i : Int) < 100) = true := by simp; omega
 have HS := iSmall_ok i hi w
 go_enter Tryz.func170, Tryz.ntmps170
 go_wp2_with fail
 refine HS.mono ?_
 rintro e w' ⟨⟨s, rfl, hsz⟩, rfl⟩
 go_wp2
 go_ret
 exact ⟨⟨_, rfl, hsz⟩, rfl⟩
set_option maxRecDepth 100000 in
theorem Itoa_small (i : Nat) (hi : i < 100) (w : World) : Calls Tryz.prog 143 #[.int .i64 i] w fun e w' => (∃ s, e = .returned (.string s) ∧ s.size ≤ 100) ∧ w' = w := by
 have HS := FormatInt_small i hi w
 have HI : Calls Tryz.prog 160 #[.int .i64 i] w fun e w' => (∃ s, e = .returned (.string s) ∧ s.size ≤ 100) ∧ w' = w := by
  go_enter Tryz.func160, Tryz.ntmps160
  go_wp2_with fail
  refine HS.mono ?_
  rintro e w' ⟨⟨s, rfl, hsz⟩, rfl⟩
  go_wp2
  go_ret
  exact ⟨⟨_, rfl, hsz⟩, rfl⟩
 clear HS
 go_enter Tryz.func143, Tryz.ntmps143
 go_wp2_with fail
 refine HI.mono ?_
 rintro e w' ⟨⟨s, rfl, hsz⟩, rfl⟩
 go_wp2
 go_ret
 exact ⟨⟨_, rfl, hsz⟩, rfl⟩
end Go.Proofs.YteebjgfalllbjaaGreatDoor
namespace Go.Proofs.YteebjgfalllbjaaGreatDoor
open Go.RowKit
theorem VolAt.neK {w : World} {V A B n m : Nat} {c : Value} {d : DP} (h : VolAt w V A n) (hd : DkAt w m B n c d) : V ≠ m := by
 intro e; subst e
 have := h.symm.trans hd
 simp at this
def TrAt (w : World) (g : Nat) : Prop := ∃ f s, w.heap[g]? = some (.cells #[.pointer (some ⟨f, 0, none⟩)] 262 (0, 0)) ∧ w.heap[f]? = some (.cells #[.string s, ioV] 119 (0, 0))
theorem TrAt.fr {S : Nat → Prop} {w w' : World} {g : Nat} (h : TrAt w g) (hf : Fr S w w') (hS : ∀ b c t, w.heap[b]? = some (.cells c t (0, 0)) → t = 262 ∨ t = 119 → ¬ S b) : TrAt w' g := by
 obtain ⟨f, s, h1, h2⟩ := h
 exact ⟨f, s, hf.keep h1 (hS _ _ _ h1 (.inl rfl)), hf.keep h2 (hS _ _ _ h2 (.inr rfl))⟩
set_option maxRecDepth 100000 in
theorem throw_ok (s : ByteArray) (w : World) : Calls Tryz.prog 142 #[.string s] w fun e w' => ∃ g, e = .panicked [{ v := .iface 258 (.pointer (some ⟨g, 0, none⟩)), recovered := false }] ∧ TrAt w' g ∧ Fr (fun _ => False) w w' := by
 have h1 : ((w.alloc (.cells #[.string s, ioV] 119)).alloc (.cells #[.pointer (some ⟨w.heap.size, 0, none⟩)] 262)).heap[w.heap.size + 1]? = some (.cells #[.pointer (some ⟨w.heap.size, 0, none⟩)] 262 (0, 0)) := heap_alloc2_new w _ _
 have h2 : ((w.alloc (.cells #[.string s, ioV] 119)).alloc (.cells #[.pointer (some ⟨w.heap.size, 0, none⟩)] 262)).heap[w.heap.size]? = some (.cells #[.string s, ioV] 119 (0, 0)) := by
  rw [heap_alloc_lt _ _ _ (by simp)]; exact heap_alloc_at _ _
 have HT : Hid (TrAt ((w.alloc (.cells #[.string s, ioV] 119)).alloc (.cells #[.pointer (some ⟨w.heap.size, 0, none⟩)] 262)) (w.heap.size + 1)) := ⟨_, _, h1, h2⟩
 have HF : Hid (Fr (fun _ => False) w ((w.alloc (.cells #[.string s, ioV] 119)).alloc (.cells #[.pointer (some ⟨w.heap.size, 0, none⟩)] 262))) := ((Fr.refl _ _).alloc _).alloc _
 clear h1 h2
 unfold ioV at *
 go_enter Tryz.func142, Tryz.ntmps142
 go_wp2
 exact ⟨rfl, _, rfl, HT.out, HF.out⟩
set_option maxRecDepth 100000 in
set_option maxHeartbeats 1000000 in
theorem Store_good {w : World} {V A B n : Nat} {cache : Value} {d : DP} (hv : VolAt w V A n) (h : DkAt w A B n cache d) (hok : d.Ok) (hbad : d.bad = false)
  {base k : Nat} {xs : List Value} (hown : w.ownsRow base 101 129 cache k xs) (hk : k < 1000000) (hbase : base ≤ w.heap.size)
  (i : Nat) (hi : i < n) (data : List Value) (hl : data.length = 128) (hone : ∀ v ∈ data, v.oneCell' = true) :
  Calls Tryz.prog 94 #[.pointer (some ⟨V, 0, none⟩), .int .i64 i, .agg data.toArray] w fun e w' => e = .returned (.tuple #[]) ∧
   ∃ cache', DkAt w' A B n cache' d.next.wrote ∧ w'.ownsRow base 101 129 cache' (k + 1) (xs ++ (.int .i64 i :: data)) ∧ CB w cache cache' ∧ Fr (fun b => b = A ∨ cache.ownBlock = some b) w w' := by
 have hVA := hv.neK h
 have hVc : cache.ownBlock ≠ some V := by
  intro e
  rcases hown.2 with ⟨rfl, _⟩ | ⟨g, cap, cur, rfl, hb, hg, _⟩
  ·simp [Value.ownBlock] at e
  ·simp only [Value.ownBlock, Option.some.injEq] at e
   subst e
   have := hv.symm.trans hg
   simp at this
 have hVl := lt_of_heap hv
 have hAl := h.lt
 go_enter Tryz.func94, Tryz.ntmps94
 go_wp2_with (refine wpList_box 130 (.tmp 2) (v := .pointer (some ⟨w.heap.size, 0, none⟩)) (w' := w.alloc (.cells data.toArray 130)) rfl rfl ?_ ?_; exact box_block data w)
 try go_simp
 have hlift : Tryz.prog.follows .mixedOrders = true := by kernel_rfl
 obtain ⟨W, HW⟩ : ∃ W, Hid (W = (w.alloc (.cells data.toArray 130)).drew) := ⟨_, rfl⟩
 obtain ⟨G, HG⟩ : ∃ G, Hid (G = w.heap.size) := ⟨_, rfl⟩
 have hGA : G ≠ A := by have := HG.out; omega
 have hGW : W.heap[G]? = some (.cells data.toArray 130 (0, 0)) := by rw [HW.out, HG.out]; exact heap_alloc_at _ _
 have hdW : DkAt W A B n cache d := by rw [HW.out]; exact (h.alloc _).drew
 have hvW : VolAt W V A n := by rw [HW.out]; unfold VolAt; rw [heap_drew', heap_alloc_lt _ _ _ hVl]; exact hv
 have hoW : W.ownsRow base 101 129 cache k xs := by rw [HW.out]; exact hown.alloc _
 have hfW : Fr (fun b => b = A ∨ cache.ownBlock = some b) w W := by rw [HW.out]; exact ((Fr.refl _ _).alloc _).drew
 have hbW : base ≤ W.heap.size := Nat.le_trans hbase hfW.size
 rw [← HG.out]
 let S : World → Prop := fun w' => w'.cell? ⟨V, 0, none⟩ = some (.iface 31 (.pointer (some ⟨A, 0, none⟩)))
 have hS : S W := hvW.c0
 refine wp_region_held (S := S) hlift ?_
 change wpAnyH _ _ _ _ S _ _ _ (World.drew _)
 rw [← HW.out]
 refine tkE (S := S) (i := 0) (oi := ⟨some 6, .move (.tmp 0), _, _, _, none⟩) (v := .pointer (some ⟨V, 0, none⟩)) rfl hS ?_
 simp only [Act.put, lsE, lsZ, lsS]
 refine tkE (S := S) (i := 1) (oi := ⟨some 7, .nilCheck (.tmp 6), _, _, _, none⟩) (v := .pointer (some ⟨V, 0, none⟩)) rfl hS ?_
 simp only [Act.put, lsE, lsZ, lsS]
 refine tkE (S := S) (i := 2) (oi := ⟨some 8, .fieldAddr 212 (.tmp 7) 0, _, _, _, none⟩) (v := .pointer (some ⟨V, 0, none⟩)) rfl hS ?_
 simp only [Act.put, lsE, lsZ, lsS]
 refine tkY (S := S) (i := 3) (oi := ⟨some 9, .load 154 (.tmp 8), _, _, _, none⟩) (v := .iface 31 (.pointer (some ⟨A, 0, none⟩))) rfl (Or.inl ⟨rfl, fun w' hs => exec_load 154 (.tmp 8) rfl ⟨V, 0, none⟩ rfl (run_loadAt_one hs Tryz.underlying154 rfl)⟩) hS ?_
 simp only [Act.put, lsE, lsZ, lsS]
 refine tkE (S := S) (i := 4) (oi := ⟨some 10, .move (.tmp 1), _, _, _, none⟩) (v := .int .i64 i) rfl hS ?_
 simp only [Act.put, lsE, lsZ, lsS]
 refine tkE (S := S) (i := 6) (oi := ⟨some 12, .nilCheck (.tmp 9), _, _, _, none⟩) (v := .iface 31 (.pointer (some ⟨A, 0, none⟩))) rfl hS ?_
 simp only [Act.put, lsE, lsZ, lsS]
 refine tkE (S := S) (i := 7) (oi := ⟨some 13, .move (.tmp 9), _, _, _, none⟩) (v := .iface 31 (.pointer (some ⟨A, 0, none⟩))) rfl hS ?_
 simp only [Act.put, lsE, lsZ, lsS]
 refine wpAnyH_all (rs := [5]) (by kernel_rfl) (by simp) ?_
 intro i5 hi5
 obtain rfl : i5 = 5 := by simpa using hi5
 refine wpOp_call (o := ⟨some 11, .call { callee := .value (.func 141), args := #[.tmp 5, .const (.int .i64 0), .const (.int .i64 128)], argTypes := _ }, _, _, _, none⟩) (f := 141) (args := #[.pointer (some ⟨G, 0, none⟩), .int .i64 0, .int .i64 128]) rfl rfl (by kernel_rfl) ?_
 refine (Part0_ok W G).mono ?_
 rintro e w' ⟨rfl, rfl⟩
 refine ⟨_, rfl, hS, ?_⟩
 simp only [Act.put, lsE, lsZ, lsS]
 refine wpAnyH_all (rs := [8]) (by kernel_rfl) (by simp) ?_
 intro i8 hi8
 obtain rfl : i8 = 8 := by simpa using hi8
 refine wpOp_call (o := ⟨some 14, .call { callee := .invoke (.tmp 13) _, args := #[.tmp 10, .tmp 11], argTypes := _ }, _, _, _, none⟩) (f := 207) (args := #[.pointer (some ⟨A, 0, none⟩), .int .i64 i, .slice (some ⟨G, 0, none⟩) 128 128]) rfl rfl (by kernel_rfl) ?_
 refine (Write_good hdW hok hbad hoW hk hbW i hi G 130 data hGW hl hone hGA).mono ?_
 rintro e w2 ⟨rfl, cache', hd2, ho2, hcb, hf2⟩
 have hS2 : S w2 := hf2.cell (p := ⟨V, 0, none⟩) hvW.c0 (by rintro (e | e); exact hVA e; exact hVc e)
 refine ⟨_, rfl, hS2, ?_⟩
 simp only [Act.put, lsE, lsZ, lsS]
 refine tkE (S := S) (i := 9) (oi := ⟨some 15, .binOp .neq 36 (.tmp 14) (.const .nilIface) 36, _, _, _, none⟩) (v := .bool false) rfl hS2 ?_
 simp only [Act.put, lsE, lsZ, lsS]
 refine wpAnyH_done (by kernel_rfl) ?_ _
 go_wp2
 go_end0
 exact ⟨rfl, cache', hd2, ho2, fun b hb => (hcb b hb).imp_right (fun h => Nat.le_trans hfW.size h), hfW.trans hf2 (fun _ _ h => h)⟩
set_option maxRecDepth 100000 in
set_option maxHeartbeats 1000000 in
theorem Store_bad {w : World} {V A B n : Nat} {cache : Value} {d : DP} (hv : VolAt w V A n) (h : DkAt w A B n cache d) (hok : d.Ok) (hbad : d.bad = true)
  (i : Nat) (data : List Value)
  (HI : ∀ W, Fr (· = A) w W → Calls Tryz.prog 143 #[.int .i64 i] W fun e w' => (∃ s, e = .returned (.string s) ∧ s.size ≤ 100) ∧ Fr (fun _ => False) W w') :
  Calls Tryz.prog 94 #[.pointer (some ⟨V, 0, none⟩), .int .i64 i, .agg data.toArray] w fun e w' => ∃ g, e = .panicked [{ v := .iface 258 (.pointer (some ⟨g, 0, none⟩)), recovered := false }] ∧ TrAt w' g ∧ DkAt w' A B n cache d.next ∧ Fr (· = A) w w' := by
 have hVl := lt_of_heap hv
 go_enter Tryz.func94, Tryz.ntmps94
 go_wp2_with (refine wpList_box 130 (.tmp 2) (v := .pointer (some ⟨w.heap.size, 0, none⟩)) (w' := w.alloc (.cells data.toArray 130)) rfl rfl ?_ ?_; exact box_block data w)
 try go_simp
 have hlift : Tryz.prog.follows .mixedOrders = true := by kernel_rfl
 obtain ⟨W, HW⟩ : ∃ W, Hid (W = (w.alloc (.cells data.toArray 130)).drew) := ⟨_, rfl⟩
 obtain ⟨G, HG⟩ : ∃ G, Hid (G = w.heap.size) := ⟨_, rfl⟩
 have hdW : DkAt W A B n cache d := by rw [HW.out]; exact (h.alloc _).drew
 have hvW : VolAt W V A n := by rw [HW.out]; unfold VolAt; rw [heap_drew', heap_alloc_lt _ _ _ hVl]; exact hv
 have hfW : Fr (fun _ => False) w W := by rw [HW.out]; exact ((Fr.refl _ _).alloc _).drew
 rw [← HG.out]
 let S : World → Prop := fun w' => w'.cell? ⟨V, 0, none⟩ = some (.iface 31 (.pointer (some ⟨A, 0, none⟩)))
 have hS : S W := hvW.c0
 refine wp_region_held (S := S) hlift ?_
 change wpAnyH _ _ _ _ S _ _ _ (World.drew _)
 rw [← HW.out]
 refine tkE (S := S) (i := 0) (oi := ⟨some 6, .move (.tmp 0), _, _, _, none⟩) (v := .pointer (some ⟨V, 0, none⟩)) rfl hS ?_
 simp only [Act.put, lsE, lsZ, lsS]
 refine tkE (S := S) (i := 1) (oi := ⟨some 7, .nilCheck (.tmp 6), _, _, _, none⟩) (v := .pointer (some ⟨V, 0, none⟩)) rfl hS ?_
 simp only [Act.put, lsE, lsZ, lsS]
 refine tkE (S := S) (i := 2) (oi := ⟨some 8, .fieldAddr 212 (.tmp 7) 0, _, _, _, none⟩) (v := .pointer (some ⟨V, 0, none⟩)) rfl hS ?_
 simp only [Act.put, lsE, lsZ, lsS]
 refine tkY (S := S) (i := 3) (oi := ⟨some 9, .load 154 (.tmp 8), _, _, _, none⟩) (v := .iface 31 (.pointer (some ⟨A, 0, none⟩))) rfl (Or.inl ⟨rfl, fun w' hs => exec_load 154 (.tmp 8) rfl ⟨V, 0, none⟩ rfl (run_loadAt_one hs Tryz.underlying154 rfl)⟩) hS ?_
 simp only [Act.put, lsE, lsZ, lsS]
 refine tkE (S := S) (i := 4) (oi := ⟨some 10, .move (.tmp 1), _, _, _, none⟩) (v := .int .i64 i) rfl hS ?_
 simp only [Act.put, lsE, lsZ, lsS]
 refine tkE (S := S) (i := 6) (oi := ⟨some 12, .nilCheck (.tmp 9), _, _, _, none⟩) (v := .iface 31 (.pointer (some ⟨A, 0, none⟩))) rfl hS ?_
 simp only [Act.put, lsE, lsZ, lsS]
 refine tkE (S := S) (i := 7) (oi := ⟨some 13, .move (.tmp 9), _, _, _, none⟩) (v := .iface 31 (.pointer (some ⟨A, 0, none⟩))) rfl hS ?_
 simp only [Act.put, lsE, lsZ, lsS]
 refine wpAnyH_all (rs := [5]) (by kernel_rfl) (by simp) ?_
 intro i5 hi5
 obtain rfl : i5 = 5 := by simpa using hi5
 refine wpOp_call (o := ⟨some 11, .call { callee := .value (.func 141), args := #[.tmp 5, .const (.int .i64 0), .const (.int .i64 128)], argTypes := _ }, _, _, _, none⟩) (f := 141) (args := #[.pointer (some ⟨G, 0, none⟩), .int .i64 0, .int .i64 128]) rfl rfl (by kernel_rfl) ?_
 refine (Part0_ok W G).mono ?_
 rintro e w' ⟨rfl, rfl⟩
 refine ⟨_, rfl, hS, ?_⟩
 simp only [Act.put, lsE, lsZ, lsS]
 refine wpAnyH_all (rs := [8]) (by kernel_rfl) (by simp) ?_
 intro i8 hi8
 obtain rfl : i8 = 8 := by simpa using hi8
 refine wpOp_call (o := ⟨some 14, .call { callee := .invoke (.tmp 13) _, args := #[.tmp 10, .tmp 11], argTypes := _ }, _, _, _, none⟩) (f := 207) (args := #[.pointer (some ⟨A, 0, none⟩), .int .i64 i, .slice (some ⟨G, 0, none⟩) 128 128]) rfl rfl (by kernel_rfl) ?_
 refine (Write_bad hdW hok hbad _ _).mono ?_
 rintro e w2 ⟨rfl, hd2, hf2⟩
 have hS2 : S w2 := hf2.cell hvW.c0 (hvW.neK hdW)
 refine ⟨_, rfl, hS2, ?_⟩
 simp only [Act.put, lsE, lsZ, lsS]
 refine tkE (S := S) (i := 9) (oi := ⟨some 15, .binOp .neq 36 (.tmp 14) (.const .nilIface) 36, _, _, _, none⟩) (v := .bool true) rfl hS2 ?_
 simp only [Act.put, lsE, lsZ, lsS]
 refine wpAnyH_done (by kernel_rfl) ?_ _
 have HF2 : Hid (DkAt w2 A B n cache d.next ∧ Fr (· = A) w w2) := ⟨hd2, (hfW.mono (fun _ _ h => h.elim)).trans hf2 (fun _ _ h => h)⟩
 clear hS2 hd2 hf2 hS hvW hdW hfW
 go_wp2_with fail
 refine (HI w2 HF2.out.2).mono ?_
 rintro e w3 ⟨⟨s, rfl, hsz⟩, hf3⟩
 go_wp2_with fail
 refine (throw_ok _ w3).mono ?_
 rintro e w4 ⟨g, rfl, ht, hf4⟩
 have hf24 := hf3.trans hf4 (fun _ _ h => h)
 exact ⟨rfl, g, rfl, ht, HF2.out.1.fr hf24 (fun h => h), HF2.out.2.trans (hf24.mono (fun _ _ h => h.elim)) (fun _ _ h => h)⟩
set_option maxRecDepth 100000 in
set_option maxHeartbeats 1000000 in
theorem Secure_good {w : World} {V A B n : Nat} {cache : Value} {d : DP} {bs : List Value} (hv : VolAt w V A n) (h : DkAt w A B n cache d) (hm : n ≤ d.cap) (hr : RowsAt w B d.cap bs) (hok : d.Ok) (hbad : d.bad = false)
  {base k : Nat} {ents : List (Nat × List Value)} (hown : w.ownsRow base 101 129 cache k (flat ents)) (hk : k < 1000000) (hk0 : 0 < k) (hl : ∀ p ∈ ents, p.2.length = 128) (ho : ∀ p ∈ ents, ∀ v ∈ p.2, v.oneCell' = true) (hn : ∀ p ∈ ents, p.1 < n) :
  Calls Tryz.prog 95 #[.pointer (some ⟨V, 0, none⟩)] w fun e w' => e = .returned (.tuple #[]) ∧
   DkAt w' A B n (.slice none 0 0) d.next ∧ RowsAt w' B d.cap (lain bs ents) ∧ Fr (fun b => b = A ∨ b = B) w w' := by
 have c0 := hv.c0
 have mf := method_Flush
 go_enter Tryz.func95, Tryz.ntmps95
 go_wp2_with fail
 refine (Flush_good h hm hr hok hbad hown hk hk0 hl ho hn).mono ?_
 rintro e w2 ⟨rfl, hd2, hr2, hf2⟩
 go_wp2
 go_end0
 exact ⟨rfl, hd2, hr2, hf2⟩

set_option maxRecDepth 100000 in
set_option maxHeartbeats 1000000 in
theorem Secure_bad {w : World} {V A B n : Nat} {cache : Value} {d : DP} (hv : VolAt w V A n) (h : DkAt w A B n cache d) (hok : d.Ok) (hbad : d.bad = true) :
  Calls Tryz.prog 95 #[.pointer (some ⟨V, 0, none⟩)] w fun e w' => ∃ g, e = .panicked [{ v := .iface 258 (.pointer (some ⟨g, 0, none⟩)), recovered := false }] ∧ TrAt w' g ∧ DkAt w' A B n cache d.next ∧ Fr (· = A) w w' := by
 have c0 := hv.c0
 have mf := method_Flush
 go_enter Tryz.func95, Tryz.ntmps95
 go_wp2_with fail
 refine (Flush_bad h hok hbad).mono ?_
 rintro e w2 ⟨rfl, hd2, hf2⟩
 have HF2 : Hid (DkAt w2 A B n cache d.next ∧ Fr (· = A) w w2) := ⟨hd2, hf2⟩
 clear hd2 hf2
 unfold ioV
 go_wp2_with fail
 refine (throw_ok _ w2).mono ?_
 rintro e w4 ⟨g, rfl, ht, hf4⟩
 exact ⟨rfl, g, rfl, ht, HF2.out.1.fr hf4 (fun h => h), HF2.out.2.trans (hf4.mono (fun _ _ h => h.elim)) (fun _ _ h => h)⟩
theorem lain_oneC {bs : List Value} (hb : ∀ v ∈ bs, v.oneCell' = true) : ∀ (ents : List (Nat × List Value)), (∀ p ∈ ents, ∀ v ∈ p.2, v.oneCell' = true) → ∀ v ∈ lain bs ents, v.oneCell' = true := by
 intro ents
 induction ents generalizing bs with
 | nil => intro _ v hv; exact hb v hv
 | cons p l ih =>
  intro h v hv
  refine ih (bs := splice bs (p.1 * 128) p.2) (fun u hu => ?_) (fun q hq => h q (by simp [hq])) v hv
  rcases mem_splice hu with hu | hu
  ·exact hb u hu
  ·exact h p (by simp) u hu
set_option maxRecDepth 100000 in
set_option maxHeartbeats 1000000 in
theorem Load_good {w : World} {V A B n : Nat} {cache : Value} {d : DP} {bs : List Value} (hv : VolAt w V A n) (h : DkAt w A B n cache d) (hok : d.Ok) (hbad : d.bad = false) (hm : n ≤ d.cap) (hr : RowsAt w B d.cap bs) {base k : Nat} {ents : List (Nat × List Value)} (hE : EnqAt w base k n cache ents) (i : Nat) (hi : i < n) :
  Calls Tryz.prog 112 #[.pointer (some ⟨V, 0, none⟩), .int .i64 i] w fun e w' => e = .returned (.agg (blkOf (lain bs ents) i).toArray) ∧ DkAt w' A B n cache d.next ∧ Fr (· = A) w w' := by
 have hcl : (blkOf (lain bs ents) i).length = 128 := blk_len (lain_len hr.2.1 ents hE.l (fun p hp => Nat.lt_of_lt_of_le (hE.n p hp) hm)) (Nat.lt_of_lt_of_le hi hm)
 have hone' : ∀ v ∈ blkOf (lain bs ents) i, v.oneCell' = true := fun v hv => lain_oneC hr.2.2 ents hE.one v (List.mem_of_mem_drop (List.mem_of_mem_take hv))
 have hAl := h.lt
 have hVl := lt_of_heap hv
 have mr := method_Read
 have hv1 : VolAt (w.alloc (.cells z128 130)) V A n := by unfold VolAt; rw [heap_alloc_lt _ _ _ hVl]; exact hv
 have hr1 : RowsAt (w.alloc (.cells z128 130)) B d.cap bs := ⟨by rw [heap_alloc_lt _ _ _ (lt_of_heap hr.1)]; exact hr.1, hr.2⟩
 have hE1 : EnqAt (w.alloc (.cells z128 130)) base k n cache ents := hE.fr ((Fr.refl (fun _ => False) _).alloc _) (fun _ _ _ _ h => h)
 have c0 := hv1.c0
 go_enter Tryz.func112, Tryz.ntmps112
 go_wp2_with (first
  | (refine wpList_alloc 130 (v := .pointer (some ⟨w.heap.size, 0, none⟩)) (w' := w.alloc (.cells z128 130)) rfl rfl ?_ ?_; exact alloc_block w))
 refine (Read_good (h.alloc _) hok hbad hm hr1 hE1 i hi).mono ?_
 rintro e w2 ⟨rfl, hb2, hd2, hf2⟩
 obtain ⟨cs, HCS⟩ : ∃ cs, Hid (cs = blkOf (lain bs ents) i) := ⟨_, rfl⟩
 rw [← HCS.out] at hcl hone' hb2
 have hN : w2.heap[w.heap.size]? = some (.cells z128 130 (0, 0)) := hf2.keep (heap_alloc_at w _) (by omega)
 have hF : Fr (· = A) w w2 := ((Fr.refl _ _).alloc _).trans hf2 (fun _ _ h => h)
 simp only [World.size_alloc] at hb2
 have hL1 : w.heap.size + 1 < w2.heap.size := lt_of_heap hb2
 obtain ⟨M, HM⟩ : ∃ M, Hid (M = w2.heap.size) := ⟨_, rfl⟩
 go_wp2_with (first
  | (refine wpList_alloc 130 (v := .pointer (some ⟨w2.heap.size, 0, none⟩)) (w' := w2.alloc (.cells z128 130)) rfl rfl ?_ ?_; exact alloc_block w2)
  | (refine wpList_copy_to rfl (.tmp 23) (.tmp 24) 85 85 rfl 5 Tryz.underlying85 u8size w2.heap.size 0 128 128 ⟨w.heap.size + 1, 0, none⟩ 128 128 rfl rfl z128 130 ?_ cs ?_ ?_ ?_ hone' cs ?_ ?_; exact heap_alloc_at _ _; (rw [hcl]; rfl); (exact World.news_of_block (cs := cs.toArray) (t := 5) (fr := (0, 0)) (by rw [heap_alloc_lt _ _ _ hL1]; exact hb2)); (rw [hcl, z128_size]; decide); (rw [hcl, List.drop_of_length_le (l := z128.toList) (by rw [Array.length_toList, z128_size]; decide)]; simp); intro w3 HW3; have hM1 : w3.rangeAt w2.heap.size 0 cs := by (rw [HW3.out]; intro j v hv; rw [cell_setRow_same _ _ _ _ _ _ _ (heap_alloc_at _ _)]; simpa using hv))
  | (refine wpList_load_mid rfl 130 (.tmp 7) rfl w2.heap.size 0 ?_ cs _ hM1 Tryz.underlying130 rfl ?_ ?_; rfl; (rw [block_size, hcl]))
  | (refine wpList_store 130 (w' := w3.setRow w.heap.size cs.toArray) (.tmp 4) (.tmp 26) rfl rfl ?_ ?_; (have hM0 : w3.heap[w.heap.size]? = some (.cells z128.toList.toArray 130 (0, 0)) := by (rw [HW3.out, setRow_other _ _ _ _ (by omega), heap_alloc_lt _ _ _ (by omega)]; simpa using hN)); (have := run_storeAt_row (P := Tryz.prog) (o := 0) (ty := 130) (vs := cs) hM0 (by simp [hcl, z128_size]) hone' (by rw [block_size, hcl])); (rw [show splice z128.toList 0 cs = cs from by simp [splice, hcl, z128_size]] at this); exact this))
 simp only [Act.put, lsE, lsZ, lsS]
 have hM0 : w3.heap[w.heap.size]? = some (.cells z128 130 (0, 0)) := by rw [HW3.out, setRow_other _ _ _ _ (by omega), heap_alloc_lt _ _ _ (by omega)]; exact hN
 have hE := setRow_heap w3 w.heap.size z128 cs.toArray 130 (0, 0) hM0
 have hF3 : Fr (· = A) w w3 := by rw [HW3.out]; exact (hF.alloc _).setRow _ (fun h => by have := hF.size; omega) _
 have hd3 : DkAt w3 A B n cache d.next := by unfold DkAt; rw [HW3.out, setRow_other _ _ _ _ (by have := hd2.lt; omega)]; exact hd2.alloc _
 refine bodyPost_ret (v := .agg cs.toArray) (results_cell_row Tryz.results112 _ _ w.heap.size 130 _ (0, 0) _ rfl hE Tryz.underlying130 rfl (by rw [block_size]; simp [hcl])) rfl ⟨by rw [HCS.out], ?_, hF3.setRow _ (fun h => by omega) _⟩
 unfold DkAt; rw [setRow_other _ _ _ _ (by omega)]; exact hd3
set_option maxRecDepth 100000 in
set_option maxHeartbeats 1000000 in
theorem Load_bad {w : World} {V A B n : Nat} {cache : Value} {d : DP} (hv : VolAt w V A n) (h : DkAt w A B n cache d) (hok : d.Ok) (hbad : d.bad = true) (i : Nat)
  (HI : ∀ W, Fr (· = A) w W → Calls Tryz.prog 143 #[.int .i64 i] W fun e w' => (∃ s, e = .returned (.string s) ∧ s.size ≤ 100) ∧ Fr (fun _ => False) W w') :
  Calls Tryz.prog 112 #[.pointer (some ⟨V, 0, none⟩), .int .i64 i] w fun e w' => ∃ g, e = .panicked [{ v := .iface 258 (.pointer (some ⟨g, 0, none⟩)), recovered := false }] ∧ TrAt w' g ∧ DkAt w' A B n cache d.next ∧ Fr (· = A) w w' := by
 have hVl := lt_of_heap hv
 have mr := method_Read
 have hv1 : VolAt (w.alloc (.cells z128 130)) V A n := by unfold VolAt; rw [heap_alloc_lt _ _ _ hVl]; exact hv
 have c0 := hv1.c0
 have HA : Hid (Fr (fun _ => False) w (w.alloc (.cells z128 130))) := (Fr.refl _ _).alloc _
 go_enter Tryz.func112, Tryz.ntmps112
 go_wp2_with (first
  | (refine wpList_alloc 130 (v := .pointer (some ⟨w.heap.size, 0, none⟩)) (w' := w.alloc (.cells z128 130)) rfl rfl ?_ ?_; exact alloc_block w))
 refine (Read_bad (h.alloc _) hok hbad _).mono ?_
 rintro e w2 ⟨rfl, hd2, hf2⟩
 have HF2 : Hid (DkAt w2 A B n cache d.next ∧ Fr (· = A) w w2) := ⟨hd2, (HA.out.mono (fun _ _ h => h.elim)).trans hf2 (fun _ _ h => h)⟩
 clear hd2 hf2
 unfold ioV
 go_wp2_with fail
 refine (HI w2 HF2.out.2).mono ?_
 rintro e w3 ⟨⟨s, rfl, hsz⟩, hf3⟩
 go_wp2_with fail
 refine (throw_ok _ w3).mono ?_
 rintro e w4 ⟨g, rfl, ht, hf4⟩
 have hf24 := hf3.trans hf4 (fun _ _ h => h)
 exact ⟨rfl, g, rfl, ht, HF2.out.1.fr hf24 (fun h => h), HF2.out.2.trans (hf24.mono (fun _ _ h => h.elim)) (fun _ _ h => h)⟩
end Go.Proofs.YteebjgfalllbjaaGreatDoor
