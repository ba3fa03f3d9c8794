import Derived.Test.YteebjgfalllbjaaGreatDoorCCmClNs
import Derived.StillTail
import Derived.Test.YteebjgfalllbjaaGreatDoorCTaFdOp
import Derived.Test.YteebjgfalllbjaaGreatDoorCWiGd0Va
namespace Go.Proofs.YteebjgfalllbjaaGreatDoor
open Go.RowKit

theorem run_store_saga {w : World} {g i n : Nat} {id : Int} {a b : List SS} {q : SS} (p : SS) (hg : w.heap[g]? = some (.cells (sagaC id n (a ++ q :: b)).toArray 122 (0, 0))) (hi : a.length = i) :
  (Instr.storeAt 58 (.pointer (some ⟨g, 2 + i * 2, none⟩)) (.agg #[.string p.1, .string p.2])).run Tryz.prog w = .ok () (w.setRow g (sagaC id n (a ++ p :: b)).toArray) := by
 subst hi
 have := run_storeAt_row (P := Tryz.prog) (o := 2 + a.length * 2) (ty := 58) (vs := stv p) hg (by simp [sagaC, scells_len, stv]; omega) (stv_one p) (by kernel_rfl)
 have e : splice (sagaC id n (a ++ q :: b)) (2 + a.length * 2) (stv p) = sagaC id n (a ++ p :: b) := by
  have h := splice_step a b p q
  unfold sagaC
  rw [← h]
  unfold splice
  have e1 : 2 + a.length * 2 = (a.length * 2) + 1 + 1 := by omega
  have e2 : 2 + a.length * 2 + (stv p).length = (a.length * 2 + (stv p).length) + 1 + 1 := by omega
  rw [e2, e1, List.take_succ_cons, List.take_succ_cons, List.drop_succ_cons, List.drop_succ_cons]
  simp
 rw [e] at this
 exact this
theorem index_six (g i : Nat) (h : i < 6) (w : World) : (Instr.indexAt 120 (.pointer (some ⟨g, 2, none⟩)) (.int .i64 i)).run Tryz.prog w = .ok (.pointer (some ⟨g, 2 + i * 2, none⟩)) w := by
 have h' : (i : Int) < 6 := by omega
 go_simp
def NsI (id : Int) (st : List SS) (w : World) (i : Nat) (wr : World) : Prop := wr.heap[w.heap.size]? = some (.cells noS.toArray 122 (0, 0)) ∧ wr.heap[w.heap.size + 1]? = some (.cells (sagaC id st.length (st.take i ++ List.replicate (6 - i) none2)).toArray 122 (0, 0)) ∧ Fr (fun _ => False) w wr ∧ ∀ p ∈ st.take i, p.1.size ≤ 8 ∧ p.2.size ≤ 8
set_option maxRecDepth 100000 in
set_option maxHeartbeats 4000000 in
theorem NewSaga_in {w : World} {ao : Option Addr} {cap : Nat} {st : List SS} (hl : RowsOf w ao 2 (st.map stv)) (id : Int) (h1 : 1 ≤ id) (h2 : id ≤ 1000) (h3 : 1 ≤ st.length) (h4 : st.length ≤ 6) :
  Calls Tryz.prog 57 #[.int .i64 id, .slice ao st.length cap] w fun e w' => NsQ id st w e w' := by
 have HL : Hid (RowsOf w ao 2 (st.map stv)) := hl
 have h1' : ¬ id < 1 := by omega
 have h2' : ¬ 1000 < id := by omega
 have h3' : ¬ (st.length : Int) < 1 := by omega
 have h4' : ¬ (6 : Int) < st.length := by omega
 clear hl
 have HI : Hid (NsI id st w 0 ((w.alloc (.cells noS.toArray 122)).alloc (.cells (sagaC id st.length (six [])).toArray 122))) :=
  ⟨by rw [heap_alloc_lt _ _ _ (by simp)]; exact heap_alloc_at _ _, heap_alloc2_new w _ _, ((Fr.refl _ _).alloc _).alloc _, by simp⟩
 go_enter Tryz.func57, Tryz.ntmps57
 go_wp2
 go_loopw [33] (fun c wr => ∃ i : Nat, i ≤ st.length ∧ c = .int .i64 i ∧ Hid (NsI id st w i wr)) (fun c _ => st.length - (intOf c).toNat)
 case atStart => exact ⟨0, Nat.zero_le _, rfl, HI⟩
 case round =>
  obtain ⟨i, hi, rfl, HR⟩ := hrel
  by_cases hlt : i < st.length
  ·have hlt' : (i : Int) < st.length := by omega
   obtain ⟨p, hp⟩ : ∃ p, st[i]? = some p := ⟨_, List.getElem?_eq_getElem hlt⟩
   obtain ⟨g, off, rfl, hr⟩ := HL.out i (stv p) (by simp [hp])
   have c0 : wr.cell? ⟨g, off + i * 2, none⟩ = some (.string p.1) := HR.out.2.2.1.cell (hr 0 _ rfl) (fun h => h)
   have c1 : wr.cell? ⟨g, off + i * 2 + 1, none⟩ = some (.string p.2) := HR.out.2.2.1.cell (hr 1 _ rfl) (fun h => h)
   have HP : Hid (st[i]? = some p) := hp
   clear hr hp
   have HBAD : Hid (¬ (p.1.size ≤ 8 ∧ p.2.size ≤ 8) → sagaOk id st = false) := fun h => by
    unfold sagaOk
    exact decide_eq_false (fun h' => h (h'.2.2.2.2 p (List.mem_of_getElem? HP.out)))
   obtain ⟨W, HW⟩ : ∃ W, Hid (W = wr.alloc (.cells #[.string p.1, .string p.2] 58)) := ⟨_, rfl⟩
   have hfW : Fr (fun _ => False) wr W := by rw [HW.out]; exact (Fr.refl _ _).alloc _
   have hR : W.heap[w.heap.size]? = some (.cells noS.toArray 122 (0, 0)) := hfW.keep HR.out.1 (fun h => h)
   have hst0 : (Instr.storeAt 122 (.pointer (some ⟨w.heap.size, 0, none⟩)) (.agg noS.toArray)).run Tryz.prog W = .ok () (W.setRow w.heap.size noS.toArray) := by
    have := run_storeAt_row (P := Tryz.prog) (o := 0) (ty := 122) (vs := noS) hR (by simp) (sagaC_one _ _ _) (by kernel_rfl)
    have e : splice noS 0 noS = noS := by kernel_rfl
    rw [e] at this
    exact this
   have hRE := setRow_heap W w.heap.size _ noS.toArray 122 (0, 0) hR
   obtain ⟨WE, HWE⟩ : ∃ WE, Hid (WE = W.setRow w.heap.size noS.toArray) := ⟨_, rfl⟩
   have hFE : Fr (fun _ => False) w WE := by rw [HWE.out]; exact (HR.out.2.2.1.trans hfW (fun _ _ h => h)).setRow _ (fun h => by omega) _
   rw [← HWE.out] at hst0 hRE
   have hbx : (Instr.storeAt 122 (.pointer (some ⟨w.heap.size, 0, none⟩)) (.agg noS.toArray)).run Tryz.prog (wr.alloc (.cells #[.string p.1, .string p.2] 58)) = .ok () WE := by rw [← HW.out]; exact hst0
   have FIN : ∀ (tmps : Array Value), tmps.getD 4 undef = .pointer (some ⟨w.heap.size, 0, none⟩) → tmps.getD 5 undef = errSaga → (results Tryz.f57 tmps).run Tryz.prog WE = .ok (.tuple #[.agg noS.toArray, errSaga]) WE := fun tmps h4 h5 => by
    rw [← h5]
    exact results_row_tmp Tryz.results57 tmps _ w.heap.size 122 noS.toArray (0, 0) _ h4 hRE Tryz.underlying122 rfl (by kernel_rfl)
   have HFE : Hid (Fr (fun _ => False) w WE) := hFE
   have HFW : Hid (Fr (fun _ => False) wr W ∧ W = wr.alloc (.cells #[.string p.1, .string p.2] 58)) := ⟨hfW, HW.out⟩
   clear hfW hR hst0 hRE hFE HWE HW
   by_cases e1 : (8 : Int) < p.1.size
   ·have HSO : Hid (sagaOk id st = false) := HBAD.out (by omega)
    clear HBAD
    go_wp2_with (refine wpList_store 122 (w' := WE) _ _ rfl rfl ?_ ?_; exact hbx)
    refine bodyPost_ret (FIN _ rfl rfl) rfl ⟨.inr ⟨HSO.out, rfl⟩, HFE.out⟩
   ·by_cases e2 : (8 : Int) < p.2.size
    ·have HSO : Hid (sagaOk id st = false) := HBAD.out (by omega)
     clear HBAD
     go_wp2_with (refine wpList_store 122 (w' := WE) _ _ rfl rfl ?_ ?_; exact hbx)
     refine bodyPost_ret (FIN _ rfl rfl) rfl ⟨.inr ⟨HSO.out, rfl⟩, HFE.out⟩
    ·clear FIN hbx HBAD HFE
     go_wp2_with fail
     obtain ⟨W2, HW2⟩ : ∃ W2, Hid (W2 = (wr.alloc (.cells #[.string p.1, .string p.2] 58)).drew) := ⟨_, rfl⟩
     obtain ⟨B8, HB8⟩ : ∃ B8, Hid (B8 = wr.heap.size) := ⟨_, rfl⟩
     have hF2 : Fr (fun _ => False) wr W2 := by rw [HW2.out]; exact ((Fr.refl _ _).alloc _).drew
     have hb8 : W2.heap[B8]? = some (.cells #[.string p.1, .string p.2] 58 (0, 0)) := by rw [HW2.out, HB8.out]; exact heap_alloc_at wr _
     have hB8 : ¬ B8 = w.heap.size + 1 := by have := lt_of_heap HR.out.2.1; rw [HB8.out]; omega
     rw [← HB8.out]
     have hlift : Tryz.prog.follows .mixedOrders = true := by kernel_rfl
     let S0 : World → Prop := fun w' => w'.cell? ⟨B8, 0, none⟩ = some (.string p.1) ∧ w'.cell? ⟨B8, 1, none⟩ = some (.string p.2)
     have hS : S0 W2 := ⟨(cell_of_row W2 B8 0 _ _ _ hb8).trans rfl, (cell_of_row W2 B8 1 _ _ _ hb8).trans rfl⟩
     refine wp_region_held (S := S0) hlift ?_
     change wpAnyH _ _ _ _ S0 _ _ _ (World.drew _)
     rw [← HW2.out]
     clear hb8 HW2 HB8
     refine tkE (S := S0) (i := 0) (oi := ⟨some 50, .move (.tmp 7), _, _, _, none⟩) (v := .int .i64 i) rfl hS ?_
     simp only [Act.put, lsE, lsZ, lsS]
     refine tkE (S := S0) (i := 1) (oi := ⟨some 51, .fieldAddr 58 (.tmp 8) 0, _, _, _, none⟩) (v := .pointer (some ⟨B8, 0, none⟩)) rfl hS ?_
     simp only [Act.put, lsE, lsZ, lsS]
     refine tkY (S := S0) (i := 2) (oi := ⟨some 52, .load 9 (.tmp 51), _, _, _, none⟩) (v := .string p.1) rfl (Or.inl ⟨rfl, fun w' hs => exec_load 9 (.tmp 51) rfl ⟨B8, 0, none⟩ rfl (run_loadAt_one hs.1 Tryz.underlying9 rfl)⟩) hS ?_
     simp only [Act.put, lsE, lsZ, lsS]
     refine tkE (S := S0) (i := 4) (oi := ⟨some 54, .fieldAddr 58 (.tmp 8) 1, _, _, _, none⟩) (v := .pointer (some ⟨B8, 1, none⟩)) rfl hS ?_
     simp only [Act.put, lsE, lsZ, lsS]
     refine tkY (S := S0) (i := 5) (oi := ⟨some 55, .load 9 (.tmp 54), _, _, _, none⟩) (v := .string p.2) rfl (Or.inl ⟨rfl, fun w' hs => exec_load 9 (.tmp 54) rfl ⟨B8, 1, none⟩ rfl (run_loadAt_one hs.2 Tryz.underlying9 rfl)⟩) hS ?_
     simp only [Act.put, lsE, lsZ, lsS]
     refine tkE (S := S0) (i := 8) (oi := ⟨some 58, .fieldAddr 122 (.tmp 6) 2, _, _, _, none⟩) (v := .pointer (some ⟨w.heap.size + 1, 2, none⟩)) rfl hS ?_
     simp only [Act.put, lsE, lsZ, lsS]
     refine wpAnyH_all (rs := [3]) (by kernel_rfl) (by simp) ?_
     intro i3 hi3
     obtain rfl : i3 = 3 := by simpa using hi3
     refine wpOp_call (o := ⟨some 53, .call { callee := .value (.func 89), args := #[.tmp 52], argTypes := _ }, _, _, _, none⟩) (f := 89) (args := #[.string p.1]) rfl rfl (by kernel_rfl) ?_
     refine (Clone_ok p.1 W2 (by omega)).mono ?_
     rintro e wA ⟨rfl, hfA⟩
     have hSA : S0 wA := ⟨hfA.cell hS.1 (fun h => h), hfA.cell hS.2 (fun h => h)⟩
     refine ⟨_, rfl, hSA, ?_⟩
     simp only [Act.put, lsE, lsZ, lsS]
     refine wpAnyH_all (rs := [6]) (by kernel_rfl) (by simp) ?_
     intro i6 hi6
     obtain rfl : i6 = 6 := by simpa using hi6
     refine wpOp_call (o := ⟨some 56, .call { callee := .value (.func 89), args := #[.tmp 55], argTypes := _ }, _, _, _, none⟩) (f := 89) (args := #[.string p.2]) rfl rfl (by kernel_rfl) ?_
     refine (Clone_ok p.2 wA (by omega)).mono ?_
     rintro e wB ⟨rfl, hfB⟩
     have hSB : S0 wB := ⟨hfB.cell hSA.1 (fun h => h), hfB.cell hSA.2 (fun h => h)⟩
     refine ⟨_, rfl, hSB, ?_⟩
     simp only [Act.put, lsE, lsZ, lsS]
     refine tkE (S := S0) (i := 7) (oi := ⟨some 57, .build 58 #[(0, .tmp 53), (1, .tmp 56)], _, _, _, none⟩) (v := .agg #[.string p.1, .string p.2]) rfl hSB ?_
     simp only [Act.put, lsE, lsZ, lsS]
     refine tkY (S := S0) (i := 9) (oi := ⟨some 59, .indexAddr 120 (.tmp 58) (.tmp 50), _, _, _, none⟩) (v := .pointer (some ⟨w.heap.size + 1, 2 + i * 2, none⟩)) rfl (Or.inl ⟨rfl, fun w' _ => exec_indexAddr 120 _ _ rfl rfl rfl (index_six _ i (by omega) w')⟩) hSB ?_
     simp only [Act.put, lsE, lsZ, lsS]
     have hfr : Fr (fun _ => False) wr wB := (hF2.trans hfA (fun _ _ h => h)).trans hfB (fun _ _ h => h)
     have hrow : wB.heap[w.heap.size + 1]? = some (.cells (sagaC id st.length (st.take i ++ none2 :: List.replicate (5 - i) none2)).toArray 122 (0, 0)) := by
      have := hfr.keep HR.out.2.1 (fun h => h)
      rw [show 6 - i = (5 - i) + 1 by omega, List.replicate_succ] at this
      exact this
     have hst := run_store_saga (i := i) p hrow (by rw [List.length_take]; omega)
     have hrow2 := setRow_heap wB (w.heap.size + 1) _ (sagaC id st.length (st.take i ++ p :: List.replicate (5 - i) none2)).toArray 122 (0, 0) hrow
     obtain ⟨wC, HWC⟩ : ∃ wC, Hid (wC = wB.setRow (w.heap.size + 1) (sagaC id st.length (st.take i ++ p :: List.replicate (5 - i) none2)).toArray) := ⟨_, rfl⟩
     rw [← HWC.out] at hst hrow2
     have hfC : Fr (· = w.heap.size + 1) wB wC := by rw [HWC.out]; exact (Fr.refl (fun x => x = w.heap.size + 1) _).setRow _ (fun _ => rfl) _
     have hSC : S0 wC := ⟨hfC.cell hSB.1 hB8, hfC.cell hSB.2 hB8⟩
     have HN : Hid (NsI id st w (i + 1) wC) := by
      refine ⟨hfC.keep (hfr.keep HR.out.1 (fun h => h)) (by omega), ?_, ?_, ?_⟩
      ·rw [hrow2, List.take_add_one, HP.out]
       simp
      ·rw [HWC.out]; exact (HR.out.2.2.1.trans hfr (fun _ _ h => h)).setRow _ (fun h => by omega) _
      ·intro q hq
       rw [List.take_add_one, HP.out] at hq
       rcases List.mem_append.1 hq with h | h
       ·exact HR.out.2.2.2 q h
       ·simp at h
        subst h
        omega
     refine wpAnyH_all (rs := [10]) (by kernel_rfl) (by simp) ?_
     intro i10 hi10
     obtain rfl : i10 = 10 := by simpa using hi10
     refine wpOp_skip (o := ⟨none, .store 58 (.tmp 59) (.tmp 57), _, _, _, none⟩) (w' := wC) rfl rfl (exec_store 58 _ _ rfl ⟨w.heap.size + 1, 2 + i * 2, none⟩ _ rfl rfl hst) ⟨hSC, ?_⟩
     simp only [Act.put]
     refine wpAnyH_done (by kernel_rfl) ?_ _
     clear hS hSA hSB hSC hfA hfB hfC hfr hrow hrow2 hst HWC hF2 c0 c1
     go_wp2
     go_roundw
     case rel => exact ⟨i + 1, by omega, by go_num, HN⟩
     case measure => simp [intOf]; omega
  ·obtain rfl : i = st.length := by omega
   have hOK : sagaOk id st = true := by
    unfold sagaOk
    refine decide_eq_true ⟨h1, h2, h3, h4, ?_⟩
    have := HR.out.2.2.2
    rwa [List.take_length] at this
   have hrow : wr.heap[w.heap.size + 1]? = some (.cells (sagaC id st.length (six st)).toArray 122 (0, 0)) := by
    have := HR.out.2.1
    rwa [List.take_length] at this
   have hst := run_storeAt_row (P := Tryz.prog) (o := 0) (ty := 122) (vs := sagaC id st.length (six st)) HR.out.1 (by simp [sagaC_len, six_len, noS, h4]) (sagaC_one _ _ _) (by rw [rsaga_size, sagaC_len _ _ _ (six_len st h4)])
   have hsp : splice noS 0 (sagaC id st.length (six st)) = sagaC id st.length (six st) := by
    unfold splice
    simp [sagaC_len, six_len, noS, h4]
   rw [hsp] at hst
   have hRE := setRow_heap wr w.heap.size _ (sagaC id st.length (six st)).toArray 122 (0, 0) HR.out.1
   obtain ⟨WE, HWE⟩ : ∃ WE, Hid (WE = wr.setRow w.heap.size (sagaC id st.length (six st)).toArray) := ⟨_, rfl⟩
   have HFE : Hid (Fr (fun _ => False) w WE) := by rw [HWE.out]; exact HR.out.2.2.1.setRow _ (fun h => by omega) _
   rw [← HWE.out] at hst hRE
   have FIN : ∀ (tmps : Array Value), tmps.getD 4 undef = .pointer (some ⟨w.heap.size, 0, none⟩) → tmps.getD 5 undef = .nilIface → (results Tryz.f57 tmps).run Tryz.prog WE = .ok (.tuple #[.agg (sagaC id st.length (six st)).toArray, .nilIface]) WE := fun tmps h4' h5 => by
    rw [← h5]
    exact results_row_tmp Tryz.results57 tmps _ w.heap.size 122 _ (0, 0) _ h4' hRE Tryz.underlying122 rfl (by rw [rsaga_size, List.size_toArray, sagaC_len _ _ _ (six_len st h4)])
   have HSZ : Hid ((Tryz.prog.info? 122).map (·.size) = some (sagaC id st.length (six st)).toArray.size) := by unfold Hid; rw [rsaga_size, List.size_toArray, sagaC_len _ _ _ (six_len st h4)]
   have HOK : Hid (sagaOk id st = true) := hOK
   clear hOK hsp HWE
   go_wp2_with (first | (refine wpList_load_row rfl 122 _ rfl (w.heap.size + 1) ?_ 122 (sagaC id st.length (six st)).toArray (0, 0) _ hrow Tryz.underlying122 rfl HSZ.out ?_; rfl) | (refine wpList_store 122 (w' := WE) _ _ rfl rfl ?_ ?_; exact hst))
   refine bodyPost_ret (FIN _ rfl rfl) rfl ⟨.inl ⟨HOK.out, rfl⟩, HFE.out⟩
theorem NewSaga_ok {w : World} {ao : Option Addr} {cap : Nat} {st : List SS} (hl : RowsOf w ao 2 (st.map stv)) (id : Int) :
  Calls Tryz.prog 57 #[.int .i64 id, .slice ao st.length cap] w fun e w' => NsQ id st w e w' := by
 by_cases hb : id < 1 ∨ 1000 < id ∨ (st.length : Int) < 1 ∨ (6 : Int) < st.length
 ·exact NewSaga_bad id hb
 ·exact NewSaga_in hl id (by omega) (by omega) (by omega) (by omega)
end Go.Proofs.YteebjgfalllbjaaGreatDoor
namespace Go.Proofs.YteebjgfalllbjaaGreatDoor
open Go.RowKit

def entC (a : AS) : List Value := sagaC a.id a.st.length (six a.st) ++ a.told.cs
theorem entC_len (a : AS) (h : a.st.length ≤ 6) : (entC a).length = 20 := by
 rw [entC, List.length_append, sagaC_len _ _ _ (six_len _ h)]; rfl
def epv (p : Nat × AS) : Value := .pointer (some ⟨p.1, 0, none⟩)
structure RollAt (w : World) (R base : Nat) (room : Int) (ev : Value) (es : List (Nat × AS)) : Prop where
 r : w.heap[R]? = some (.cells #[ev, .int .i64 room] 176 (0, 0))
 o : w.ownsRow base 136 1 ev es.length (es.map epv)
 e : ∀ p ∈ es, base ≤ p.1 ∧ w.heap[p.1]? = some (.cells (entC p.2).toArray 140 (0, 0))
def RollF (R : Nat) (ev : Value) (es : List (Nat × AS)) (b : Nat) : Prop := b = R ∨ ev.ownBlock = some b ∨ ∃ p ∈ es, b = p.1
section
variable {w w' : World} {R base : Nat} {room : Int} {ev : Value} {es : List (Nat × AS)}
theorem RollAt.fr {S : Nat → Prop} (h : RollAt w R base room ev es) (hf : Fr S w w') (hS : ∀ b, RollF R ev es b → ¬ S b) : RollAt w' R base room ev es :=
 ⟨hf.keep h.r (hS _ (.inl rfl)), own_fr h.o hf (fun b _ _ hb => hS b (.inr (.inl hb))), fun p hp => ⟨(h.e p hp).1, hf.keep (h.e p hp).2 (hS _ (.inr (.inr ⟨p, hp, rfl⟩)))⟩⟩
theorem RollAt.frz (h : RollAt w R base room ev es) (hf : Fr (fun _ => False) w w') : RollAt w' R base room ev es := h.fr hf (fun _ _ => id)
theorem RollAt.form (h : RollAt w R base room ev es) : ∃ ao cap, ev = .slice ao es.length cap := by
 rcases h.o.2 with ⟨rfl, hn⟩ | ⟨g, cap, cur, rfl, _⟩
 ·exact ⟨none, 0, by rw [hn]⟩
 ·exact ⟨_, _, rfl⟩
theorem RollAt.c0 (h : RollAt w R base room ev es) : w.cell? ⟨R, 0, none⟩ = some ev := (cell_of_row w R 0 _ _ _ h.r).trans rfl
theorem RollAt.c1 (h : RollAt w R base room ev es) : w.cell? ⟨R, 1, none⟩ = some (.int .i64 room) := (cell_of_row w R 1 _ _ _ h.r).trans rfl
theorem own_cell {w : World} {base n : Nat} {t : TypeId} {ao : Option Addr} {cap : Nat} {xs : List Value} (h : w.ownsRow base t 1 (.slice ao n cap) n xs) {i : Nat} {v : Value} (hi : xs[i]? = some v) : ∃ g, ao = some ⟨g, 0, none⟩ ∧ w.cell? ⟨g, i, none⟩ = some v := by
 rcases h.2 with ⟨hv, hn⟩ | ⟨g, cap', cur, hv, _, hg, _, _, _, hx⟩
 ·have := h.1
  have h2 := (List.getElem?_eq_some_iff.1 hi).1
  omega
 ·cases hv
  refine ⟨g, rfl, (cell_of_row w g i _ _ _ hg).trans ?_⟩
  rw [← hx] at hi
  rw [List.getElem?_take] at hi
  split at hi
  ·simpa using hi
  ·cases hi
theorem RollAt.ent {ao : Option Addr} {cap : Nat} (h : RollAt w R base room (.slice ao es.length cap) es) : EntsAt w ao (es.map fun p => (p.1, p.2.id)) := by
 intro i p hp
 rw [List.getElem?_map] at hp
 obtain ⟨q, hq, rfl⟩ := Option.map_eq_some_iff.1 hp
 obtain ⟨g, e1, e2⟩ := own_cell h.o (i := i) (v := epv q) (by rw [List.getElem?_map, hq]; rfl)
 refine ⟨g, 0, e1, by rw [Nat.zero_add]; exact e2, (cell_of_row w q.1 0 _ _ _ (h.e q (List.mem_of_getElem? hq)).2).trans ?_⟩
 simp [entC, sagaC]
end
section
variable {w : World} {R base : Nat} {room : Int} {ev : Value} {es : List (Nat × AS)}
def idsOf (es : List (Nat × AS)) : List (Nat × Int) := es.map fun p => (p.1, p.2.id)
def Sorted (es : List (Nat × AS)) : Prop := es.Pairwise (fun a b => a.2.id < b.2.id)
theorem sorted_ids (h : Sorted es) : (idsOf es).Pairwise (fun a b => a.2 < b.2) := by
 unfold idsOf; rw [List.pairwise_map]; exact h
set_option maxRecDepth 100000 in
theorem place_ok (h : RollAt w R base room ev es) (hs : Sorted es) (hn : es.length ≤ 100000) (id : Int) : Calls Tryz.prog 99 #[.pointer (some ⟨R, 0, none⟩), .int .i64 id] w fun e w' => SearchQ (idsOf es) id w e w' := by
 have hmf : ∀ (fn : Fn) (first cap : Array Value) (w : World), (Instr.makeFunc fn first cap).run Tryz.prog w = .ok (.func fn first cap) w := fun _ _ _ _ => rfl
 obtain ⟨ao, cap, rfl⟩ := h.form
 have c0 := h.c0
 have HS := Search_ok (cap := cap) (es := idsOf es) h.ent (by simpa [idsOf] using hn) (sorted_ids hs) id
 rw [show (idsOf es).length = es.length by simp [idsOf]] at HS
 go_enter Tryz.func99, Tryz.ntmps99
 go_wp2_with fail
 refine HS.mono ?_
 rintro e w2 ⟨k, t, rfl, hp, hf⟩
 go_wp2
 go_ret2
 exact ⟨k, t, rfl, hp, hf⟩
def FindE (es : List (Nat × AS)) (id : Int) (v : Value) : Prop := (∃ p ∈ es, p.2.id = id ∧ v = epv p) ∨ ((∀ p ∈ es, p.2.id ≠ id) ∧ v = .pointer none)
theorem placed_find (hs : Sorted es) {id : Int} {k : Nat} (hp : Placed (idsOf es) id k false) : ∀ p ∈ es, p.2.id ≠ id := by
 intro p hpe e
 obtain ⟨j, hj, rfl⟩ := List.mem_iff_getElem.1 hpe
 have hj' : (idsOf es)[j]? = some (es[j].1, es[j].2.id) := by simp [idsOf, List.getElem?_eq_getElem hj]
 rcases Nat.lt_trichotomy j k with h | h | h
 ·have := hp.2.1 j _ h hj'; simp at this; omega
 ·subst h; have := hp.2.2.2.2 ⟨_, hj', e⟩; simp at this
 ·have hk : k < (idsOf es).length := by simp [idsOf]; omega
  have h1 := hp.2.2.1 _ (List.getElem?_eq_getElem hk)
  have h2 := List.pairwise_iff_getElem.1 (sorted_ids hs) k j hk (by simp [idsOf]; exact hj) h
  simp [idsOf] at h1 h2
  omega
set_option maxRecDepth 100000 in
theorem rfind_ok (h : RollAt w R base room ev es) (hs : Sorted es) (hn : es.length ≤ 100000) (id : Int) : Calls Tryz.prog 67 #[.pointer (some ⟨R, 0, none⟩), .int .i64 id] w fun e w' => ∃ v, e = .returned v ∧ FindE es id v ∧ Fr (fun _ => False) w w' := by
 go_enter Tryz.func67, Tryz.ntmps67
 go_wp2_with fail
 refine (place_ok h hs hn id).mono ?_
 rintro e w2 ⟨k, t, rfl, hp, hf⟩
 have h2 := h.frz hf
 have c0 := h2.c0
 cases t
 ·go_wp2
  go_ret
  exact ⟨_, rfl, .inr ⟨placed_find hs hp, rfl⟩, hf⟩
 ·obtain ⟨q, hq, hid⟩ := hp.2.2.2.1 rfl
  rw [idsOf, List.getElem?_map] at hq
  obtain ⟨p, hpk, rfl⟩ := Option.map_eq_some_iff.1 hq
  obtain ⟨ao, cap, rfl⟩ := h.form
  obtain ⟨g, rfl, hc⟩ := own_cell h2.o (i := k) (v := epv p) (by rw [List.getElem?_map, hpk]; rfl)
  have hkl : k < es.length := (List.getElem?_eq_some_iff.1 hpk).1
  have hkl' : (k : Int) < es.length := by omega
  unfold epv at hc
  go_wp2
  go_ret
  exact ⟨_, rfl, .inl ⟨p, List.mem_of_getElem? hpk, hid, rfl⟩, hf⟩
end
end Go.Proofs.YteebjgfalllbjaaGreatDoor
namespace Go.Proofs.YteebjgfalllbjaaGreatDoor
open Go.RowKit
theorem stand_size : (Tryz.prog.info? 138).map (·.size) = some 6 := by kernel_rfl
section
variable {w : World} {R base : Nat} {room : Int} {ev : Value} {es : List (Nat × AS)}
theorem RollAt.saga {p : Nat × AS} (h : RollAt w R base room ev es) (hp : p ∈ es) : w.rangeAt p.1 0 (sagaC p.2.id p.2.st.length (six p.2.st)) := fun j v hv => (cell_of_row w _ (0 + j) _ _ _ (h.e p hp).2).trans (by
 have hj := (List.getElem?_eq_some_iff.1 hv).1
 rw [Nat.zero_add, List.getElem?_toArray, entC, List.getElem?_append_left hj]; exact hv)
theorem RollAt.stand {p : Nat × AS} (h : RollAt w R base room ev es) (hp : p ∈ es) (h6 : p.2.st.length ≤ 6) : w.rangeAt p.1 14 p.2.told.cs := fun j v hv => (cell_of_row w _ (14 + j) _ _ _ (h.e p hp).2).trans (by
 have hl := sagaC_len p.2.id p.2.st.length _ (six_len _ h6)
 rw [List.getElem?_toArray, entC, List.getElem?_append_right (by omega), hl, Nat.add_sub_cancel_left]; exact hv)
theorem run_store14 {w : World} {g : Nat} {cs r : List Value} {t : TypeId} (hg : w.heap[g]? = some (.cells cs.toArray t (0, 0))) (hc : cs.length = 14) (hl : r.length = 14) (h1 : ∀ v ∈ r, v.oneCell' = true) : (Instr.storeAt 122 (.pointer (some ⟨g, 0, none⟩)) (.agg r.toArray)).run Tryz.prog w = .ok () (w.setRow g r.toArray) := by
 have := run_storeAt_row (P := Tryz.prog) (o := 0) (ty := 122) (vs := r) hg (by omega) h1 (by rw [rsaga_size, hl])
 rwa [show splice cs 0 r = r from by simp [splice, hl, hc]] at this
theorem noS_len : noS.length = 14 := sagaC_len _ _ _ (six_len _ (by simp))
set_option maxRecDepth 100000 in
set_option maxHeartbeats 1000000 in
theorem rollSaga_ok (h : RollAt w R base room ev es) (hs : Sorted es) (hn : es.length ≤ 100000) (h6 : ∀ p ∈ es, p.2.st.length ≤ 6) (id : Int) : Calls Tryz.prog 58 #[.pointer (some ⟨R, 0, none⟩), .int .i64 id] w fun e w' => ((∃ p ∈ es, p.2.id = id ∧ e = .returned (.tuple #[.agg (sagaC p.2.id p.2.st.length (six p.2.st)).toArray, .bool true])) ∨ ((∀ p ∈ es, p.2.id ≠ id) ∧ e = .returned (.tuple #[.agg noS.toArray, .bool false]))) ∧ Fr (fun _ => False) w w' := by
 have hfa : Fr (fun _ => False) w (w.alloc (.cells noS.toArray 122)) := (Fr.refl _ _).alloc _
 have HC := rfind_ok (h.frz hfa) hs hn id
 go_enter Tryz.func58, Tryz.ntmps58
 go_wp2_with fail
 refine HC.mono ?_
 rintro e w2 ⟨v, rfl, hv, hf⟩
 have h2 := (h.frz hfa).frz hf
 have hF := hfa.trans hf (fun _ _ h => h)
 have hR : w2.heap[w.heap.size]? = some (.cells noS.toArray 122 (0, 0)) := hf.keep (heap_alloc_at _ _) (fun h => h)
 clear hfa hf HC h
 rcases hv with ⟨p, hp, hid, rfl⟩ | ⟨hno, rfl⟩
 ·have hr := h2.saga hp
  have hl := sagaC_len p.2.id p.2.st.length _ (six_len _ (h6 p hp))
  have hst := run_store14 hR noS_len hl (sagaC_one _ _ _)
  have hRE := setRow_heap w2 w.heap.size _ (sagaC p.2.id p.2.st.length (six p.2.st)).toArray 122 (0, 0) hR
  obtain ⟨WE, HWE⟩ : ∃ WE, Hid (WE = w2.setRow w.heap.size (sagaC p.2.id p.2.st.length (six p.2.st)).toArray) := ⟨_, rfl⟩
  have hFE : Fr (fun _ => False) w WE := by rw [HWE.out]; exact hF.setRow _ (fun h => by omega) _
  rw [← HWE.out] at hst hRE
  have HE : Hid (∃ p ∈ es, p.2.id = id ∧ Ending.returned (.tuple #[.agg (sagaC p.2.id p.2.st.length (six p.2.st)).toArray, .bool true]) = Ending.returned (.tuple #[.agg (sagaC p.2.id p.2.st.length (six p.2.st)).toArray, .bool true])) := ⟨p, hp, hid, rfl⟩
  unfold epv
  clear HWE h2 hF
  go_wp2_with (first | (refine wpList_load_mid rfl 122 _ rfl p.1 0 ?_ _ _ hr Tryz.underlying122 rfl ?_ ?_; rfl; (rw [rsaga_size, hl])) | (refine wpList_store 122 (w' := WE) _ _ rfl rfl ?_ ?_; exact hst))
  refine bodyPost_ret (results_row_tmp Tryz.results58 _ _ w.heap.size 122 _ (0, 0) _ rfl hRE Tryz.underlying122 rfl (by rw [rsaga_size, List.size_toArray, hl])) rfl ⟨.inl ⟨p, hp, hid, rfl⟩, hFE⟩
 ·have hst := run_store14 hR noS_len noS_len (sagaC_one _ _ _)
  have hRE := setRow_heap w2 w.heap.size _ noS.toArray 122 (0, 0) hR
  obtain ⟨WE, HWE⟩ : ∃ WE, Hid (WE = w2.setRow w.heap.size noS.toArray) := ⟨_, rfl⟩
  have hFE : Fr (fun _ => False) w WE := by rw [HWE.out]; exact hF.setRow _ (fun h => by omega) _
  rw [← HWE.out] at hst hRE
  have HN : Hid (∀ p ∈ es, p.2.id ≠ id) := hno
  clear HWE h2 hF hno
  go_wp2_with (first | (refine wpList_store 122 (w' := WE) _ _ rfl rfl ?_ ?_; exact hst))
  refine bodyPost_ret (results_row_tmp Tryz.results58 _ _ w.heap.size 122 _ (0, 0) _ rfl hRE Tryz.underlying122 rfl (by kernel_rfl)) rfl ⟨.inr ⟨HN.out, rfl⟩, hFE⟩
set_option maxRecDepth 100000 in
theorem need_ok (id : Int) (st : List SS) (w : World) (h6 : st.length ≤ 6) : Calls Tryz.prog 90 #[.agg (sagaC id st.length (six st)).toArray] w fun e w' => e = .returned (.int .i64 (2 * st.length)) ∧ Fr (fun _ => False) w w' := by
 have hrow := heap_alloc_at w (.cells (sagaC id st.length (six st)).toArray 122)
 have c1 : (w.alloc (.cells (sagaC id st.length (six st)).toArray 122)).cell? ⟨w.heap.size, 1, none⟩ = some (.int .i64 st.length) := (cell_of_row _ _ 1 _ _ _ hrow).trans rfl
 have hf : Fr (fun _ => False) w (w.alloc (.cells (sagaC id st.length (six st)).toArray 122)) := (Fr.refl _ _).alloc _
 have h6' : (st.length : Int) ≤ 6 := by omega
 go_enter Tryz.func90, Tryz.ntmps90
 go_wp2
 go_ret
 exact ⟨by go_num, hf⟩
theorem exec_leq {ρ : Operand → Value} {o : Oper} {x y : Operand} {a b : Int} (ho : o.op = .binOp .leq 3 x y 3) (hx : ρ x = .int .i64 a) (hy : ρ y = .int .i64 b) (w : World) : (execOp ρ o).run Tryz.prog w = .ok (.value (.bool (decide (a ≤ b)))) w := by
 simp only [execOp, ho, hx, hy]
 kernel_rfl
theorem load14 {w : World} {g : Nat} {id : Int} {st : List SS} {t : TypeId} (h : w.heap[g]? = some (.cells (sagaC id st.length (six st)).toArray t (0, 0))) (h6 : st.length ≤ 6) : (Instr.loadAt 122 (.pointer (some ⟨g, 0, none⟩))).run Tryz.prog w = .ok (.agg (sagaC id st.length (six st)).toArray) w :=
 run_loadAt_mid w g 0 122 (sagaC id st.length (six st)) _ (fun j v hv => (cell_of_row w g (0 + j) _ _ _ h).trans (by simpa using hv)) Tryz.underlying122 rfl (by rw [rsaga_size, sagaC_len _ _ _ (six_len _ h6)])
set_option maxRecDepth 100000 in
theorem Fits_ok (h : RollAt w R base room ev es) (id : Int) (st : List SS) (h6 : st.length ≤ 6) : Calls Tryz.prog 59 #[.pointer (some ⟨R, 0, none⟩), .agg (sagaC id st.length (six st)).toArray] w fun e w' => e = .returned (.bool (decide (2 * (st.length : Int) ≤ room))) ∧ Fr (fun _ => False) w w' := by
 have hlift : Tryz.prog.follows .mixedOrders = true := by kernel_rfl
 have hrow := heap_alloc_at w (.cells (sagaC id st.length (six st)).toArray 122)
 have hfa : Fr (fun _ => False) w (w.alloc (.cells (sagaC id st.length (six st)).toArray 122)) := (Fr.refl _ _).alloc _
 have hR := h.frz hfa
 go_enter Tryz.func59, Tryz.ntmps59
 go_wp2
 obtain ⟨W, HW⟩ : ∃ W, Hid (W = (w.alloc (.cells (sagaC id st.length (six st)).toArray 122)).drew) := ⟨_, rfl⟩
 have hfW : Fr (fun _ => False) (w.alloc (.cells (sagaC id st.length (six st)).toArray 122)) W := by rw [HW.out]; exact (Fr.refl _ _).drew
 let S : World → Prop := fun w' => w'.cell? ⟨R, 1, none⟩ = some (.int .i64 room) ∧ w'.heap[w.heap.size]? = some (.cells (sagaC id st.length (six st)).toArray 122 (0, 0))
 have hS : S W := ⟨(hR.frz hfW).c1, hfW.keep hrow (fun h => h)⟩
 refine wp_region_held (S := S) hlift ?_
 change wpAnyH _ _ _ _ S _ _ _ (World.drew _)
 rw [← HW.out]
 clear HW
 refine tkY (S := S) (i := 0) (oi := ⟨some 5, .load 122 (.tmp 3), _, _, _, none⟩) (v := .agg (sagaC id st.length (six st)).toArray) rfl (Or.inl ⟨rfl, fun w' hs => exec_load 122 (.tmp 3) rfl ⟨w.heap.size, 0, none⟩ rfl (load14 hs.2 h6)⟩) hS ?_
 simp only [Act.put, lsE, lsZ, lsS]
 refine tkE (S := S) (i := 2) (oi := ⟨some 7, .move (.tmp 0), _, _, _, none⟩) (v := .pointer (some ⟨R, 0, none⟩)) rfl hS ?_
 simp only [Act.put, lsE, lsZ, lsS]
 refine tkE (S := S) (i := 3) (oi := ⟨some 8, .nilCheck (.tmp 7), _, _, _, none⟩) (v := .pointer (some ⟨R, 0, none⟩)) rfl hS ?_
 simp only [Act.put, lsE, lsZ, lsS]
 refine tkE (S := S) (i := 4) (oi := ⟨some 9, .fieldAddr 176 (.tmp 8) 1, _, _, _, none⟩) (v := .pointer (some ⟨R, 1, none⟩)) rfl hS ?_
 simp only [Act.put, lsE, lsZ, lsS]
 refine tkY (S := S) (i := 5) (oi := ⟨some 10, .load 3 (.tmp 9), _, _, _, none⟩) (v := .int .i64 room) rfl (Or.inl ⟨rfl, fun w' hs => exec_load 3 (.tmp 9) rfl ⟨R, 1, none⟩ rfl (run_loadAt_one hs.1 Tryz.underlying3 rfl)⟩) hS ?_
 simp only [Act.put, lsE, lsZ, lsS]
 refine wpAnyH_all (rs := [1]) (by kernel_rfl) (by simp) ?_
 intro i1 hi1
 obtain rfl : i1 = 1 := by simpa using hi1
 refine wpOp_call (o := ⟨some 6, .call { callee := .value (.func 90), args := #[(.tmp 5)], argTypes := _ }, _, _, _, none⟩) (f := 90) (args := #[.agg (sagaC id st.length (six st)).toArray]) rfl rfl (by kernel_rfl) ?_
 refine (need_ok id st W h6).mono ?_
 rintro e w3 ⟨rfl, hf3⟩
 have hS3 : S w3 := ⟨hf3.cell hS.1 (fun h => h), hf3.keep hS.2 (fun h => h)⟩
 refine ⟨_, rfl, hS3, ?_⟩
 simp only [Act.put, lsE, lsZ, lsS]
 refine tkY (S := S) (i := 6) (oi := ⟨some 11, .binOp .leq 3 (.tmp 6) (.tmp 10) 3, _, _, _, none⟩) (v := .bool (decide (2 * (st.length : Int) ≤ room))) rfl (Or.inl ⟨rfl, fun w' _ => exec_leq rfl rfl rfl w'⟩) hS3 ?_
 simp only [Act.put, lsE, lsZ, lsS]
 refine tkE (S := S) (i := 7) (oi := ⟨some 4, .assign (.tmp 11), _, _, _, none⟩) (v := .bool (decide (2 * (st.length : Int) ≤ room))) rfl hS3 ?_
 simp only [Act.put, lsE, lsZ, lsS]
 refine wpAnyH_done (by kernel_rfl) ?_ _
 go_wp2
 go_ret
 exact ⟨rfl, (hfa.trans hfW (fun _ _ h => h)).trans hf3 (fun _ _ h => h)⟩
theorem status_size : (Tryz.prog.info? 42).map (·.size) = some 6 := by kernel_rfl
theorem ST.len (s : ST) : s.cs.length = 6 := rfl
theorem ST.one (s : ST) : ∀ v ∈ s.cs, v.oneCell' = true := by intro v hv; simp only [ST.cs, List.mem_cons, List.not_mem_nil, or_false] at hv; rcases hv with rfl | rfl | rfl | rfl | rfl | rfl <;> rfl
theorem run_store6 {w : World} {g : Nat} {cs r : List Value} {t ty : TypeId} (hg : w.heap[g]? = some (.cells cs.toArray t (0, 0))) (hc : cs.length = 6) (hl : r.length = 6) (h1 : ∀ v ∈ r, v.oneCell' = true) (hi : (Tryz.prog.info? ty).map (·.size) = some 6) : (Instr.storeAt ty (.pointer (some ⟨g, 0, none⟩)) (.agg r.toArray)).run Tryz.prog w = .ok () (w.setRow g r.toArray) := by
 have := run_storeAt_row (P := Tryz.prog) (o := 0) (ty := ty) (vs := r) hg (by omega) h1 (by rw [hi, hl])
 rwa [show splice cs 0 r = r from by simp [splice, hl, hc]] at this
set_option maxRecDepth 100000 in
set_option maxHeartbeats 1000000 in
theorem rollStatus_ok (h : RollAt w R base room ev es) (hs : Sorted es) (hn : es.length ≤ 100000) (h6 : ∀ p ∈ es, p.2.st.length ≤ 6) (id : Int) : Calls Tryz.prog 44 #[.pointer (some ⟨R, 0, none⟩), .int .i64 id] w fun e w' => ((∃ p ∈ es, p.2.id = id ∧ e = .returned (.tuple #[.agg p.2.told.cs.toArray, .bool true])) ∨ ((∀ p ∈ es, p.2.id ≠ id) ∧ e = .returned (.tuple #[.agg zST.cs.toArray, .bool false]))) ∧ Fr (fun _ => False) w w' := by
 have hfa : Fr (fun _ => False) w (w.alloc (.cells zST.cs.toArray 42)) := (Fr.refl _ _).alloc _
 have HC := rfind_ok (h.frz hfa) hs hn id
 go_enter Tryz.func44, Tryz.ntmps44
 go_wp2_with fail
 refine HC.mono ?_
 rintro e w2 ⟨v, rfl, hv, hf⟩
 have h2 := (h.frz hfa).frz hf
 have hF := hfa.trans hf (fun _ _ h => h)
 have hR : w2.heap[w.heap.size]? = some (.cells zST.cs.toArray 42 (0, 0)) := hf.keep (heap_alloc_at _ _) (fun h => h)
 clear hfa hf HC h
 rcases hv with ⟨p, hp, hid, rfl⟩ | ⟨hno, rfl⟩
 ·have hr := h2.stand hp (h6 p hp)
  have hst := run_store6 (ty := 42) hR rfl p.2.told.len p.2.told.one status_size
  have hRE := setRow_heap w2 w.heap.size _ p.2.told.cs.toArray 42 (0, 0) hR
  obtain ⟨WE, HWE⟩ : ∃ WE, Hid (WE = w2.setRow w.heap.size p.2.told.cs.toArray) := ⟨_, rfl⟩
  have hFE : Fr (fun _ => False) w WE := by rw [HWE.out]; exact hF.setRow _ (fun h => by omega) _
  rw [← HWE.out] at hst hRE
  unfold epv
  clear HWE h2 hF
  go_wp2_with (first | (refine wpList_load_mid rfl 138 _ rfl p.1 14 ?_ _ _ hr Tryz.underlying138 rfl ?_ ?_; rfl; exact stand_size) | (refine wpList_store 42 (w' := WE) _ _ rfl rfl ?_ ?_; exact hst))
  refine bodyPost_ret (results_row_tmp Tryz.results44 _ _ w.heap.size 42 _ (0, 0) _ rfl hRE Tryz.underlying42 rfl status_size) rfl ⟨.inl ⟨p, hp, hid, rfl⟩, hFE⟩
 ·have HN : Hid (∀ p ∈ es, p.2.id ≠ id) := hno
  have hst := run_store6 (ty := 42) hR rfl zST.len zST.one status_size
  have hRE := setRow_heap w2 w.heap.size _ zST.cs.toArray 42 (0, 0) hR
  obtain ⟨WE, HWE⟩ : ∃ WE, Hid (WE = w2.setRow w.heap.size zST.cs.toArray) := ⟨_, rfl⟩
  have hFE : Fr (fun _ => False) w WE := by rw [HWE.out]; exact hF.setRow _ (fun h => by omega) _
  rw [← HWE.out] at hst hRE
  clear HWE h2 hF hno
  go_wp2_with (first | (refine wpList_store 42 (w' := WE) _ _ rfl rfl ?_ ?_; exact hst))
  refine bodyPost_ret (results_row_tmp Tryz.results44 _ _ w.heap.size 42 _ (0, 0) _ rfl hRE Tryz.underlying42 rfl status_size) rfl ⟨.inr ⟨HN.out, rfl⟩, hFE⟩
end
end Go.Proofs.YteebjgfalllbjaaGreatDoor
