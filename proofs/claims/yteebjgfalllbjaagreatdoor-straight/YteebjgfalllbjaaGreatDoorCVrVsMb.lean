import Derived.Test.YteebjgfalllbjaaGreatDoorCVqPtRd
import Derived.Test.YteebjgfalllbjaaGreatDoorCSaSvDv
import Derived.Test.YteebjgfalllbjaaGreatDoorCSb
namespace Go.Proofs.YteebjgfalllbjaaGreatDoor
open Go.RowKit
section
variable {w : World} {R base : Nat} {room : Int} {ev : Value} {es : List (Nat × AS)}
def mapE (es : List (Nat × AS)) (id : Int) (f : AS → AS) : List (Nat × AS) := es.map fun p => if p.2.id = id then (p.1, f p.2) else p
theorem ent_splice (a b : AS) (h6 : a.st.length ≤ 6) (hid : b.id = a.id) (hst : b.st = a.st) : splice (entC a) 14 b.told.cs = entC b := by
 have hl := sagaC_len a.id a.st.length _ (six_len _ h6)
 have e : entC b = sagaC a.id a.st.length (six a.st) ++ b.told.cs := by rw [entC, hid, hst]
 rw [e, entC, splice_at _ _ _ _ hl]
 simp [ST.cs]
theorem entC_id {a b : AS} (h : (entC a).toArray = (entC b).toArray) : a.id = b.id := by
 have h' : entC a = entC b := by simpa using congrArg Array.toList h
 simp only [entC, sagaC, List.cons_append, List.cons.injEq] at h'
 have := h'.1
 simpa using this
theorem RollAt.turn (h : RollAt w R base room ev es) (hs : Sorted es) {p : Nat × AS} (hp : p ∈ es) (f : AS → AS) (hid : (f p.2).id = p.2.id) : RollAt (w.setRow p.1 (entC (f p.2)).toArray) R base room ev (mapE es p.2.id f) ∧ Fr (fun b => b = p.1) w (w.setRow p.1 (entC (f p.2)).toArray) := by
 have hF : Fr (fun b => b = p.1) w (w.setRow p.1 (entC (f p.2)).toArray) := Fr.setRow (S := fun b => b = p.1) (Fr.refl _ w) p.1 (fun _ => rfl) _
 obtain ⟨t1, t2, t3⟩ := roll_types h
 refine ⟨⟨hF.keep h.r (fun e => t2 p hp e.symm), ?_, ?_⟩, hF⟩
 ·have ho := own_fr h.o hF (fun b _ _ hb e => t3 p hp (by rw [hb, e]))
  have e1 : (mapE es p.2.id f).length = es.length := by simp [mapE]
  have e2 : (mapE es p.2.id f).map epv = es.map epv := by
   rw [mapE, List.map_map]
   refine List.map_congr_left fun q _ => ?_
   show epv (if q.2.id = p.2.id then (q.1, f q.2) else q) = epv q
   split <;> rfl
  rw [e1, e2]
  exact ho
 ·intro q hq
  obtain ⟨z, hz, rfl⟩ := List.mem_map.1 hq
  by_cases e : z.2.id = p.2.id
  ·obtain rfl := sorted_uniq hs hz hp e
   rw [if_pos rfl]
   exact ⟨(h.e z hz).1, setRow_heap _ _ _ _ _ _ (h.e z hz).2⟩
  ·rw [if_neg e]
   refine ⟨(h.e z hz).1, hF.keep (h.e z hz).2 (fun e1 => e ?_)⟩
   have e1' : z.1 = p.1 := e1
   have h1 := (h.e z hz).2
   rw [e1', (h.e p hp).2] at h1
   have h2 : (entC p.2).toArray = (entC z.2).toArray := by
    simp only [Option.some.injEq, Obj.cells.injEq] at h1
    exact h1.1
   exact (entC_id h2).symm
set_option maxRecDepth 100000 in
set_option maxHeartbeats 4000000 in
theorem rMove_ok (h : RollAt w R base room ev es) (hs : Sorted es) (hn : es.length ≤ 100000) {ck : Int} (hok : ∀ p ∈ es, p.2.Ok ck) {p : Nat × AS} (hp : p ∈ es) (reply : Int) (ho : p.2.open) (hm : p.2.moves reply = true) : Calls Tryz.prog 76 #[.pointer (some ⟨R, 0, none⟩), .agg #[.int .i64 p.2.id, .int .i64 reply]] w fun e w' => e = .returned (.bool true) ∧ RollAt w' R base room ev (mapE es p.2.id (·.go reply)) ∧ Fr (fun b => b = p.1) w w' := by
 have hfa : Fr (fun _ => False) w (w.alloc (.cells #[.int .i64 p.2.id, .int .i64 reply] 196)) := (Fr.refl _ _).alloc _
 have HC := rMoves_ok (h.frz hfa) hs hn hok p.2.id reply
 rw [mvE_of hs hp rfl, decide_eq_true ho, hm, Bool.and_self] at HC
 have hlift : Tryz.prog.follows .mixedOrders = true := by kernel_rfl
 obtain ⟨id, hid⟩ : ∃ id, id = p.2.id := ⟨_, rfl⟩
 have hrow := heap_alloc_at w (.cells #[.int .i64 p.2.id, .int .i64 reply] 196)
 rw [← hid] at HC hfa hrow ⊢
 have HID : Hid (id = p.2.id) := hid
 clear hid
 go_enter Tryz.func76, Tryz.ntmps76
 go_wp2_with fail
 refine HC.mono ?_
 rintro e w2 ⟨rfl, hf⟩
 have hM : w2.heap[w.heap.size]? = some (.cells #[.int .i64 id, .int .i64 reply] 196 (0, 0)) := hf.keep (heap_alloc_at _ _) (fun h => h)
 have m0 : w2.cell? ⟨w.heap.size, 0, none⟩ = some (.int .i64 id) := (cell_of_row _ _ 0 _ _ _ hM).trans rfl
 have h2 := (h.frz hfa).frz hf
 have hF := hfa.trans hf (fun _ _ h => h)
 clear hfa hf HC h
 have HC := rfind_ok h2 hs hn id
 go_wp2_with fail
 refine HC.mono ?_
 rintro e w3 ⟨v, rfl, hv, hf3⟩
 have h3 := h2.frz hf3
 have hF3 := hF.trans hf3 (fun _ _ h => h)
 have hM3 := hf3.keep hM (fun h => h)
 have m1 : w3.cell? ⟨w.heap.size, 1, none⟩ = some (.int .i64 reply) := (cell_of_row _ _ 1 _ _ _ hM3).trans rfl
 obtain rfl : v = epv p := by
  rcases hv with ⟨q, hq, he, rfl⟩ | ⟨hno, _⟩
  ·rw [sorted_uniq hs hq hp (he.trans HID.out)]
  ·exact absurd HID.out.symm (hno p hp)
 clear HC h2 hv hF hf3 hM m0
 unfold epv
 go_wp2_with fail
 have hpo := hok p hp
 have HMV := fun W => stMoved_ok W p.2.told reply hpo.s (fun h => ⟨(hpo.p h).1, by have := (hpo.p h).2; have := hpo.l6; show p.2.S.2 ≤ 6; omega⟩)
 rw [told_moved p.2 hpo, if_pos ⟨ho, hm⟩] at HMV
 obtain ⟨W, HW⟩ : ∃ W, Hid (W = w3.drew) := ⟨_, rfl⟩
 have hfW : Fr (fun _ => False) w3 W := by rw [HW.out]; exact (Fr.refl _ _).drew
 let S : World → Prop := fun w' => w'.cell? ⟨w.heap.size, 1, none⟩ = some (.int .i64 reply)
 have hS : S W := hfW.cell m1 (fun h => h)
 refine wp_region_held (S := S) hlift ?_
 change wpAnyH _ _ _ _ S _ _ _ (World.drew _)
 rw [← HW.out]
 clear HW
 refine tkE (S := S) (i := 0) (oi := ⟨some 15, .move (.tmp 5), _, _, _, none⟩) (v := .pointer (some ⟨p.1, 0, none⟩)) rfl hS ?_
 simp only [Act.put, lsE, lsZ, lsS]
 refine tkE (S := S) (i := 1) (oi := ⟨some 16, .move (.tmp 5), _, _, _, none⟩) (v := .pointer (some ⟨p.1, 0, none⟩)) rfl hS ?_
 simp only [Act.put, lsE, lsZ, lsS]
 refine tkE (S := S) (i := 2) (oi := ⟨some 17, .nilCheck (.tmp 16), _, _, _, none⟩) (v := .pointer (some ⟨p.1, 0, none⟩)) rfl hS ?_
 simp only [Act.put, lsE, lsZ, lsS]
 refine tkE (S := S) (i := 3) (oi := ⟨some 18, .fieldAddr 140 (.tmp 17) 1, _, _, _, none⟩) (v := .pointer (some ⟨p.1, 14, none⟩)) rfl hS ?_
 simp only [Act.put, lsE, lsZ, lsS]
 refine tkE (S := S) (i := 5) (oi := ⟨some 20, .fieldAddr 196 (.tmp 3) 1, _, _, _, none⟩) (v := .pointer (some ⟨w.heap.size, 1, none⟩)) rfl hS ?_
 simp only [Act.put, lsE, lsZ, lsS]
 refine tkY (S := S) (i := 6) (oi := ⟨some 21, .load 3 (.tmp 20), _, _, _, none⟩) (v := .int .i64 reply) rfl (Or.inl ⟨rfl, fun w' hs => exec_load 3 (.tmp 20) rfl ⟨w.heap.size, 1, none⟩ rfl (run_loadAt_one hs Tryz.underlying3 rfl)⟩) hS ?_
 simp only [Act.put, lsE, lsZ, lsS]
 refine wpAnyH_all (rs := [4]) (by kernel_rfl) (by simp) ?_
 intro i4 hi4
 obtain rfl : i4 = 4 := by simpa using hi4
 have hrW := (h3.frz hfW).stand hp hpo.l6
 refine wpOp_value (o := ⟨some 19, .load 138 (.tmp 18), _, _, _, none⟩) (v := .agg p.2.told.cs.toArray) (w' := W) rfl rfl (exec_load 138 (.tmp 18) rfl ⟨p.1, 14, none⟩ rfl (load6m hrW)) ⟨hS, ?_⟩
 simp only [Act.put, lsE, lsZ, lsS]
 refine wpAnyH_all (rs := [7]) (by kernel_rfl) (by simp) ?_
 intro i7 hi7
 obtain rfl : i7 = 7 := by simpa using hi7
 refine wpOp_call (o := ⟨some 22, .call { callee := .value (.func 118), args := #[(.tmp 19), (.tmp 21)], argTypes := _ }, _, _, _, none⟩) (f := 118) (args := #[.agg p.2.told.cs.toArray, .int .i64 reply]) rfl rfl (by kernel_rfl) ?_
 refine (HMV W).mono ?_
 rintro e w4 ⟨rfl, hf4⟩
 have hS4 : S w4 := hf4.cell hS (fun h => h)
 refine ⟨_, rfl, hS4, ?_⟩
 simp only [Act.put, lsE, lsZ, lsS]
 refine tkE (S := S) (i := 8) (oi := ⟨some 14, .move (.tmp 22), _, _, _, none⟩) (v := .tuple #[.agg (p.2.go reply).told.cs.toArray, .bool true]) rfl hS4 ?_
 simp only [Act.put, lsE, lsZ, lsS]
 refine tkE (S := S) (i := 9) (oi := ⟨some 23, .extract (.tmp 14) 0, _, _, _, none⟩) (v := .agg (p.2.go reply).told.cs.toArray) rfl hS4 ?_
 simp only [Act.put, lsE, lsZ, lsS]
 refine tkE (S := S) (i := 10) (oi := ⟨some 24, .extract (.tmp 14) 1, _, _, _, none⟩) (v := .bool true) rfl hS4 ?_
 simp only [Act.put, lsE, lsZ, lsS]
 refine tkE (S := S) (i := 11) (oi := ⟨some 25, .nilCheck (.tmp 15), _, _, _, none⟩) (v := .pointer (some ⟨p.1, 0, none⟩)) rfl hS4 ?_
 simp only [Act.put, lsE, lsZ, lsS]
 refine tkE (S := S) (i := 12) (oi := ⟨some 26, .fieldAddr 140 (.tmp 25) 1, _, _, _, none⟩) (v := .pointer (some ⟨p.1, 14, none⟩)) rfl hS4 ?_
 simp only [Act.put, lsE, lsZ, lsS]
 refine wpAnyH_all (rs := [13]) (by kernel_rfl) (by simp) ?_
 intro i13 hi13
 obtain rfl : i13 = 13 := by simpa using hi13
 have h4 := (h3.frz hfW).frz hf4
 have hst := run_storeAt_row (P := Tryz.prog) (o := 14) (ty := 138) (vs := (p.2.go reply).told.cs) (h4.e p hp).2 (by rw [entC_len _ hpo.l6]; exact Nat.le_refl 20) (ST.one _) (by rw [stand_size]; rfl)
 rw [ent_splice p.2 (p.2.go reply) hpo.l6 rfl rfl] at hst
 obtain ⟨hRT, hFT⟩ := h4.turn hs hp (·.go reply) rfl
 have hne : w.heap.size ≠ p.1 := fun e => by
  have h9 := (h3.e p hp).2
  rw [← e, hM3] at h9
  simp at h9
 have hSE : S (w4.setRow p.1 (entC (p.2.go reply)).toArray) := hFT.cell hS4 hne
 refine wpOp_skip (o := ⟨none, .store 138 (.tmp 26) (.tmp 23), _, _, _, none⟩) (w' := w4.setRow p.1 (entC (p.2.go reply)).toArray) rfl rfl (exec_store 138 _ _ rfl ⟨p.1, 14, none⟩ _ rfl rfl hst) ⟨hSE, ?_⟩
 simp only [Act.put]
 refine wpAnyH_done (by kernel_rfl) ?_ _
 have HE : Hid (RollAt (w4.setRow p.1 (entC (p.2.go reply)).toArray) R base room ev (mapE es id (·.go reply)) ∧ Fr (fun b => b = p.1) w (w4.setRow p.1 (entC (p.2.go reply)).toArray)) := ⟨by rw [HID.out]; exact hRT, (((hF3.trans hfW (fun _ _ h => h)).trans hf4 (fun _ _ h => h)).mono (fun _ _ h => h.elim)).trans hFT (fun _ _ h => h)⟩
 clear hRT hFT hst hSE h4 HMV
 go_wp2
 go_ret
 exact ⟨rfl, HE.out.1, HE.out.2⟩
end
end Go.Proofs.YteebjgfalllbjaaGreatDoor
namespace Go.Proofs.YteebjgfalllbjaaGreatDoor
open Go.RowKit
theorem bitLen_blen : ∀ p < 65, 1 ≤ p → Lib.bitLen p = blen p := by decide
section
variable {w : World} {R base : Nat} {room : Int} {ev : Value} {es : List (Nat × AS)}
theorem putOff_as (W : World) (a : AS) (clock pause : Int) {ck : Int} (ha : a.Ok ck) (hck : ck ≤ 1000000) (h1 : 1 ≤ pause) (h2 : pause ≤ 64) (hc0 : 0 ≤ clock) (hc1 : clock ≤ 1000000) : Calls Tryz.prog 163 #[.agg a.told.cs.toArray, .int .i64 clock, .int .i64 pause] W fun e w' => e = .returned (.agg (a.vain clock pause).told.cs.toArray) ∧ Fr (fun _ => False) W w' := by
 obtain ⟨id, st, ⟨s1, s2⟩, tries, due⟩ := a
 have ht0 : 0 ≤ tries := ha.t0
 have ht1 : tries ≤ ck := ha.t1
 obtain ⟨n, rfl⟩ : ∃ n : Nat, tries = n := ⟨tries.toNat, by omega⟩
 obtain ⟨q, rfl⟩ : ∃ q : Nat, pause = q := ⟨pause.toNat, by omega⟩
 have hb := bitLen_blen q (by omega) (by omega)
 have hw := wait_bl q (by omega) (by omega) n
 have HP := putOff_ok W id s1 s2 st.length due n (min n (blen q)) clock q h1 h2 (by rw [Int.toNat_natCast, hb]; omega) (by omega) hc0 hc1
 have e : ST.off ⟨id, s1, s2, st.length, (n : Nat), due⟩ clock q (min n (blen q)) = AS.told (AS.vain ⟨id, st, (s1, s2), (n : Int), due⟩ clock q) := by
  unfold ST.off AS.told AS.vain
  simp only [Int.toNat_natCast, ← hw]
  congr 2
  omega
 rw [e] at HP
 exact HP
set_option maxRecDepth 100000 in
set_option maxHeartbeats 4000000 in
theorem rPutOff_ok (h : RollAt w R base room ev es) (hs : Sorted es) (hn : es.length ≤ 100000) {ck : Int} (hok : ∀ p ∈ es, p.2.Ok ck) (hck : ck ≤ 1000000) {p : Nat × AS} (hp : p ∈ es) (clock pause : Int) (h1 : 1 ≤ pause) (h2 : pause ≤ 64) (hc0 : 0 ≤ clock) (hc1 : clock ≤ 1000000) : Calls Tryz.prog 150 #[.pointer (some ⟨R, 0, none⟩), .int .i64 p.2.id, .int .i64 clock, .int .i64 pause] w fun e w' => e = .returned (.tuple #[]) ∧ RollAt w' R base room ev (mapE es p.2.id (·.vain clock pause)) ∧ Fr (fun b => b = p.1) w w' := by
 have hlift : Tryz.prog.follows .mixedOrders = true := by kernel_rfl
 obtain ⟨id, hid⟩ : ∃ id, id = p.2.id := ⟨_, rfl⟩
 rw [← hid]
 have HID : Hid (id = p.2.id) := hid
 clear hid
 have HC := rfind_ok h hs hn id
 go_enter Tryz.func150, Tryz.ntmps150
 go_wp2_with fail
 refine HC.mono ?_
 rintro e w3 ⟨v, rfl, hv, hf3⟩
 have h3 := h.frz hf3
 obtain rfl : v = epv p := by
  rcases hv with ⟨q, hq, he, rfl⟩ | ⟨hno, _⟩
  ·rw [sorted_uniq hs hq hp (he.trans HID.out)]
  ·exact absurd HID.out.symm (hno p hp)
 clear HC h hv
 unfold epv
 have hpo := hok p hp
 have hr := h3.stand hp hpo.l6
 have HP := fun W => putOff_as W p.2 clock pause hpo hck h1 h2 hc0 hc1
 go_wp2_with (first | (refine wpList_load_mid rfl 138 _ rfl p.1 14 ?_ _ _ hr Tryz.underlying138 rfl ?_ ?_; rfl; exact stand_size))
 refine (HP _).mono ?_
 rintro e w4 ⟨rfl, hf4⟩
 have h4 := h3.frz hf4
 have hst := run_storeAt_row (P := Tryz.prog) (o := 14) (ty := 138) (vs := (p.2.vain clock pause).told.cs) (h4.e p hp).2 (by rw [entC_len _ hpo.l6]; exact Nat.le_refl 20) (ST.one _) (by rw [stand_size]; rfl)
 rw [ent_splice p.2 (p.2.vain clock pause) hpo.l6 rfl rfl] at hst
 obtain ⟨hRT, hFT⟩ := h4.turn hs hp (·.vain clock pause) rfl
 obtain ⟨WE, HWE⟩ : ∃ WE, Hid (WE = w4.setRow p.1 (entC (p.2.vain clock pause)).toArray) := ⟨_, rfl⟩
 have HE : Hid (RollAt WE R base room ev (mapE es id (·.vain clock pause)) ∧ Fr (fun b => b = p.1) w WE) := ⟨by rw [HID.out, HWE.out]; exact hRT, by rw [HWE.out]; exact ((hf3.trans hf4 (fun _ _ h => h)).mono (fun _ _ h => h.elim)).trans hFT (fun _ _ h => h)⟩
 rw [← HWE.out] at hst
 clear hRT hFT h4 h3 HP hr HWE
 go_wp2_with (first | (refine wpList_store 138 (w' := WE) _ _ rfl rfl ?_ ?_; exact hst))
 exact bodyPost_end (results_none rfl _ _ _) rfl ⟨rfl, HE.out.1, HE.out.2⟩
end
end Go.Proofs.YteebjgfalllbjaaGreatDoor
namespace Go.Proofs.YteebjgfalllbjaaGreatDoor
open Go.RowKit
theorem bodyM_len (id n : Nat) : (bodyS id n [] 0).length = 124 := by rw [bodyS_nil]; simp
set_option maxRecDepth 100000 in
set_option maxHeartbeats 4000000 in
theorem mBlock_ok (w : World) (id n : Nat) (hid : id ≤ 1000) (hn : n ≤ 2) : Calls Tryz.prog 151 #[.agg #[.int .i64 id, .int .i64 n]] w fun e w' => e = .returned (.agg (ldB 3 (bodyS id n [] 0) 4).toArray) ∧ Fr (fun _ => False) w w' := by
 obtain ⟨W, HW⟩ : ∃ W, Hid (W = ((w.alloc (.cells #[.int .i64 id, .int .i64 n] 196)).alloc (.cells Tryz.zeroCells130 130)).alloc (.cells Tryz.zeroCells182 182)) := ⟨_, rfl⟩
 have hF : Fr (fun _ => False) w W := by rw [HW.out]; exact (((Fr.refl _ _).alloc _).alloc _).alloc _
 have r0 : W.heap[w.heap.size]? = some (.cells #[.int .i64 id, .int .i64 n] 196 (0, 0)) := by
  rw [HW.out, heap_alloc_lt _ _ _ (by simp; omega), heap_alloc_lt _ _ _ (by simp)]; exact heap_alloc_at _ _
 have r1 : W.heap[w.heap.size + 1]? = some (.cells zB.toArray 130 (0, 0)) := by
  rw [HW.out, heap_alloc_lt _ _ _ (by simp)]; exact heap_alloc2_new w _ _
 have r2 : W.heap[w.heap.size + 2]? = some (.cells (zv :: zv :: List.replicate 122 zv).toArray 182 (0, 0)) := by
  rw [HW.out]
  have := heap_alloc_at ((w.alloc (.cells #[.int .i64 id, .int .i64 n] 196)).alloc (.cells Tryz.zeroCells130 130)) (.cells Tryz.zeroCells182 182)
  simp only [World.size_alloc] at this
  rw [zeroB_eq] at this ⊢
  exact this
 have c0 : (((w.alloc (.cells #[.int .i64 id, .int .i64 n] 196)).alloc (.cells Tryz.zeroCells130 130)).alloc (.cells Tryz.zeroCells182 182)).cell? ⟨w.heap.size, 0, none⟩ = some (.int .i64 id) := by rw [← HW.out]; exact (cell_of_row _ _ 0 _ _ _ r0).trans rfl
 go_enter Tryz.func151, Tryz.ntmps151
 go_wp2_with fail
 rw [← HW.out]
 refine (putId_ok r2 id hid).mono ?_
 rintro e w1 ⟨rfl, h2, hf1⟩
 have h0 := hf1.keep r0 (by omega)
 have h1 := hf1.keep r1 (by omega)
 have hF1 : Fr (fun _ => False) w w1 := hF.trans hf1 (fun _ _ h => by omega)
 have c1 : w1.cell? ⟨w.heap.size, 1, none⟩ = some (.int .i64 n) := (cell_of_row _ _ 1 _ _ _ h0).trans rfl
 have hst := run_storeAt_one (P := Tryz.prog) (w := w1) (a := ⟨w.heap.size + 2, 2, none⟩) (t := 5) (v := .int .u8 n) ((cell_of_row _ _ 2 _ _ _ h2).trans rfl) (frozen_of_row _ _ 2 _ _ h2) (by kernel_rfl) rfl
 have k2 : (w1.setCell ⟨w.heap.size + 2, 2, none⟩ (.int .u8 n)).heap[w.heap.size + 2]? = some (.cells (bodyS id n [] 0).toArray 182 (0, 0)) := by
  rw [heap_setCell_at _ _ _ _ _ _ h2, bodyS_nil]
  rfl
 have hf2 : Fr (fun b => b = w.heap.size + 2) w1 (w1.setCell ⟨w.heap.size + 2, 2, none⟩ (.int .u8 n)) := Fr.set1 _ _ _ _
 obtain ⟨W2, HW2⟩ : ∃ W2, Hid (W2 = w1.setCell ⟨w.heap.size + 2, 2, none⟩ (.int .u8 n)) := ⟨_, rfl⟩
 rw [← HW2.out] at hst k2 hf2
 have HI : Hid (Fr (fun _ => False) w W2 ∧ W2.heap[w.heap.size + 1]? = some (.cells zB.toArray 130 (0, 0))) := ⟨hF1.trans hf2 (fun _ _ h => by omega), hf2.keep h1 (by omega)⟩
 have hwn : IntKind.u8.wrap (n : Int) = n := by rw [IntKind.wrap_u8]; omega
 have hwm : (n : Int) % 256 = n := by omega
 have hbl := bodyM_len id n
 have hb1 : ∀ v ∈ bodyS id n [] 0, v.oneCell' = true := bodyS_one _ _ _ _
 have hM6 : W2.rangeAt (w.heap.size + 1 + 1) 0 (bodyS id n [] 0) := fun j v hv => (cell_of_row W2 _ (0 + j) _ _ _ k2).trans (by simpa using hv)
 clear HW HW2 hF r0 r1 r2 c0 hf1 h0 h1 h2 hf2 k2
 go_wp2_with (first | (refine wpList_store 5 (w' := W2) _ _ rfl rfl ?_ ?_; exact hst) | (refine wpList_load_mid rfl 182 _ rfl (w.heap.size + 1 + 1) 0 ?_ _ _ hM6 Tryz.underlying182 rfl ?_ ?_; rfl; (rw [body_size, hbl])))
 refine (laid_ok W2 3 _ hbl hb1).mono ?_
 rintro e w7 ⟨rfl, hf7⟩
 have r7 := hf7.keep HI.out.2 (fun h => h)
 have hll : (ldB 3 (bodyS id n [] 0) 4).length = 128 := ldB_len 3 _ hbl 4 (by omega)
 have hst7 := run_store_blk r7 zB_len hll (ldB_one 3 _ hb1 4)
 have hRE := setRow_heap w7 (w.heap.size + 1) _ (ldB 3 (bodyS id n [] 0) 4).toArray 130 (0, 0) r7
 obtain ⟨WE, HWE⟩ : ∃ WE, Hid (WE = w7.setRow (w.heap.size + 1) (ldB 3 (bodyS id n [] 0) 4).toArray) := ⟨_, rfl⟩
 have hFE : Fr (fun _ => False) w WE := by rw [HWE.out]; exact (HI.out.1.trans hf7 (fun _ _ h => h)).setRow _ (fun h => by omega) _
 rw [← HWE.out] at hst7 hRE
 clear HWE hM6 HI hf7 r7
 go_wp2_with (first | (refine wpList_store 130 (w' := WE) _ _ rfl rfl ?_ ?_; exact hst7))
 refine bodyPost_ret (v := .agg (ldB 3 (bodyS id n [] 0) 4).toArray) (results_cell_row Tryz.results151 _ _ (w.heap.size + 1) 130 _ (0, 0) _ rfl hRE Tryz.underlying130 rfl (by rw [block_size, List.size_toArray, hll])) rfl ⟨rfl, hFE⟩
end Go.Proofs.YteebjgfalllbjaaGreatDoor
