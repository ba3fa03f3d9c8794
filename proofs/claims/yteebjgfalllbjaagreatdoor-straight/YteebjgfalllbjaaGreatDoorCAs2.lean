import Derived.Test.YteebjgfalllbjaaGreatDoorCPaAs1Kd
import Derived.Deep.Cut
namespace Go.Proofs.YteebjgfalllbjaaGreatDoor
open Go.RowKit
section
variable {w : World} {Pp b0 : Nat} {lg ef l : Value} {log : List (CL × Nat)} {eff : List CL} {rl : List Int} {at0 : Int}
theorem AkI.set3 {at' : Int} {c : CL} {ef' : Value} {eff' : List CL} {W : World} (h : AkI w Pp b0 lg ef l log rl at' c ef' eff' W) (x : Int) : AkI w Pp b0 lg ef l log rl x c ef' eff' (W.setCell ⟨Pp, 3, none⟩ (.int .i64 x)) :=
 have hne : w.heap.size ≠ Pp := fun e => by have := h.c; rw [e, h.p] at this; simp at this
 ⟨heap_setCell_at W Pp 3 _ _ _ h.p, (heap_setCell_ne W ⟨Pp, 3, none⟩ w.heap.size _ hne).trans h.c, own_set h.p (by decide) h.lo, own_set h.p (by decide) h.eo, own_set h.p (by decide) h.la, h.fr.setCell _ (fun _ => .inl rfl) _, h.ef⟩
set_option maxRecDepth 100000 in
set_option maxHeartbeats 8000000 in
theorem Ask_any (h : PrtAt w Pp b0 lg ef l log eff rl at0) (hb0 : b0 ≤ w.heap.size) (hnl : log.length ≤ 20000000) (hne : eff.length ≤ 20000000) {a : Nat} (ha0 : at0 = a) (ha : a ≤ 20000000) (hN2 : rl.length ≤ 1000000) (hrl : ∀ z ∈ rl, -9223372036854775808 ≤ z ∧ z ≤ 9223372036854775807) {kk : Int} (hkk : kk = kOf rl a) {at' : Int} (hat : at' = (nOf rl a : Nat)) (c : CL) : Calls Tryz.prog 47 #[.pointer (some ⟨Pp, 0, none⟩), .agg c.cs.toArray] w fun e w' => e = .returned (.int .i64 (askR kk (eff.any (·.same c)) c.back : Nat)) ∧ ∃ ef', AskQ w Pp b0 lg ef l log rl at' c (askR kk (eff.any (·.same c)) c.back) ef' (askE kk (eff.any (·.same c)) eff c) w' := by
 generalize hRR : askR kk (eff.any (·.same c)) c.back = RR
 generalize hEE : askE kk (eff.any (·.same c)) eff c = EE
 have HRR : Hid (askR kk (eff.any (·.same c)) c.back = RR) := hRR
 have HEE : Hid (askE kk (eff.any (·.same c)) eff c = EE) := hEE
 clear hRR hEE
 have hlift : Tryz.prog.follows .mixedOrders = true := by kernel_rfl
 have hPl := lt_of_heap h.p
 have hlgl : ∀ b, lg.ownBlock = some b → b < w.heap.size := fun b hb => (h.lo.lt b hb).2
 have hefl : ∀ b, ef.ownBlock = some b → b < w.heap.size := fun b hb => (h.eo.lt b hb).2
 subst ha0
 have hfa : Fr (fun _ => False) w (w.alloc (.cells c.cs.toArray 50)) := (Fr.refl _ _).alloc _
 have hC0 := heap_alloc_at w (.cells c.cs.toArray 50)
 obtain ⟨W1, HW1⟩ : ∃ W1, Hid (W1 = w.alloc (.cells c.cs.toArray 50)) := ⟨_, rfl⟩
 have hA1 : AkI w Pp b0 lg ef l log rl a c ef eff W1 := by
  rw [HW1.out]
  exact ⟨hfa.keep h.p (fun h => h), hC0, own_fr h.lo hfa (fun _ _ _ _ h => h), own_fr h.eo hfa (fun _ _ _ _ h => h), own_fr h.la hfa (fun _ _ _ _ h => h), hfa.mono (fun _ _ h => h.elim), fun b hb => .inl (.inr (.inr (.inl hb)))⟩
 obtain ⟨N, hN⟩ : ∃ N, N = rl.length := ⟨_, rfl⟩
 obtain ⟨la, lc, hle⟩ : ∃ la lc, l = .slice la N lc := by
  rcases h.la.2 with ⟨e, hn⟩ | ⟨g, cap, cur, e, _⟩
  ·exact ⟨none, 0, by rw [e, hN, hn]⟩
  ·exact ⟨_, _, by rw [e, hN]⟩
 have x2 : (w.alloc (.cells c.cs.toArray 50)).cell? ⟨Pp, 2, none⟩ = some (.slice la N lc) := (cell_of_row _ Pp 2 _ _ _ (hfa.keep h.p (fun h => h))).trans (by rw [← hle]; rfl)
 have HN : Hid (N = rl.length ∧ l = .slice la N lc) := ⟨hN, hle⟩
 have hN2' : N ≤ 1000000 := by omega
 clear hN hle h
 go_enter Tryz.func47, Tryz.ntmps47
 go_upto_if 12 with fail
 rw [← HW1.out] at *
 clear HW1 hfa hC0
 go_cut [5] from 7 (fun k W => k = .int .i64 kk ∧ Hid (AkI w Pp b0 lg ef l log rl at' c ef eff W))
 case first =>
  obtain ⟨hN, hle⟩ := HN.out
  by_cases h0 : N = 0
  ·have hnil : rl = [] := List.eq_nil_of_length_eq_zero (by omega)
   have hk0 : kk = 0 := by rw [hkk, kOf, if_pos hnil]
   have ha1 : at' = a := by rw [hat, nOf, if_pos hnil]
   have HA : Hid (AkI w Pp b0 lg ef l log rl at' c ef eff W1) := by rw [ha1]; exact hA1
   clear hA1 hN hle
   have hn0 : ¬ (0 : Int) < N := by omega
   go_wp2
   go_meet
   case rel => exact ⟨by rw [hk0], HA⟩
  ·have hN1 : (0 : Int) < N := by omega
   have hne0 : ¬ rl = [] := fun e => by rw [e] at hN; simp at hN; omega
   obtain ⟨i, hi⟩ : ∃ i, i = a % N := ⟨_, rfl⟩
   have hilt : i < N := by rw [hi]; exact Nat.mod_lt _ (by omega)
   obtain ⟨z, hz⟩ : ∃ z, rl[i]? = some z := ⟨_, List.getElem?_eq_getElem (by omega)⟩
   obtain ⟨hz1, hz2⟩ := hrl z (List.mem_of_getElem? hz)
   have hkz : kk = z % 6 := by rw [hkk, kOf, if_neg hne0, ← hN, ← hi, List.getD_eq_getElem?_getD, hz]; rfl
   have ha1 : at' = (a : Int) + 1 := by rw [hat, nOf, if_neg hne0]; push_cast; rfl
   obtain ⟨gl, rfl, hel⟩ : ∃ gl, la = some ⟨gl, 0, none⟩ ∧ W1.cell? ⟨gl, i, none⟩ = some (.int .i64 z) := own_cell (by have := hA1.la; rw [hle, ← hN] at this; exact this) (i := i) (v := .int .i64 z) (by rw [List.getElem?_map, hz]; rfl)
   have x3 : W1.cell? ⟨Pp, 3, none⟩ = some (.int .i64 a) := (cell_of_row _ Pp 3 _ _ _ hA1.p).trans rfl
   have hNn : ¬ (N : Int) = 0 := by omega
   have hm1 : (a : Int).tmod N = i := by rw [Int.tmod_eq_emod_of_nonneg (by omega), hi]; push_cast; rfl
   have hm2 : (a : Int) % N = i := by rw [hi]; push_cast; rfl
   have hilt' : (i : Int) < N := by omega
   have HA : Hid (AkI w Pp b0 lg ef l log rl a c ef eff W1) := hA1
   have HKZ : Hid (kk = z % 6 ∧ at' = (a : Int) + 1) := ⟨hkz, ha1⟩
   clear hA1 hz hkz ha1 hi hat hkk hle hN hne0 HN hN2 hrl
   go_wp2
   refine wp_region_still_lit (by kernel_rfl) (by kernel_rfl) (Bx.out ?_)
   repeat (refine bx_step (fun K hK => ?_); go_simp; refine hK _ ?_; clear hK K)
   refine bx_nil ?_
   obtain ⟨W2, HW2⟩ : ∃ W2, Hid (W2 = W1.drew) := ⟨_, rfl⟩
   rw [show ({ heap := W1.heap, tape := W1.tape, drawn := W1.drawn + 1, os := W1.os, output := W1.output } : World) = W2 from HW2.out.symm]
   have hA2 : AkI w Pp b0 lg ef l log rl a c ef eff W2 := by rw [HW2.out]; exact HA.out.frz (Fr.refl _ _).drew
   have y3 : W2.cell? ⟨Pp, 3, none⟩ = some (.int .i64 a) := (cell_of_row _ Pp 3 _ _ _ hA2.p).trans rfl
   have z3 : W2.frozen? ⟨Pp, 3, none⟩ = false := frozen_of_row _ Pp 3 _ _ hA2.p
   have HA3 : Hid (AkI w Pp b0 lg ef l log rl ((a : Int) + 1) c ef eff (W2.setCell ⟨Pp, 3, none⟩ (.int .i64 ((a : Int) + 1)))) := hA2.set3 _
   have ht : -6 < z.tmod 6 ∧ z.tmod 6 < 6 ∧ z % 6 = if z.tmod 6 < 0 then z.tmod 6 + 6 else z.tmod 6 := by
    have h6 := Int.emod_nonneg z (b := 6) (by decide)
    have h7 := Int.emod_lt_of_pos z (b := 6) (by decide)
    have h8 := Int.tmod_eq_emod (a := z) (b := 6)
    split at h8 <;> split <;> omega
   have hKZ := HKZ.out
   generalize z.tmod 6 = t at *
   have ea : wrap64 ((a : Int) + 1) = (a : Int) + 1 := by unfold wrap64; omega
   have e6 : wrap64 (t + 6) = t + 6 := by unfold wrap64; omega
   have HT : Hid (-6 < t ∧ t < 6 ∧ z % 6 = (if t < 0 then t + 6 else t) ∧ kk = z % 6 ∧ at' = (a : Int) + 1) := ⟨ht.1, ht.2.1, ht.2.2, hKZ.1, hKZ.2⟩
   clear ht hKZ HKZ hA2 HW2 HA x2 x3 hel hm1 hm2 hz1 hz2
   by_cases htn : t < 0
   ·go_wp2
    go_meet
    case rel =>
     refine ⟨by rw [HT.out.2.2.2.1, HT.out.2.2.1, if_pos htn, e6], ?_⟩
     rw [HT.out.2.2.2.2]
     exact HA3
   ·go_wp2
    go_meet
    case rel =>
     refine ⟨by rw [HT.out.2.2.2.1, HT.out.2.2.1, if_neg (by omega)], ?_⟩
     rw [HT.out.2.2.2.2]
     exact HA3
 case rest =>
  obtain ⟨rfl, HAW⟩ := hcut
  clear hA1
  have hA1 := HAW.out
  have hrg : wc.rangeAt w.heap.size 0 c.cs := fun j v hv => (cell_of_row _ _ (0 + j) _ _ _ hA1.c).trans (by simpa using hv)
  clear HAW x2 HN hN2 hN2' hrl hkk hat ha W1
  go_wp2_with (first | (refine wpList_load_mid rfl 50 (.tmp 3) rfl w.heap.size 0 ?_ _ _ hrg Tryz.underlying50 rfl ?_ ?_; rfl; exact call_size))
  rename_i K2 hK2 K1 hK1 K0 hK0
  have TAIL : ∀ (u1 u2 u4 u5 u7 u8 u9 u10 u11 u12 u13 u14 u15 u16 u17 u18 u19 u20 u21 u22 u23 u24 u25 u26 u27 u28 u29 u30 u31 u32 u33 u34 u35 u36 u37 u38 u39 u40 u41 u42 u43 u44 u45 u46 u47 u48 u49 u50 u51 u52 u53 u54 u55 u56 u57 u58 u59 u60 u61 u62 u63 u64 u65 u66 u67 u68 u69 u70 u71 u72 u73 u74 u75 u76 u77 u78 u79 u80 u81 u82 u83 u84 u85 u86 u87 u88 u89 : Value) (r : Nat) (ef' : Value) (eff' : List CL) (W0 : World), r = RR → eff' = EE → AkI w Pp b0 lg ef l log rl at' c ef' eff' W0 → K2 { tmps := #[.pointer (some ⟨Pp, 0, none⟩), u1, u2, .pointer (some ⟨w.heap.size, 0, none⟩), u4, u5, .int .i64 r, u7, u8, u9, u10, u11, u12, u13, u14, u15, u16, u17, u18, u19, u20, u21, u22, u23, u24, u25, u26, u27, u28, u29, u30, u31, u32, u33, u34, u35, u36, u37, u38, u39, u40, u41, u42, u43, u44, u45, u46, u47, u48, u49, u50, u51, u52, u53, u54, u55, u56, u57, u58, u59, u60, u61, u62, u63, u64, u65, u66, u67, u68, u69, u70, u71, u72, u73, u74, u75, u76, u77, u78, u79, u80, u81, u82, u83, u84, u85, u86, u87, u88, u89], defers := [] } W0 := by
   intro u1 u2 u4 u5 u7 u8 u9 u10 u11 u12 u13 u14 u15 u16 u17 u18 u19 u20 u21 u22 u23 u24 u25 u26 u27 u28 u29 u30 u31 u32 u33 u34 u35 u36 u37 u38 u39 u40 u41 u42 u43 u44 u45 u46 u47 u48 u49 u50 u51 u52 u53 u54 u55 u56 u57 u58 u59 u60 u61 u62 u63 u64 u65 u66 u67 u68 u69 u70 u71 u72 u73 u74 u75 u76 u77 u78 u79 u80 u81 u82 u83 u84 u85 u86 u87 u88 u89 r ef' eff' W0 hr1 he1 hW
   have HR1 : Hid (r = RR) := hr1
   have HE1 : Hid (eff' = EE) := he1
   clear hr1 he1
   apply hK2
   have hP0 := hW.p
   have hsz0 : w.heap.size < W0.heap.size := lt_of_heap hW.c
   have NBOX : ∀ b, lg.ownBlock = some b → b ≠ w.heap.size := fun b hb => by have := hlgl b hb; omega
   have NPP : ∀ b, lg.ownBlock = some b → b ≠ Pp := fun b hb e => by
    obtain ⟨cs, hcs⟩ := own_ty hW.lo hb
    rw [e, hP0] at hcs
    simp at hcs
   have NEF : ∀ b cs, W0.heap[b]? = some (.cells cs 50 (0, 0)) → ef'.ownBlock = some b → ¬ (b = Pp ∨ lg.ownBlock = some b) := by
    rintro b cs hb hv (h | h)
    ·rw [h, hP0] at hb; simp at hb
    ·obtain ⟨cs', hcs⟩ := own_ty hW.lo h
     rw [hb] at hcs; simp at hcs
   have NLA : ∀ b cs, W0.heap[b]? = some (.cells cs 3 (0, 0)) → l.ownBlock = some b → ¬ (b = Pp ∨ lg.ownBlock = some b) := by
    rintro b cs hb hv (h | h)
    ·rw [h, hP0] at hb; simp at hb
    ·obtain ⟨cs', hcs⟩ := own_ty hW.lo h
     rw [hb] at hcs; simp at hcs
   go_wp2_with fail
   obtain ⟨W8, HW8⟩ : ∃ W8, Hid (W8 = W0.drew) := ⟨_, rfl⟩
   have hfW8 : Fr (fun _ => False) W0 W8 := by rw [HW8.out]; exact (Fr.refl _ _).drew
   let S8 : World → Prop := fun w' => w'.heap[w.heap.size]? = some (.cells c.cs.toArray 50 (0, 0))
   have hS8 : S8 W8 := hfW8.keep hW.c (fun h => h)
   refine wp_region_held (S := S8) hlift ?_
   change wpAnyH _ _ _ _ S8 _ _ _ (World.drew _)
   rw [← HW8.out]
   clear HW8
   refine tkE (S := S8) (i := 0) (oi := ⟨some 77, .move (.tmp 0), _, _, _, none⟩) (v := .pointer (some ⟨Pp, 0, none⟩)) rfl hS8 ?_
   simp only [Act.put, lsE, lsZ, lsS]
   refine tkE (S := S8) (i := 1) (oi := ⟨some 78, .move (.tmp 0), _, _, _, none⟩) (v := .pointer (some ⟨Pp, 0, none⟩)) rfl hS8 ?_
   simp only [Act.put, lsE, lsZ, lsS]
   refine tkE (S := S8) (i := 2) (oi := ⟨some 79, .nilCheck (.tmp 78), _, _, _, none⟩) (v := .pointer (some ⟨Pp, 0, none⟩)) rfl hS8 ?_
   simp only [Act.put, lsE, lsZ, lsS]
   refine tkE (S := S8) (i := 3) (oi := ⟨some 80, .fieldAddr 48 (.tmp 79) 0, _, _, _, none⟩) (v := .pointer (some ⟨Pp, 0, none⟩)) rfl hS8 ?_
   simp only [Act.put, lsE, lsZ, lsS]
   refine tkY (S := S8) (i := 5) (oi := ⟨some 82, .load 50 (.tmp 3), _, _, _, none⟩) (v := .agg c.cs.toArray) rfl (Or.inl ⟨rfl, fun w' hs => exec_load 50 (.tmp 3) rfl ⟨w.heap.size, 0, none⟩ rfl (loadC hs)⟩) hS8 ?_
   simp only [Act.put, lsE, lsZ, lsS]
   refine tkE (S := S8) (i := 6) (oi := ⟨some 83, .move (.tmp 6), _, _, _, none⟩) (v := .int .i64 r) rfl hS8 ?_
   simp only [Act.put, lsE, lsZ, lsS]
   refine tkY (S := S8) (i := 7) (oi := ⟨some 84, .build 52 #[(0, (.tmp 82)), (1, (.tmp 83))], _, _, _, none⟩) (v := .agg (c.cs ++ [Value.int .i64 r]).toArray) rfl (Or.inl ⟨rfl, fun w' _ => exec_buildK rfl rfl rfl (run_build_asked c r w')⟩) hS8 ?_
   simp only [Act.put, lsE, lsZ, lsS]
   have hl1 : (Instr.loadAt 45 (.pointer (some ⟨Pp, 0, none⟩))).run Tryz.prog W8 = .ok lg W8 := run_loadAt_one ((cell_of_row W8 Pp 0 _ _ _ (hfW8.keep hP0 (fun h => h))).trans rfl) Tryz.underlying45 rfl
   have hPA := (((Fr.refl (fun _ => False) W8).alloc (.cells (c.cs ++ [Value.int .i64 r]).toArray 52))).keep (hfW8.keep hP0 (fun h => h)) (fun h => h)
   have hl2 : (Instr.loadAt 45 (.pointer (some ⟨Pp, 0, none⟩))).run Tryz.prog (W8.alloc (.cells (c.cs ++ [Value.int .i64 r]).toArray 52)) = .ok lg (W8.alloc (.cells (c.cs ++ [Value.int .i64 r]).toArray 52)) := run_loadAt_one ((cell_of_row _ Pp 0 _ _ _ hPA).trans rfl) Tryz.underlying45 rfl
   have hbs : (Instr.buildSlice 45 1 #[(0, .agg (c.cs ++ [Value.int .i64 r]).toArray)]).run Tryz.prog W8 = .ok (.slice (some ⟨W8.heap.size, 0, none⟩) 1 1) (W8.alloc (.cells (c.cs ++ [Value.int .i64 r]).toArray 52)) := run_bs_asked c r W8
   have hFA : Fr (fun _ => False) W8 (W8.alloc (.cells (c.cs ++ [Value.int .i64 r]).toArray 52)) := (Fr.refl _ _).alloc _
   have hSA : S8 (W8.alloc (.cells (c.cs ++ [Value.int .i64 r]).toArray 52)) := hFA.keep hS8 (fun h => h)
   have hownA := own_fr (own_fr hW.lo hfW8 (fun _ _ _ _ h => h)) hFA (fun _ _ _ _ h => h)
   have hnewsA := World.news_of_block (w := W8.alloc (.cells (c.cs ++ [Value.int .i64 r]).toArray 52)) (B := W8.heap.size) (heap_alloc_at W8 (.cells (c.cs ++ [Value.int .i64 r]).toArray 52))
   have hsW := hfW8.size
   have hzA : b0 ≤ (W8.alloc (.cells (c.cs ++ [Value.int .i64 r]).toArray 52)).heap.size := by simp; omega
   obtain ⟨inf, hi0, hz0, hz1, hz2⟩ := info_parts asked_info
   refine wpAnyH_all (rs := [4, 8]) (by kernel_rfl) (by simp) ?_
   intro iz hiz
   have hzz : iz = 4 ∨ iz = 8 := by simpa using hiz
   rcases hzz with rfl | rfl
   ·refine wpOp_value (o := ⟨some 81, .load 45 (.tmp 80), _, _, _, none⟩) (v := lg) rfl rfl (exec_load 45 (.tmp 80) rfl ⟨Pp, 0, none⟩ rfl hl1) ⟨hS8, ?_⟩
    simp only [Act.put, lsE, lsZ, lsS]
    refine wpAnyH_all (rs := [8]) (by kernel_rfl) (by simp) ?_
    intro ib hib
    obtain rfl : ib = 8 := by simpa using hib
    refine wpOp_value (o := ⟨some 85, .buildSlice 45 1 #[(0, .tmp 84)], _, _, _, none⟩) (v := .slice (some ⟨W8.heap.size, 0, none⟩) 1 1) (w' := W8.alloc (.cells (c.cs ++ [Value.int .i64 r]).toArray 52)) rfl rfl (exec_buildSlice 45 1 #[(0, .tmp 84)] rfl #[(0, .agg (c.cs ++ [Value.int .i64 r]).toArray)] (by simp [Act.eval]) hbs) ⟨hSA, ?_⟩
    simp only [Act.put, lsE, lsZ, lsS]
    refine wpAnyH_all (rs := [9]) (by kernel_rfl) (by simp) ?_
    intro ia hia
    obtain rfl : ia = 9 := by simpa using hia
    refine wpOp_of_wp (o := ⟨some 86, .call { callee := .builtin .append, args := #[.tmp 81, .tmp 85], argTypes := #[45, 45] }, _, _, _, none⟩) rfl rfl ?_
    refine wp_append_lies _ (.tmp 81) (.tmp 85) 45 rfl b0 52 inf (.agg #[.int .i64 0, .int .i64 0, .bool false, .string ⟨#[]⟩, .int .i64 0]) 5 48 Tryz.underlying45 hi0 hz0 hz1 hz2 rfl (by decide) lg log.length (logC log) rfl hownA ⟨W8.heap.size, 0, none⟩ 1 1 (c.cs ++ [Value.int .i64 r]) rfl rfl hnewsA (by intro v hv; simp [CL.cs] at hv; rcases hv with rfl | rfl | rfl | rfl | rfl <;> rfl) (by decide) (by unfold maxLen; omega) (by omega) hzA _ rfl ?_
    intro gn cap wn hon hgrow hat hlt
    have hSn : S8 wn := by
     show wn.heap[w.heap.size]? = _
     rw [hgrow.block w.heap.size (lt_of_heap hSA) (fun e => NBOX _ e.symm rfl)]; exact hSA
    refine ⟨hSn, ?_⟩
    simp only [Act.put, lsE, lsZ, lsS]
    refine tkE (S := S8) (i := 10) (oi := ⟨some 87, .nilCheck (.tmp 77), _, _, _, none⟩) (v := .pointer (some ⟨Pp, 0, none⟩)) rfl hSn ?_
    simp only [Act.put, lsE, lsZ, lsS]
    refine tkE (S := S8) (i := 11) (oi := ⟨some 88, .fieldAddr 48 (.tmp 87) 0, _, _, _, none⟩) (v := .pointer (some ⟨Pp, 0, none⟩)) rfl hSn ?_
    simp only [Act.put, lsE, lsZ, lsS]
    refine wpAnyH_all (rs := [12]) (by kernel_rfl) (by simp) ?_
    intro is his
    obtain rfl : is = 12 := by simpa using his
    have hPn : wn.heap[Pp]? = _ := (hgrow.block Pp (lt_of_heap hPA) (fun e => NPP _ e.symm rfl)).trans hPA
    have hPE := heap_setCell_at wn Pp 0 _ _ (.slice (some ⟨gn, 0, none⟩) (log.length + 1) cap) hPn
    have hcn : wn.cell? ⟨Pp, 0, none⟩ = some lg := (cell_of_row wn Pp 0 _ _ _ hPn).trans rfl
    have hSw : S8 (wn.setCell ⟨Pp, 0, none⟩ (.slice (some ⟨gn, 0, none⟩) (log.length + 1) cap)) := (heap_setCell_ne wn ⟨Pp, 0, none⟩ w.heap.size _ (by simp; omega)).trans hSn
    refine wpOp_skip (o := ⟨none, .store 45 (.tmp 88) (.tmp 86), _, _, _, none⟩) (w' := wn.setCell ⟨Pp, 0, none⟩ (.slice (some ⟨gn, 0, none⟩) (log.length + 1) cap)) rfl rfl (exec_store 45 (.tmp 88) (.tmp 86) rfl ⟨Pp, 0, none⟩ (.slice (some ⟨gn, 0, none⟩) (log.length + 1) cap) rfl rfl (run_storeAt_one hcn (frozen_of_row wn Pp 0 _ _ hPn) (by kernel_rfl) rfl)) ⟨hSw, ?_⟩
    simp only [Act.put]
    refine wpAnyH_done (by kernel_rfl) ?_ _
    have hgW : lg.ownBlock = some gn ∨ W8.heap.size ≤ gn := by
     rcases hat with e | e
     ·exact .inl e
     ·right; simp at e; omega
    have hFn : Fr (fun b => b = Pp ∨ lg.ownBlock = some b) W0 (wn.setCell ⟨Pp, 0, none⟩ (.slice (some ⟨gn, 0, none⟩) (log.length + 1) cap)) := Fr.setCell (S := fun b => b = Pp ∨ lg.ownBlock = some b) ((((hfW8.mono (fun _ _ h => h.elim)).trans (hFA.mono (fun _ _ h => h.elim)) (fun _ _ h => h)).grown hgrow (fun b _ hb => .inr hb))) ⟨Pp, 0, none⟩ (fun _ => .inl rfl) _
    have honE : (wn.setCell ⟨Pp, 0, none⟩ (.slice (some ⟨gn, 0, none⟩) (log.length + 1) cap)).ownsRow b0 52 5 (.slice (some ⟨gn, 0, none⟩) (log.length + 1) cap) (log.length + 1) ((logC log) ++ (c.cs ++ [Value.int .i64 r])) := own_set hPn (by decide) hon
    have hgl : gn < (wn.setCell ⟨Pp, 0, none⟩ (.slice (some ⟨gn, 0, none⟩) (log.length + 1) cap)).heap.size := by simpa [World.setCell] using hlt
    obtain ⟨WE, HWE⟩ : ∃ WE, Hid (WE = wn.setCell ⟨Pp, 0, none⟩ (.slice (some ⟨gn, 0, none⟩) (log.length + 1) cap)) := ⟨_, rfl⟩
    have hSw' : WE.heap[w.heap.size]? = some (.cells c.cs.toArray 50 (0, 0)) := by rw [HWE.out]; exact hSw
    rw [← HWE.out] at hPE hFn honE hgl ⊢
    clear HWE hSw hcn hPn hon hgrow hat hSn hlt
    have HE : Hid (AskQ w Pp b0 lg ef l log rl at' c r ef' eff' WE) := ⟨_, ⟨hPE, by rw [List.length_append, List.length_singleton, logC_snoc]; exact honE, own_fr hW.eo hFn (fun b cs hb hv h => NEF b cs hb hv h), own_fr hW.la hFn (fun b cs hb hv h => NLA b cs hb hv h)⟩, hW.fr.trans hFn (fun b hb h => by rcases h with h | h; exact .inl h; exact .inr (.inl h)), fun b hb => by
     simp only [Value.ownBlock, Option.some.injEq] at hb
     subst hb
     rcases hgW with h | h
     ·exact .inl (.inr (.inl h))
     ·exact .inr (by have := hW.fr.size; omega), hW.ef⟩
    clear hPE hFn honE hgl hSw' hgW
    go_wp2
    go_ret
    exact ⟨by rw [← HR1.out]; rfl, _, by rw [← HR1.out, ← HE1.out]; exact HE.out⟩
   ·refine wpOp_value (o := ⟨some 85, .buildSlice 45 1 #[(0, .tmp 84)], _, _, _, none⟩) (v := .slice (some ⟨W8.heap.size, 0, none⟩) 1 1) (w' := W8.alloc (.cells (c.cs ++ [Value.int .i64 r]).toArray 52)) rfl rfl (exec_buildSlice 45 1 #[(0, .tmp 84)] rfl #[(0, .agg (c.cs ++ [Value.int .i64 r]).toArray)] (by simp [Act.eval]) hbs) ⟨hSA, ?_⟩
    simp only [Act.put, lsE, lsZ, lsS]
    refine wpAnyH_all (rs := [4]) (by kernel_rfl) (by simp) ?_
    intro ib hib
    obtain rfl : ib = 4 := by simpa using hib
    refine wpOp_value (o := ⟨some 81, .load 45 (.tmp 80), _, _, _, none⟩) (v := lg) rfl rfl (exec_load 45 (.tmp 80) rfl ⟨Pp, 0, none⟩ rfl hl2) ⟨hSA, ?_⟩
    simp only [Act.put, lsE, lsZ, lsS]
    refine wpAnyH_all (rs := [9]) (by kernel_rfl) (by simp) ?_
    intro ia hia
    obtain rfl : ia = 9 := by simpa using hia
    refine wpOp_of_wp (o := ⟨some 86, .call { callee := .builtin .append, args := #[.tmp 81, .tmp 85], argTypes := #[45, 45] }, _, _, _, none⟩) rfl rfl ?_
    refine wp_append_lies _ (.tmp 81) (.tmp 85) 45 rfl b0 52 inf (.agg #[.int .i64 0, .int .i64 0, .bool false, .string ⟨#[]⟩, .int .i64 0]) 5 48 Tryz.underlying45 hi0 hz0 hz1 hz2 rfl (by decide) lg log.length (logC log) rfl hownA ⟨W8.heap.size, 0, none⟩ 1 1 (c.cs ++ [Value.int .i64 r]) rfl rfl hnewsA (by intro v hv; simp [CL.cs] at hv; rcases hv with rfl | rfl | rfl | rfl | rfl <;> rfl) (by decide) (by unfold maxLen; omega) (by omega) hzA _ rfl ?_
    intro gn cap wn hon hgrow hat hlt
    have hSn : S8 wn := by
     show wn.heap[w.heap.size]? = _
     rw [hgrow.block w.heap.size (lt_of_heap hSA) (fun e => NBOX _ e.symm rfl)]; exact hSA
    refine ⟨hSn, ?_⟩
    simp only [Act.put, lsE, lsZ, lsS]
    refine tkE (S := S8) (i := 10) (oi := ⟨some 87, .nilCheck (.tmp 77), _, _, _, none⟩) (v := .pointer (some ⟨Pp, 0, none⟩)) rfl hSn ?_
    simp only [Act.put, lsE, lsZ, lsS]
    refine tkE (S := S8) (i := 11) (oi := ⟨some 88, .fieldAddr 48 (.tmp 87) 0, _, _, _, none⟩) (v := .pointer (some ⟨Pp, 0, none⟩)) rfl hSn ?_
    simp only [Act.put, lsE, lsZ, lsS]
    refine wpAnyH_all (rs := [12]) (by kernel_rfl) (by simp) ?_
    intro is his
    obtain rfl : is = 12 := by simpa using his
    have hPn : wn.heap[Pp]? = _ := (hgrow.block Pp (lt_of_heap hPA) (fun e => NPP _ e.symm rfl)).trans hPA
    have hPE := heap_setCell_at wn Pp 0 _ _ (.slice (some ⟨gn, 0, none⟩) (log.length + 1) cap) hPn
    have hcn : wn.cell? ⟨Pp, 0, none⟩ = some lg := (cell_of_row wn Pp 0 _ _ _ hPn).trans rfl
    have hSw : S8 (wn.setCell ⟨Pp, 0, none⟩ (.slice (some ⟨gn, 0, none⟩) (log.length + 1) cap)) := (heap_setCell_ne wn ⟨Pp, 0, none⟩ w.heap.size _ (by simp; omega)).trans hSn
    refine wpOp_skip (o := ⟨none, .store 45 (.tmp 88) (.tmp 86), _, _, _, none⟩) (w' := wn.setCell ⟨Pp, 0, none⟩ (.slice (some ⟨gn, 0, none⟩) (log.length + 1) cap)) rfl rfl (exec_store 45 (.tmp 88) (.tmp 86) rfl ⟨Pp, 0, none⟩ (.slice (some ⟨gn, 0, none⟩) (log.length + 1) cap) rfl rfl (run_storeAt_one hcn (frozen_of_row wn Pp 0 _ _ hPn) (by kernel_rfl) rfl)) ⟨hSw, ?_⟩
    simp only [Act.put]
    refine wpAnyH_done (by kernel_rfl) ?_ _
    have hgW : lg.ownBlock = some gn ∨ W8.heap.size ≤ gn := by
     rcases hat with e | e
     ·exact .inl e
     ·right; simp at e; omega
    have hFn : Fr (fun b => b = Pp ∨ lg.ownBlock = some b) W0 (wn.setCell ⟨Pp, 0, none⟩ (.slice (some ⟨gn, 0, none⟩) (log.length + 1) cap)) := Fr.setCell (S := fun b => b = Pp ∨ lg.ownBlock = some b) ((((hfW8.mono (fun _ _ h => h.elim)).trans (hFA.mono (fun _ _ h => h.elim)) (fun _ _ h => h)).grown hgrow (fun b _ hb => .inr hb))) ⟨Pp, 0, none⟩ (fun _ => .inl rfl) _
    have honE : (wn.setCell ⟨Pp, 0, none⟩ (.slice (some ⟨gn, 0, none⟩) (log.length + 1) cap)).ownsRow b0 52 5 (.slice (some ⟨gn, 0, none⟩) (log.length + 1) cap) (log.length + 1) ((logC log) ++ (c.cs ++ [Value.int .i64 r])) := own_set hPn (by decide) hon
    have hgl : gn < (wn.setCell ⟨Pp, 0, none⟩ (.slice (some ⟨gn, 0, none⟩) (log.length + 1) cap)).heap.size := by simpa [World.setCell] using hlt
    obtain ⟨WE, HWE⟩ : ∃ WE, Hid (WE = wn.setCell ⟨Pp, 0, none⟩ (.slice (some ⟨gn, 0, none⟩) (log.length + 1) cap)) := ⟨_, rfl⟩
    have hSw' : WE.heap[w.heap.size]? = some (.cells c.cs.toArray 50 (0, 0)) := by rw [HWE.out]; exact hSw
    rw [← HWE.out] at hPE hFn honE hgl ⊢
    clear HWE hSw hcn hPn hon hgrow hat hSn hlt
    have HE : Hid (AskQ w Pp b0 lg ef l log rl at' c r ef' eff' WE) := ⟨_, ⟨hPE, by rw [List.length_append, List.length_singleton, logC_snoc]; exact honE, own_fr hW.eo hFn (fun b cs hb hv h => NEF b cs hb hv h), own_fr hW.la hFn (fun b cs hb hv h => NLA b cs hb hv h)⟩, hW.fr.trans hFn (fun b hb h => by rcases h with h | h; exact .inl h; exact .inr (.inl h)), fun b hb => by
     simp only [Value.ownBlock, Option.some.injEq] at hb
     subst hb
     rcases hgW with h | h
     ·exact .inl (.inr (.inl h))
     ·exact .inr (by have := hW.fr.size; omega), hW.ef⟩
    clear hPE hFn honE hgl hSw' hgW
    go_wp2
    go_ret
    exact ⟨by rw [← HR1.out]; rfl, _, by rw [← HR1.out, ← HE1.out]; exact HE.out⟩
  clear hK2 hrg
  refine (pDone_of hA1 hne).mono ?_
  rintro e w2 ⟨rfl, hf2⟩
  have hW : AkI w Pp b0 lg ef l log rl at' c ef eff w2 := hA1.frz hf2
  clear hA1 hf2
  cases hd : eff.any (·.same c)
  ·have HD : Hid (eff.any (·.same c) = false) := hd
   clear hd
   have q2 : w2.cell? ⟨w.heap.size, 2, none⟩ = some (.bool c.back) := (cell_of_row _ _ 2 _ _ _ hW.c).trans rfl
   by_cases h3 : kk = 3
   ·subst h3
    have HA : Hid (AkI w Pp b0 lg ef l log rl at' c ef eff w2) := hW
    clear hW
    go_wp2
    exact TAIL _ _ _ _ _ _ _ _ _ _ _ _ _ _ _ _ _ _ _ _ _ _ _ _ _ _ _ _ _ _ _ _ _ _ _ _ _ _ _ _ _ _ _ _ _ _ _ _ _ _ _ _ _ _ _ _ _ _ _ _ _ _ _ _ _ _ _ _ _ _ _ _ _ _ _ _ _ _ _ _ _ _ _ _ _ _ _ 1 _ _ _ (by rw [← HRR.out]; simp [askR, HD.out]) (by rw [← HEE.out]; simp [askE, HD.out]) HA.out
   ·by_cases h5 : kk = 5
    ·subst h5
     have HA : Hid (AkI w Pp b0 lg ef l log rl at' c ef eff w2) := hW
     clear hW
     cases hb : c.back
     ·have HB : Hid (c.back = false) := hb
      rw [hb] at q2
      clear hb
      go_wp2
      exact TAIL _ _ _ _ _ _ _ _ _ _ _ _ _ _ _ _ _ _ _ _ _ _ _ _ _ _ _ _ _ _ _ _ _ _ _ _ _ _ _ _ _ _ _ _ _ _ _ _ _ _ _ _ _ _ _ _ _ _ _ _ _ _ _ _ _ _ _ _ _ _ _ _ _ _ _ _ _ _ _ _ _ _ _ _ _ _ _ 2 _ _ _ (by rw [← HRR.out]; simp [askR, HD.out, HB.out]) (by rw [← HEE.out]; simp [askE, HD.out]) HA.out
     ·have HB : Hid (c.back = true) := hb
      rw [hb] at q2
      clear hb
      go_wp2
      exact TAIL _ _ _ _ _ _ _ _ _ _ _ _ _ _ _ _ _ _ _ _ _ _ _ _ _ _ _ _ _ _ _ _ _ _ _ _ _ _ _ _ _ _ _ _ _ _ _ _ _ _ _ _ _ _ _ _ _ _ _ _ _ _ _ _ _ _ _ _ _ _ _ _ _ _ _ _ _ _ _ _ _ _ _ _ _ _ _ 1 _ _ _ (by rw [← HRR.out]; simp [askR, HD.out, HB.out]) (by rw [← HEE.out]; simp [askE, HD.out]) HA.out
    ·go_wp2_with fail
     have hP0 := hW.p
     have hsz0 : w.heap.size < w2.heap.size := lt_of_heap hW.c
     have NBOX : ∀ b, ef.ownBlock = some b → b ≠ w.heap.size := fun b hb => by have := hefl b hb; omega
     have NPP : ∀ b, ef.ownBlock = some b → b ≠ Pp := fun b hb e => by
      obtain ⟨cs, hcs⟩ := own_ty hW.eo hb
      rw [e, hP0] at hcs
      simp at hcs
     have NLO : ∀ b cs, w2.heap[b]? = some (.cells cs 52 (0, 0)) → lg.ownBlock = some b → ¬ (b = Pp ∨ ef.ownBlock = some b) := by
      rintro b cs hb hv (h | h)
      ·rw [h, hP0] at hb; simp at hb
      ·obtain ⟨cs', hcs⟩ := own_ty hW.eo h
       rw [hb] at hcs; simp at hcs
     have NLA : ∀ b cs, w2.heap[b]? = some (.cells cs 3 (0, 0)) → l.ownBlock = some b → ¬ (b = Pp ∨ ef.ownBlock = some b) := by
      rintro b cs hb hv (h | h)
      ·rw [h, hP0] at hb; simp at hb
      ·obtain ⟨cs', hcs⟩ := own_ty hW.eo h
       rw [hb] at hcs; simp at hcs
     obtain ⟨W4, HW4⟩ : ∃ W4, Hid (W4 = w2.drew) := ⟨_, rfl⟩
     have hfW4 : Fr (fun _ => False) w2 W4 := by rw [HW4.out]; exact (Fr.refl _ _).drew
     let S4 : World → Prop := fun w' => w'.heap[w.heap.size]? = some (.cells c.cs.toArray 50 (0, 0))
     have hS4 : S4 W4 := hfW4.keep hW.c (fun h => h)
     refine wp_region_held (S := S4) hlift ?_
     change wpAnyH _ _ _ _ S4 _ _ _ (World.drew _)
     rw [← HW4.out]
     clear HW4
     refine tkE (S := S4) (i := 0) (oi := ⟨some 41, .move (.tmp 0), _, _, _, none⟩) (v := .pointer (some ⟨Pp, 0, none⟩)) rfl hS4 ?_
     simp only [Act.put, lsE, lsZ, lsS]
     refine tkE (S := S4) (i := 1) (oi := ⟨some 42, .move (.tmp 0), _, _, _, none⟩) (v := .pointer (some ⟨Pp, 0, none⟩)) rfl hS4 ?_
     simp only [Act.put, lsE, lsZ, lsS]
     refine tkE (S := S4) (i := 2) (oi := ⟨some 43, .nilCheck (.tmp 42), _, _, _, none⟩) (v := .pointer (some ⟨Pp, 0, none⟩)) rfl hS4 ?_
     simp only [Act.put, lsE, lsZ, lsS]
     refine tkE (S := S4) (i := 3) (oi := ⟨some 44, .fieldAddr 48 (.tmp 43) 1, _, _, _, none⟩) (v := .pointer (some ⟨Pp, 1, none⟩)) rfl hS4 ?_
     simp only [Act.put, lsE, lsZ, lsS]
     refine tkY (S := S4) (i := 5) (oi := ⟨some 46, .load 50 (.tmp 3), _, _, _, none⟩) (v := .agg c.cs.toArray) rfl (Or.inl ⟨rfl, fun w' hs => exec_load 50 (.tmp 3) rfl ⟨w.heap.size, 0, none⟩ rfl (loadC hs)⟩) hS4 ?_
     simp only [Act.put, lsE, lsZ, lsS]
     have hl1 : (Instr.loadAt 46 (.pointer (some ⟨Pp, 1, none⟩))).run Tryz.prog W4 = .ok ef W4 := run_loadAt_one ((cell_of_row W4 Pp 1 _ _ _ (hfW4.keep hP0 (fun h => h))).trans rfl) Tryz.underlying46 rfl
     have hPA := (((Fr.refl (fun _ => False) W4).alloc (.cells c.cs.toArray 50))).keep (hfW4.keep hP0 (fun h => h)) (fun h => h)
     have hl2 : (Instr.loadAt 46 (.pointer (some ⟨Pp, 1, none⟩))).run Tryz.prog (W4.alloc (.cells c.cs.toArray 50)) = .ok ef (W4.alloc (.cells c.cs.toArray 50)) := run_loadAt_one ((cell_of_row _ Pp 1 _ _ _ hPA).trans rfl) Tryz.underlying46 rfl
     have hbs : (Instr.buildSlice 46 1 #[(0, .agg c.cs.toArray)]).run Tryz.prog W4 = .ok (.slice (some ⟨W4.heap.size, 0, none⟩) 1 1) (W4.alloc (.cells c.cs.toArray 50)) := run_bs_call c W4
     have hFA : Fr (fun _ => False) W4 (W4.alloc (.cells c.cs.toArray 50)) := (Fr.refl _ _).alloc _
     have hSA : S4 (W4.alloc (.cells c.cs.toArray 50)) := hFA.keep hS4 (fun h => h)
     have hownA := own_fr (own_fr hW.eo hfW4 (fun _ _ _ _ h => h)) hFA (fun _ _ _ _ h => h)
     have hnewsA := World.news_of_block (w := W4.alloc (.cells c.cs.toArray 50)) (B := W4.heap.size) (heap_alloc_at W4 (.cells c.cs.toArray 50))
     have hsW := hfW4.size
     have hzA : b0 ≤ (W4.alloc (.cells c.cs.toArray 50)).heap.size := by simp; omega
     obtain ⟨inf, hi0, hz0, hz1, hz2⟩ := info_parts call_info
     refine wpAnyH_all (rs := [4, 6]) (by kernel_rfl) (by simp) ?_
     intro iz hiz
     have hzz : iz = 4 ∨ iz = 6 := by simpa using hiz
     rcases hzz with rfl | rfl
     ·refine wpOp_value (o := ⟨some 45, .load 46 (.tmp 44), _, _, _, none⟩) (v := ef) rfl rfl (exec_load 46 (.tmp 44) rfl ⟨Pp, 1, none⟩ rfl hl1) ⟨hS4, ?_⟩
      simp only [Act.put, lsE, lsZ, lsS]
      refine wpAnyH_all (rs := [6]) (by kernel_rfl) (by simp) ?_
      intro ib hib
      obtain rfl : ib = 6 := by simpa using hib
      refine wpOp_value (o := ⟨some 47, .buildSlice 46 1 #[(0, .tmp 46)], _, _, _, none⟩) (v := .slice (some ⟨W4.heap.size, 0, none⟩) 1 1) (w' := W4.alloc (.cells c.cs.toArray 50)) rfl rfl (exec_buildSlice 46 1 #[(0, .tmp 46)] rfl #[(0, .agg c.cs.toArray)] (by simp [Act.eval]) hbs) ⟨hSA, ?_⟩
      simp only [Act.put, lsE, lsZ, lsS]
      refine wpAnyH_all (rs := [7]) (by kernel_rfl) (by simp) ?_
      intro ia hia
      obtain rfl : ia = 7 := by simpa using hia
      refine wpOp_of_wp (o := ⟨some 48, .call { callee := .builtin .append, args := #[.tmp 45, .tmp 47], argTypes := #[46, 46] }, _, _, _, none⟩) rfl rfl ?_
      refine wp_append_lies _ (.tmp 45) (.tmp 47) 46 rfl b0 50 inf (.agg #[.int .i64 0, .int .i64 0, .bool false, .string ⟨#[]⟩]) 4 40 Tryz.underlying46 hi0 hz0 hz1 hz2 rfl (by decide) ef eff.length (effC eff) rfl hownA ⟨W4.heap.size, 0, none⟩ 1 1 c.cs rfl rfl hnewsA (by intro v hv; simp [CL.cs] at hv; rcases hv with rfl | rfl | rfl | rfl <;> rfl) (by decide) (by unfold maxLen; omega) (by omega) hzA _ rfl ?_
      intro gn cap wn hon hgrow hat hlt
      have hSn : S4 wn := by
       show wn.heap[w.heap.size]? = _
       rw [hgrow.block w.heap.size (lt_of_heap hSA) (fun e => NBOX _ e.symm rfl)]; exact hSA
      refine ⟨hSn, ?_⟩
      simp only [Act.put, lsE, lsZ, lsS]
      refine tkE (S := S4) (i := 8) (oi := ⟨some 49, .nilCheck (.tmp 41), _, _, _, none⟩) (v := .pointer (some ⟨Pp, 0, none⟩)) rfl hSn ?_
      simp only [Act.put, lsE, lsZ, lsS]
      refine tkE (S := S4) (i := 9) (oi := ⟨some 50, .fieldAddr 48 (.tmp 49) 1, _, _, _, none⟩) (v := .pointer (some ⟨Pp, 1, none⟩)) rfl hSn ?_
      simp only [Act.put, lsE, lsZ, lsS]
      refine wpAnyH_all (rs := [10]) (by kernel_rfl) (by simp) ?_
      intro is his
      obtain rfl : is = 10 := by simpa using his
      have hPn : wn.heap[Pp]? = _ := (hgrow.block Pp (lt_of_heap hPA) (fun e => NPP _ e.symm rfl)).trans hPA
      have hPE := heap_setCell_at wn Pp 1 _ _ (.slice (some ⟨gn, 0, none⟩) (eff.length + 1) cap) hPn
      have hcn : wn.cell? ⟨Pp, 1, none⟩ = some ef := (cell_of_row wn Pp 1 _ _ _ hPn).trans rfl
      have hSw : S4 (wn.setCell ⟨Pp, 1, none⟩ (.slice (some ⟨gn, 0, none⟩) (eff.length + 1) cap)) := (heap_setCell_ne wn ⟨Pp, 1, none⟩ w.heap.size _ (by simp; omega)).trans hSn
      refine wpOp_skip (o := ⟨none, .store 46 (.tmp 50) (.tmp 48), _, _, _, none⟩) (w' := wn.setCell ⟨Pp, 1, none⟩ (.slice (some ⟨gn, 0, none⟩) (eff.length + 1) cap)) rfl rfl (exec_store 46 (.tmp 50) (.tmp 48) rfl ⟨Pp, 1, none⟩ (.slice (some ⟨gn, 0, none⟩) (eff.length + 1) cap) rfl rfl (run_storeAt_one hcn (frozen_of_row wn Pp 1 _ _ hPn) (by kernel_rfl) rfl)) ⟨hSw, ?_⟩
      simp only [Act.put]
      refine wpAnyH_done (by kernel_rfl) ?_ _
      have hgW : ef.ownBlock = some gn ∨ W4.heap.size ≤ gn := by
       rcases hat with e | e
       ·exact .inl e
       ·right; simp at e; omega
      have hFn : Fr (fun b => b = Pp ∨ ef.ownBlock = some b) w2 (wn.setCell ⟨Pp, 1, none⟩ (.slice (some ⟨gn, 0, none⟩) (eff.length + 1) cap)) := Fr.setCell (S := fun b => b = Pp ∨ ef.ownBlock = some b) ((((hfW4.mono (fun _ _ h => h.elim)).trans (hFA.mono (fun _ _ h => h.elim)) (fun _ _ h => h)).grown hgrow (fun b _ hb => .inr hb))) ⟨Pp, 1, none⟩ (fun _ => .inl rfl) _
      have honE : (wn.setCell ⟨Pp, 1, none⟩ (.slice (some ⟨gn, 0, none⟩) (eff.length + 1) cap)).ownsRow b0 50 4 (.slice (some ⟨gn, 0, none⟩) (eff.length + 1) cap) (eff.length + 1) ((effC eff) ++ c.cs) := own_set hPn (by decide) hon
      have hgl : gn < (wn.setCell ⟨Pp, 1, none⟩ (.slice (some ⟨gn, 0, none⟩) (eff.length + 1) cap)).heap.size := by simpa [World.setCell] using hlt
      obtain ⟨WE, HWE⟩ : ∃ WE, Hid (WE = wn.setCell ⟨Pp, 1, none⟩ (.slice (some ⟨gn, 0, none⟩) (eff.length + 1) cap)) := ⟨_, rfl⟩
      have hSw' : WE.heap[w.heap.size]? = some (.cells c.cs.toArray 50 (0, 0)) := by rw [HWE.out]; exact hSw
      rw [← HWE.out] at hPE hFn honE hgl ⊢
      clear HWE hSw hcn hPn hon hgrow hat hSn hlt
      have hAk : AkI w Pp b0 lg ef l log rl at' c (.slice (some ⟨gn, 0, none⟩) (eff.length + 1) cap) (eff ++ [c]) WE := ⟨hPE, hSw', own_fr hW.lo hFn (fun b cs hb hv h => NLO b cs hb hv h), by rw [List.length_append, List.length_singleton, effC_snoc]; exact honE, own_fr hW.la hFn (fun b cs hb hv h => NLA b cs hb hv h), hW.fr.trans hFn (fun b hb h => by rcases h with h | h; exact .inl h; exact .inr (.inr (.inl h))), fun b hb => by
       simp only [Value.ownBlock, Option.some.injEq] at hb
       subst hb
       rcases hgW with h | h
       ·exact .inl (.inr (.inr (.inl h)))
       ·exact .inr (by have := hW.fr.size; omega)⟩
      have HA : Hid (AkI w Pp b0 lg ef l log rl at' c (.slice (some ⟨gn, 0, none⟩) (eff.length + 1) cap) (eff ++ [c]) WE) := hAk
      clear hPE hFn honE hgl hSw' hgW hAk
      by_cases h4 : kk = 4
      ·subst h4
       go_wp2
       exact TAIL _ _ _ _ _ _ _ _ _ _ _ _ _ _ _ _ _ _ _ _ _ _ _ _ _ _ _ _ _ _ _ _ _ _ _ _ _ _ _ _ _ _ _ _ _ _ _ _ _ _ _ _ _ _ _ _ _ _ _ _ _ _ _ _ _ _ _ _ _ _ _ _ _ _ _ _ _ _ _ _ _ _ _ _ _ _ _ 1 _ _ _ (by rw [← HRR.out]; simp [askR, HD.out]) (by rw [← HEE.out]; simp [askE, HD.out]) HA.out
      ·go_wp2
       exact TAIL _ _ _ _ _ _ _ _ _ _ _ _ _ _ _ _ _ _ _ _ _ _ _ _ _ _ _ _ _ _ _ _ _ _ _ _ _ _ _ _ _ _ _ _ _ _ _ _ _ _ _ _ _ _ _ _ _ _ _ _ _ _ _ _ _ _ _ _ _ _ _ _ _ _ _ _ _ _ _ _ _ _ _ _ _ _ _ 0 _ _ _ (by rw [← HRR.out]; simp [askR, HD.out, h3, h4, h5]) (by rw [← HEE.out]; simp [askE, HD.out, h3, h5]) HA.out
     ·refine wpOp_value (o := ⟨some 47, .buildSlice 46 1 #[(0, .tmp 46)], _, _, _, none⟩) (v := .slice (some ⟨W4.heap.size, 0, none⟩) 1 1) (w' := W4.alloc (.cells c.cs.toArray 50)) rfl rfl (exec_buildSlice 46 1 #[(0, .tmp 46)] rfl #[(0, .agg c.cs.toArray)] (by simp [Act.eval]) hbs) ⟨hSA, ?_⟩
      simp only [Act.put, lsE, lsZ, lsS]
      refine wpAnyH_all (rs := [4]) (by kernel_rfl) (by simp) ?_
      intro ib hib
      obtain rfl : ib = 4 := by simpa using hib
      refine wpOp_value (o := ⟨some 45, .load 46 (.tmp 44), _, _, _, none⟩) (v := ef) rfl rfl (exec_load 46 (.tmp 44) rfl ⟨Pp, 1, none⟩ rfl hl2) ⟨hSA, ?_⟩
      simp only [Act.put, lsE, lsZ, lsS]
      refine wpAnyH_all (rs := [7]) (by kernel_rfl) (by simp) ?_
      intro ia hia
      obtain rfl : ia = 7 := by simpa using hia
      refine wpOp_of_wp (o := ⟨some 48, .call { callee := .builtin .append, args := #[.tmp 45, .tmp 47], argTypes := #[46, 46] }, _, _, _, none⟩) rfl rfl ?_
      refine wp_append_lies _ (.tmp 45) (.tmp 47) 46 rfl b0 50 inf (.agg #[.int .i64 0, .int .i64 0, .bool false, .string ⟨#[]⟩]) 4 40 Tryz.underlying46 hi0 hz0 hz1 hz2 rfl (by decide) ef eff.length (effC eff) rfl hownA ⟨W4.heap.size, 0, none⟩ 1 1 c.cs rfl rfl hnewsA (by intro v hv; simp [CL.cs] at hv; rcases hv with rfl | rfl | rfl | rfl <;> rfl) (by decide) (by unfold maxLen; omega) (by omega) hzA _ rfl ?_
      intro gn cap wn hon hgrow hat hlt
      have hSn : S4 wn := by
       show wn.heap[w.heap.size]? = _
       rw [hgrow.block w.heap.size (lt_of_heap hSA) (fun e => NBOX _ e.symm rfl)]; exact hSA
      refine ⟨hSn, ?_⟩
      simp only [Act.put, lsE, lsZ, lsS]
      refine tkE (S := S4) (i := 8) (oi := ⟨some 49, .nilCheck (.tmp 41), _, _, _, none⟩) (v := .pointer (some ⟨Pp, 0, none⟩)) rfl hSn ?_
      simp only [Act.put, lsE, lsZ, lsS]
      refine tkE (S := S4) (i := 9) (oi := ⟨some 50, .fieldAddr 48 (.tmp 49) 1, _, _, _, none⟩) (v := .pointer (some ⟨Pp, 1, none⟩)) rfl hSn ?_
      simp only [Act.put, lsE, lsZ, lsS]
      refine wpAnyH_all (rs := [10]) (by kernel_rfl) (by simp) ?_
      intro is his
      obtain rfl : is = 10 := by simpa using his
      have hPn : wn.heap[Pp]? = _ := (hgrow.block Pp (lt_of_heap hPA) (fun e => NPP _ e.symm rfl)).trans hPA
      have hPE := heap_setCell_at wn Pp 1 _ _ (.slice (some ⟨gn, 0, none⟩) (eff.length + 1) cap) hPn
      have hcn : wn.cell? ⟨Pp, 1, none⟩ = some ef := (cell_of_row wn Pp 1 _ _ _ hPn).trans rfl
      have hSw : S4 (wn.setCell ⟨Pp, 1, none⟩ (.slice (some ⟨gn, 0, none⟩) (eff.length + 1) cap)) := (heap_setCell_ne wn ⟨Pp, 1, none⟩ w.heap.size _ (by simp; omega)).trans hSn
      refine wpOp_skip (o := ⟨none, .store 46 (.tmp 50) (.tmp 48), _, _, _, none⟩) (w' := wn.setCell ⟨Pp, 1, none⟩ (.slice (some ⟨gn, 0, none⟩) (eff.length + 1) cap)) rfl rfl (exec_store 46 (.tmp 50) (.tmp 48) rfl ⟨Pp, 1, none⟩ (.slice (some ⟨gn, 0, none⟩) (eff.length + 1) cap) rfl rfl (run_storeAt_one hcn (frozen_of_row wn Pp 1 _ _ hPn) (by kernel_rfl) rfl)) ⟨hSw, ?_⟩
      simp only [Act.put]
      refine wpAnyH_done (by kernel_rfl) ?_ _
      have hgW : ef.ownBlock = some gn ∨ W4.heap.size ≤ gn := by
       rcases hat with e | e
       ·exact .inl e
       ·right; simp at e; omega
      have hFn : Fr (fun b => b = Pp ∨ ef.ownBlock = some b) w2 (wn.setCell ⟨Pp, 1, none⟩ (.slice (some ⟨gn, 0, none⟩) (eff.length + 1) cap)) := Fr.setCell (S := fun b => b = Pp ∨ ef.ownBlock = some b) ((((hfW4.mono (fun _ _ h => h.elim)).trans (hFA.mono (fun _ _ h => h.elim)) (fun _ _ h => h)).grown hgrow (fun b _ hb => .inr hb))) ⟨Pp, 1, none⟩ (fun _ => .inl rfl) _
      have honE : (wn.setCell ⟨Pp, 1, none⟩ (.slice (some ⟨gn, 0, none⟩) (eff.length + 1) cap)).ownsRow b0 50 4 (.slice (some ⟨gn, 0, none⟩) (eff.length + 1) cap) (eff.length + 1) ((effC eff) ++ c.cs) := own_set hPn (by decide) hon
      have hgl : gn < (wn.setCell ⟨Pp, 1, none⟩ (.slice (some ⟨gn, 0, none⟩) (eff.length + 1) cap)).heap.size := by simpa [World.setCell] using hlt
      obtain ⟨WE, HWE⟩ : ∃ WE, Hid (WE = wn.setCell ⟨Pp, 1, none⟩ (.slice (some ⟨gn, 0, none⟩) (eff.length + 1) cap)) := ⟨_, rfl⟩
      have hSw' : WE.heap[w.heap.size]? = some (.cells c.cs.toArray 50 (0, 0)) := by rw [HWE.out]; exact hSw
      rw [← HWE.out] at hPE hFn honE hgl ⊢
      clear HWE hSw hcn hPn hon hgrow hat hSn hlt
      have hAk : AkI w Pp b0 lg ef l log rl at' c (.slice (some ⟨gn, 0, none⟩) (eff.length + 1) cap) (eff ++ [c]) WE := ⟨hPE, hSw', own_fr hW.lo hFn (fun b cs hb hv h => NLO b cs hb hv h), by rw [List.length_append, List.length_singleton, effC_snoc]; exact honE, own_fr hW.la hFn (fun b cs hb hv h => NLA b cs hb hv h), hW.fr.trans hFn (fun b hb h => by rcases h with h | h; exact .inl h; exact .inr (.inr (.inl h))), fun b hb => by
       simp only [Value.ownBlock, Option.some.injEq] at hb
       subst hb
       rcases hgW with h | h
       ·exact .inl (.inr (.inr (.inl h)))
       ·exact .inr (by have := hW.fr.size; omega)⟩
      have HA : Hid (AkI w Pp b0 lg ef l log rl at' c (.slice (some ⟨gn, 0, none⟩) (eff.length + 1) cap) (eff ++ [c]) WE) := hAk
      clear hPE hFn honE hgl hSw' hgW hAk
      by_cases h4 : kk = 4
      ·subst h4
       go_wp2
       exact TAIL _ _ _ _ _ _ _ _ _ _ _ _ _ _ _ _ _ _ _ _ _ _ _ _ _ _ _ _ _ _ _ _ _ _ _ _ _ _ _ _ _ _ _ _ _ _ _ _ _ _ _ _ _ _ _ _ _ _ _ _ _ _ _ _ _ _ _ _ _ _ _ _ _ _ _ _ _ _ _ _ _ _ _ _ _ _ _ 1 _ _ _ (by rw [← HRR.out]; simp [askR, HD.out]) (by rw [← HEE.out]; simp [askE, HD.out]) HA.out
      ·go_wp2
       exact TAIL _ _ _ _ _ _ _ _ _ _ _ _ _ _ _ _ _ _ _ _ _ _ _ _ _ _ _ _ _ _ _ _ _ _ _ _ _ _ _ _ _ _ _ _ _ _ _ _ _ _ _ _ _ _ _ _ _ _ _ _ _ _ _ _ _ _ _ _ _ _ _ _ _ _ _ _ _ _ _ _ _ _ _ _ _ _ _ 0 _ _ _ (by rw [← HRR.out]; simp [askR, HD.out, h3, h4, h5]) (by rw [← HEE.out]; simp [askE, HD.out, h3, h5]) HA.out
  ·have HA : Hid (AkI w Pp b0 lg ef l log rl at' c ef eff w2) := hW
   have HD : Hid (eff.any (·.same c) = true) := hd
   clear hW hd
   by_cases h3 : kk = 3
   ·subst h3
    go_wp2
    exact TAIL _ _ _ _ _ _ _ _ _ _ _ _ _ _ _ _ _ _ _ _ _ _ _ _ _ _ _ _ _ _ _ _ _ _ _ _ _ _ _ _ _ _ _ _ _ _ _ _ _ _ _ _ _ _ _ _ _ _ _ _ _ _ _ _ _ _ _ _ _ _ _ _ _ _ _ _ _ _ _ _ _ _ _ _ _ _ _ 1 _ _ _ (by rw [← HRR.out]; simp [askR, HD.out]) (by rw [← HEE.out]; simp [askE, HD.out]) HA.out
   ·by_cases h4 : kk = 4
    ·subst h4
     go_wp2
     exact TAIL _ _ _ _ _ _ _ _ _ _ _ _ _ _ _ _ _ _ _ _ _ _ _ _ _ _ _ _ _ _ _ _ _ _ _ _ _ _ _ _ _ _ _ _ _ _ _ _ _ _ _ _ _ _ _ _ _ _ _ _ _ _ _ _ _ _ _ _ _ _ _ _ _ _ _ _ _ _ _ _ _ _ _ _ _ _ _ 1 _ _ _ (by rw [← HRR.out]; simp [askR, HD.out]) (by rw [← HEE.out]; simp [askE, HD.out]) HA.out
    ·have h3b : (kk == 3) = false := by simpa using h3
     have h4b : (kk == 4) = false := by simpa using h4
     have H34 : Hid (¬ kk = 3 ∧ ¬ kk = 4) := ⟨h3, h4⟩
     clear h3 h4
     go_wp2
     exact TAIL _ _ _ _ _ _ _ _ _ _ _ _ _ _ _ _ _ _ _ _ _ _ _ _ _ _ _ _ _ _ _ _ _ _ _ _ _ _ _ _ _ _ _ _ _ _ _ _ _ _ _ _ _ _ _ _ _ _ _ _ _ _ _ _ _ _ _ _ _ _ _ _ _ _ _ _ _ _ _ _ _ _ _ _ _ _ _ 0 _ _ _ (by rw [← HRR.out]; simp [askR, HD.out, H34.out.1, H34.out.2]) (by rw [← HEE.out]; simp [askE, HD.out]) HA.out
theorem ask_ok_any {Pp b0 : Nat} {rl : List Int} (hN2 : rl.length ≤ 1000000) (hrl : ∀ z ∈ rl, -9223372036854775808 ≤ z ∧ z ≤ 9223372036854775807) : AskOk Pp b0 rl := fun _ _ _ _ _ _ _ c h hb hl he ha => Ask_any h hb hl he rfl ha hN2 hrl rfl rfl c
end
end Go.Proofs.YteebjgfalllbjaaGreatDoor
