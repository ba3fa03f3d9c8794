import Derived.Test.YteebjgfalllbjaaGreatDoorCVfVgVc
import Derived.Test.YteebjgfalllbjaaGreatDoorCLnLpOwn
import Derived.Test.YteebjgfalllbjaaGreatDoorCFoReAk
import Derived.Test.YteebjgfalllbjaaGreatDoorCTjTmKa
namespace Go.Proofs.YteebjgfalllbjaaGreatDoor
open Go.RowKit
def CL.same (e c : CL) : Bool := decide (e.saga = c.saga ∧ e.step = c.step ∧ e.back = c.back)
def effC (l : List CL) : List Value := (l.map CL.cs).flatten
theorem effC_len (l : List CL) : (effC l).length = l.length * 4 := by
 induction l with
 | nil => rfl
 | cons a l ih => simp [effC, CL.cs] at ih ⊢; omega
theorem acall_size : (Tryz.prog.info? 50).map (·.size) = some 4 := by kernel_rfl
set_option maxRecDepth 100000 in
set_option maxHeartbeats 4000000 in
theorem pDone_ok {w : World} {Pp : Nat} (c : CL) {lg l : Value} {ao : Option Addr} {cap : Nat} {at' : Int} {eff : List CL} (h : w.heap[Pp]? = some (.cells #[lg, .slice ao eff.length cap, l, .int .i64 at'] 48 (0, 0))) (hl : RowsOf w ao 4 (eff.map CL.cs)) (hn : eff.length ≤ 20000000) : Calls Tryz.prog 77 #[.pointer (some ⟨Pp, 0, none⟩), .agg c.cs.toArray] w fun e w' => e = .returned (.bool (eff.any (·.same c))) ∧ Fr (fun _ => False) w w' := by
 obtain ⟨a1, a2, a3, a4⟩ := c
 obtain ⟨W, HW⟩ : ∃ W, Hid (W = w.alloc (.cells #[.int .i64 a1, .int .i64 a2, .bool a3, .string a4] 50)) := ⟨_, rfl⟩
 have hfa : Fr (fun _ => False) w W := by rw [HW.out]; exact (Fr.refl _ _).alloc _
 have hrow : W.heap[w.heap.size]? = some (.cells #[.int .i64 a1, .int .i64 a2, .bool a3, .string a4] 50 (0, 0)) := by rw [HW.out]; exact heap_alloc_at _ _
 have c1 : (w.alloc (.cells #[.int .i64 a1, .int .i64 a2, .bool a3, .string a4] 50)).cell? ⟨Pp, 1, none⟩ = some (.slice ao eff.length cap) := by rw [← HW.out]; exact (cell_of_row W Pp 1 _ _ _ (hfa.keep h (fun h => h))).trans rfl
 have HF : Hid (Fr (fun _ => False) w W ∧ W.heap[w.heap.size]? = some (.cells #[.int .i64 a1, .int .i64 a2, .bool a3, .string a4] 50 (0, 0)) ∧ RowsOf w ao 4 (eff.map CL.cs)) := ⟨hfa, hrow, hl⟩
 clear hfa hrow hl h
 unfold CL.cs
 go_enter Tryz.func77, Tryz.ntmps77
 go_wp2
 rw [← HW.out] at *
 clear HW
 go_loopw [12] (fun c wr => ∃ i : Nat, i ≤ eff.length ∧ c = .int .i64 i ∧ Hid (Fr (fun _ => False) W wr ∧ (eff.take i).any (·.same ⟨a1, a2, a3, a4⟩) = false)) (fun c _ => eff.length - (intOf c).toNat)
 case atStart => exact ⟨0, Nat.zero_le _, rfl, Fr.refl _ _, rfl⟩
 case round =>
  obtain ⟨i, hi, rfl, HR⟩ := hrel
  by_cases hlt : i < eff.length
  ·have hlt' : (i : Int) < eff.length := by omega
   obtain ⟨p, hp⟩ : ∃ p, eff[i]? = some p := ⟨_, List.getElem?_eq_getElem hlt⟩
   obtain ⟨g, off, rfl, hr⟩ := HF.out.2.2 i p.cs (by simp [hp])
   have hF2 := HF.out.1.trans HR.out.1 (fun _ _ h => h)
   have hrg : wr.rangeAt g (off + i * 4) p.cs := fun j v hv => hF2.cell (hr j v hv) (fun h => h)
   obtain ⟨p1, p2, p3, p4⟩ := p
   have hb := HR.out.1.keep HF.out.2.1 (fun h => h)
   have hfz : Fr (fun _ => False) W (wr.alloc (.cells #[.int .i64 p1, .int .i64 p2, .bool p3, .string p4] 50)) := HR.out.1.alloc _
   have b0 : (wr.alloc (.cells #[.int .i64 p1, .int .i64 p2, .bool p3, .string p4] 50)).cell? ⟨w.heap.size, 0, none⟩ = some (.int .i64 a1) := (cell_of_row _ _ 0 _ _ _ (hfz.keep HF.out.2.1 (fun h => h))).trans rfl
   have b1 : (wr.alloc (.cells #[.int .i64 p1, .int .i64 p2, .bool p3, .string p4] 50)).cell? ⟨w.heap.size, 1, none⟩ = some (.int .i64 a2) := (cell_of_row _ _ 1 _ _ _ (hfz.keep HF.out.2.1 (fun h => h))).trans rfl
   have b2 : (wr.alloc (.cells #[.int .i64 p1, .int .i64 p2, .bool p3, .string p4] 50)).cell? ⟨w.heap.size, 2, none⟩ = some (.bool a3) := (cell_of_row _ _ 2 _ _ _ (hfz.keep HF.out.2.1 (fun h => h))).trans rfl
   have HP : Hid (eff[i]? = some ⟨p1, p2, p3, p4⟩) := hp
   clear hp hr hF2 hb hfz
   unfold CL.cs at hrg
   have HX : Hid (∀ b, CL.same ⟨p1, p2, p3, p4⟩ ⟨a1, a2, a3, a4⟩ = b → (eff.take (i + 1)).any (·.same ⟨a1, a2, a3, a4⟩) = b) := fun b hb => by
    rw [List.take_add_one, HP.out, List.any_append, HR.out.2]
    simp [hb]
   have HY : Hid (CL.same ⟨p1, p2, p3, p4⟩ ⟨a1, a2, a3, a4⟩ = true → eff.any (·.same ⟨a1, a2, a3, a4⟩) = true) := fun hb => List.any_eq_true.2 ⟨_, List.mem_of_getElem? HP.out, hb⟩
   by_cases e1 : p1 = a1
   ·subst e1
    by_cases e2 : p2 = a2
    ·subst e2
     by_cases e3 : p3 = a3
     ·subst e3
      go_wp2_with (first | (refine wpList_load_mid rfl 50 _ rfl g (off + i * 4) ?_ _ _ hrg Tryz.underlying50 rfl ?_ ?_; rfl; exact acall_size))
      go_ret
      refine ⟨?_, (HF.out.1.trans HR.out.1 (fun _ _ h => h)).alloc _⟩
      rw [HY.out (by simp [CL.same])]
      rfl
     ·have e3' : (p3 == a3) = false := by simpa using e3
      go_wp2_with (first | (refine wpList_load_mid rfl 50 _ rfl g (off + i * 4) ?_ _ _ hrg Tryz.underlying50 rfl ?_ ?_; rfl; exact acall_size))
      go_roundw
      case rel => exact ⟨i + 1, by omega, by go_num, HR.out.1.alloc _, HX.out _ (by simp [CL.same, e3])⟩
      case measure => simp [intOf]; omega
    ·go_wp2_with (first | (refine wpList_load_mid rfl 50 _ rfl g (off + i * 4) ?_ _ _ hrg Tryz.underlying50 rfl ?_ ?_; rfl; exact acall_size))
     go_roundw
     case rel => exact ⟨i + 1, by omega, by go_num, HR.out.1.alloc _, HX.out _ (by simp [CL.same, e2])⟩
     case measure => simp [intOf]; omega
   ·go_wp2_with (first | (refine wpList_load_mid rfl 50 _ rfl g (off + i * 4) ?_ _ _ hrg Tryz.underlying50 rfl ?_ ?_; rfl; exact acall_size))
    go_roundw
    case rel => exact ⟨i + 1, by omega, by go_num, HR.out.1.alloc _, HX.out _ (by simp [CL.same, e1])⟩
    case measure => simp [intOf]; omega
  ·go_wp2
   go_ret
   refine ⟨?_, HF.out.1.trans HR.out.1 (fun _ _ h => h)⟩
   have e := HR.out.2
   rw [List.take_of_length_le (by omega)] at e
   rw [e]
   rfl
end Go.Proofs.YteebjgfalllbjaaGreatDoor
namespace Go.Proofs.YteebjgfalllbjaaGreatDoor
open Go.RowKit
theorem asked_info : (Tryz.prog.info? 52).map (fun i => (i.zero, i.size, i.bytes)) = some (some (.agg #[.int .i64 0, .int .i64 0, .bool false, .string ⟨#[]⟩, .int .i64 0]), 5, 48) := by kernel_rfl
theorem call_info : (Tryz.prog.info? 50).map (fun i => (i.zero, i.size, i.bytes)) = some (some (.agg #[.int .i64 0, .int .i64 0, .bool false, .string ⟨#[]⟩]), 4, 40) := by kernel_rfl
theorem run_build_asked (c : CL) (r : Nat) (w : World) : (Instr.build 52 #[(0, .agg c.cs.toArray), (1, .int .i64 r)]).run Tryz.prog w = .ok (.agg (c.cs ++ [Value.int .i64 r]).toArray) w := by kernel_rfl
theorem exec_buildK {ρ : Operand → Value} {o : Oper} {x y : Operand} {u v z : Value} {w w' : World} (ho : o.op = .build 52 #[(0, x), (1, y)]) (hx : ρ x = u) (hy : ρ y = v) (hr : (Instr.build 52 #[(0, u), (1, v)]).run Tryz.prog w = .ok z w') : (execOp ρ o).run Tryz.prog w = .ok (.value z) w' := by
 simp [execOp, ho, hx, hy, hr]
theorem run_bs_asked (c : CL) (r : Nat) (w : World) : (Instr.buildSlice 45 1 #[(0, .agg (c.cs ++ [Value.int .i64 r]).toArray)]).run Tryz.prog w = .ok (.slice (some ⟨w.heap.size, 0, none⟩) 1 1) (w.alloc (.cells (c.cs ++ [Value.int .i64 r]).toArray 52)) := by kernel_rfl
theorem run_bs_call (c : CL) (w : World) : (Instr.buildSlice 46 1 #[(0, .agg c.cs.toArray)]).run Tryz.prog w = .ok (.slice (some ⟨w.heap.size, 0, none⟩) 1 1) (w.alloc (.cells c.cs.toArray 50)) := by kernel_rfl
def logC (l : List (CL × Nat)) : List Value := (l.map fun p => p.1.cs ++ [Value.int .i64 p.2]).flatten
theorem logC_snoc (l : List (CL × Nat)) (c : CL) (r : Nat) : logC (l ++ [(c, r)]) = logC l ++ (c.cs ++ [Value.int .i64 r]) := by simp [logC]
theorem effC_snoc (l : List CL) (c : CL) : effC (l ++ [c]) = effC l ++ c.cs := by simp [effC]
theorem own_ty {w : World} {base e size n : Nat} {v : Value} {xs : List Value} (h : w.ownsRow base e size v n xs) {b : Nat} (hb : v.ownBlock = some b) : ∃ cs, w.heap[b]? = some (.cells cs e (0, 0)) := by
 rcases h.2 with ⟨rfl, _⟩ | ⟨g, cap, cur, rfl, _, hg, _⟩
 ·cases hb
 ·cases hb; exact ⟨_, hg⟩
structure PrtAt (w : World) (Pp b0 : Nat) (lg ef l : Value) (log : List (CL × Nat)) (eff : List CL) (rl : List Int) (at' : Int) : Prop where
 p : w.heap[Pp]? = some (.cells #[lg, ef, l, .int .i64 at'] 48 (0, 0))
 lo : w.ownsRow b0 52 5 lg log.length (logC log)
 eo : w.ownsRow b0 50 4 ef eff.length (effC eff)
 la : w.ownsRow b0 3 1 l rl.length (rl.map fun x => Value.int .i64 x)
def PartF (Pp : Nat) (lg ef l : Value) (b : Nat) : Prop := b = Pp ∨ lg.ownBlock = some b ∨ ef.ownBlock = some b ∨ l.ownBlock = some b
structure AkI (w : World) (Pp b0 : Nat) (lg ef l : Value) (log : List (CL × Nat)) (rl : List Int) (at' : Int) (c : CL) (ef' : Value) (eff' : List CL) (W : World) : Prop where
 p : W.heap[Pp]? = some (.cells #[lg, ef', l, .int .i64 at'] 48 (0, 0))
 c : W.heap[w.heap.size]? = some (.cells c.cs.toArray 50 (0, 0))
 lo : W.ownsRow b0 52 5 lg log.length (logC log)
 eo : W.ownsRow b0 50 4 ef' eff'.length (effC eff')
 la : W.ownsRow b0 3 1 l rl.length (rl.map fun x => Value.int .i64 x)
 fr : Fr (PartF Pp lg ef l) w W
 ef : ∀ b, ef'.ownBlock = some b → PartF Pp lg ef l b ∨ w.heap.size ≤ b
def askR (k : Int) (done back : Bool) : Nat := if done then (if k = 3 ∨ k = 4 then 1 else 0) else if k = 3 ∨ (k = 5 ∧ back = true) then 1 else if k = 5 then 2 else if k = 4 then 1 else 0
def askE (k : Int) (done : Bool) (eff : List CL) (c : CL) : List CL := if done = true ∨ k = 3 ∨ k = 5 then eff else eff ++ [c]
def AskQ (w : World) (Pp b0 : Nat) (lg ef l : Value) (log : List (CL × Nat)) (rl : List Int) (at' : Int) (c : CL) (r : Nat) (ef' : Value) (eff' : List CL) (W : World) : Prop :=
 ∃ lg', PrtAt W Pp b0 lg' ef' l (log ++ [(c, r)]) eff' rl at' ∧ Fr (PartF Pp lg ef l) w W ∧ (∀ b, lg'.ownBlock = some b → PartF Pp lg ef l b ∨ w.heap.size ≤ b) ∧ ∀ b, ef'.ownBlock = some b → PartF Pp lg ef l b ∨ w.heap.size ≤ b
section
variable {w : World} {Pp b0 : Nat} {lg ef l : Value} {log : List (CL × Nat)} {eff : List CL} {rl : List Int} {at0 : Int}
theorem AkI.frz {at' : Int} {c : CL} {ef' : Value} {eff' : List CL} {W W' : World} (h : AkI w Pp b0 lg ef l log rl at' c ef' eff' W) (hf : Fr (fun _ => False) W W') : AkI w Pp b0 lg ef l log rl at' c ef' eff' W' :=
 ⟨hf.keep h.p (fun h => h), hf.keep h.c (fun h => h), own_fr h.lo hf (fun _ _ _ _ h => h), own_fr h.eo hf (fun _ _ _ _ h => h), own_fr h.la hf (fun _ _ _ _ h => h), h.fr.trans (hf.mono (fun _ _ h => h.elim)) (fun _ _ h => h), h.ef⟩
theorem effC_get (l : List CL) (i : Nat) (c : CL) (h : l[i]? = some c) (j : Nat) (v : Value) (hv : c.cs[j]? = some v) : (effC l)[i * 4 + j]? = some v := by
 induction l generalizing i with
 | nil => simp at h
 | cons a l ih =>
  have hj : j < 4 := (List.getElem?_eq_some_iff.1 hv).1
  have e : effC (a :: l) = a.cs ++ effC l := rfl
  have e4 : a.cs.length = 4 := rfl
  rw [e]
  cases i with
  | zero =>
   obtain rfl : a = c := by simpa using h
   rw [List.getElem?_append_left (by rw [e4]; omega), Nat.zero_mul, Nat.zero_add]
   exact hv
  | succ i =>
   rw [List.getElem?_append_right (by rw [e4]; omega), e4, show (i + 1) * 4 + j - 4 = i * 4 + j by omega]
   exact ih i (by simpa using h)
theorem own_rowsC {W : World} {ao : Option Addr} {n cap : Nat} {eff : List CL} (h : W.ownsRow b0 50 4 (.slice ao n cap) n (effC eff)) : RowsOf W ao 4 (eff.map CL.cs) := by
 intro i r hr
 rw [List.getElem?_map] at hr
 obtain ⟨c, hc, rfl⟩ := Option.map_eq_some_iff.1 hr
 have hi := (List.getElem?_eq_some_iff.1 hc).1
 have hlen := h.1
 rcases h.2 with ⟨hv, hn⟩ | ⟨g, cap', cur, hv, _, hg, _, _, _, hx⟩
 ·rw [effC_len, hn] at hlen; omega
 ·cases hv
  refine ⟨g, 0, rfl, fun j v hj => ?_⟩
  refine (cell_of_row W g _ _ _ _ hg).trans ?_
  have h1 := effC_get eff i c hc j v hj
  rw [← hx, List.getElem?_take] at h1
  split at h1
  ·rw [Nat.zero_add]; simpa using h1
  ·cases h1
theorem pDone_of {at' : Int} {c : CL} {W : World} (h : AkI w Pp b0 lg ef l log rl at' c ef eff W) (hn : eff.length ≤ 20000000) : Calls Tryz.prog 77 #[.pointer (some ⟨Pp, 0, none⟩), .agg c.cs.toArray] W fun e w' => e = .returned (.bool (eff.any (·.same c))) ∧ Fr (fun _ => False) W w' := by
 obtain ⟨ao, cap, rfl⟩ : ∃ ao cap, ef = .slice ao eff.length cap := by
  rcases h.eo.2 with ⟨e, hn⟩ | ⟨g, cap, cur, e, _⟩
  ·exact ⟨none, 0, by rw [e, hn]⟩
  ·exact ⟨_, _, e⟩
 exact pDone_ok c h.p (own_rowsC h.eo) hn
set_option maxRecDepth 100000 in
set_option maxHeartbeats 8000000 in
theorem Ask_nil (h : PrtAt w Pp b0 lg ef l log eff rl at0) (hb0 : b0 ≤ w.heap.size) (hnl : log.length ≤ 20000000) (hne : eff.length ≤ 20000000) (hrl : rl = []) (c : CL) : Calls Tryz.prog 47 #[.pointer (some ⟨Pp, 0, none⟩), .agg c.cs.toArray] w fun e w' => e = .returned (.int .i64 (askR 0 (eff.any (·.same c)) c.back : Nat)) ∧ ∃ ef', AskQ w Pp b0 lg ef l log rl at0 c (askR 0 (eff.any (·.same c)) c.back) ef' (askE 0 (eff.any (·.same c)) eff c) w' := by
 generalize hRR : askR 0 (eff.any (·.same c)) c.back = RR
 generalize hEE : askE 0 (eff.any (·.same c)) eff c = EE
 have HRR : Hid (askR 0 (eff.any (·.same c)) c.back = RR) := hRR
 have HEE : Hid (askE 0 (eff.any (·.same c)) eff c = EE) := hEE
 clear hRR hEE
 have hlift : Tryz.prog.follows .mixedOrders = true := by kernel_rfl
 have hPl := lt_of_heap h.p
 have hlgl : ∀ b, lg.ownBlock = some b → b < w.heap.size := fun b hb => (h.lo.lt b hb).2
 have hefl : ∀ b, ef.ownBlock = some b → b < w.heap.size := fun b hb => (h.eo.lt b hb).2
 have hfa : Fr (fun _ => False) w (w.alloc (.cells c.cs.toArray 50)) := (Fr.refl _ _).alloc _
 have hC0 := heap_alloc_at w (.cells c.cs.toArray 50)
 obtain ⟨W1, HW1⟩ : ∃ W1, Hid (W1 = w.alloc (.cells c.cs.toArray 50)) := ⟨_, rfl⟩
 obtain ⟨la, lc, hle⟩ : ∃ la lc, l = .slice la 0 lc := by
  rcases h.la.2 with ⟨e, hn⟩ | ⟨g, cap, cur, e, _⟩
  ·exact ⟨none, 0, by rw [e]⟩
  ·rw [hrl] at e; exact ⟨_, _, e⟩
 have x2 : (w.alloc (.cells c.cs.toArray 50)).cell? ⟨Pp, 2, none⟩ = some (.slice la 0 lc) := (cell_of_row _ Pp 2 _ _ _ (hfa.keep h.p (fun h => h))).trans (by rw [← hle]; rfl)
 have hrg : (w.alloc (.cells c.cs.toArray 50)).rangeAt w.heap.size 0 c.cs := fun j v hv => (cell_of_row _ _ (0 + j) _ _ _ hC0).trans (by simpa using hv)
 have hA1 : AkI w Pp b0 lg ef l log rl at0 c ef eff W1 := by
  rw [HW1.out]
  exact ⟨hfa.keep h.p (fun h => h), hC0, own_fr h.lo hfa (fun _ _ _ _ h => h), own_fr h.eo hfa (fun _ _ _ _ h => h), own_fr h.la hfa (fun _ _ _ _ h => h), hfa.mono (fun _ _ h => h.elim), fun b hb => .inl (.inr (.inr (.inl hb)))⟩
 obtain ⟨at', hat⟩ : ∃ at', at' = at0 := ⟨_, rfl⟩
 rw [← hat] at hA1 ⊢
 clear hat hle hrl
 go_enter Tryz.func47, Tryz.ntmps47
 go_wp2_with (first | (refine wpList_load_mid rfl 50 (.tmp 3) rfl w.heap.size 0 ?_ _ _ hrg Tryz.underlying50 rfl ?_ ?_; rfl; exact call_size))
 rename_i K2 hK2 K1 hK1 K0 hK0
 rw [← HW1.out]
 have TAIL : ∀ (u1 u2 u4 u5 u7 u8 u9 u10 u11 u12 u13 u14 u15 u16 u17 u18 u19 u20 u21 u22 u23 u24 u25 u26 u27 u28 u29 u30 u31 u32 u33 u34 u35 u36 u37 u38 u39 u40 u41 u42 u43 u44 u45 u46 u47 u48 u49 u50 u51 u52 u53 u54 u55 u56 u57 u58 u59 u60 u61 u62 u63 u64 u65 u66 u67 u68 u69 u70 u71 u72 u73 u74 u75 u76 u77 u78 u79 u80 u81 u82 u83 u84 u85 u86 u87 u88 u89 : Value) (r : Nat) (ef' : Value) (eff' : List CL) (W0 : World), r = RR → eff' = EE → AkI w Pp b0 lg ef l log rl at' c ef' eff' W0 → K2 { tmps := #[.pointer (some ⟨Pp, 0, none⟩), u1, u2, .pointer (some ⟨w.heap.size, 0, none⟩), u4, u5, .int .i64 r, u7, u8, u9, u10, u11, u12, u13, u14, u15, u16, u17, u18, u19, u20, u21, u22, u23, u24, u25, u26, u27, u28, u29, u30, u31, u32, u33, u34, u35, u36, u37, u38, u39, u40, u41, u42, u43, u44, u45, u46, u47, u48, u49, u50, u51, u52, u53, u54, u55, u56, u57, u58, u59, u60, u61, u62, u63, u64, u65, u66, u67, u68, u69, u70, u71, u72, u73, u74, u75, u76, u77, u78, u79, u80, u81, u82, u83, u84, u85, u86, u87, u88, u89], defers := [] } W0 := by
  intro u1 u2 u4 u5 u7 u8 u9 u10 u11 u12 u13 u14 u15 u16 u17 u18 u19 u20 u21 u22 u23 u24 u25 u26 u27 u28 u29 u30 u31 u32 u33 u34 u35 u36 u37 u38 u39 u40 u41 u42 u43 u44 u45 u46 u47 u48 u49 u50 u51 u52 u53 u54 u55 u56 u57 u58 u59 u60 u61 u62 u63 u64 u65 u66 u67 u68 u69 u70 u71 u72 u73 u74 u75 u76 u77 u78 u79 u80 u81 u82 u83 u84 u85 u86 u87 u88 u89 r ef' eff' W0 hr1 he1 hW
  have HR1 : Hid (r = RR) := hr1
  have HE1 : Hid (eff' = EE) := he1
  clear hr1 he1
  apply hK2
  have hP0 := hW.p
  have hsz0 : w.heap.size < W0.heap.size := lt_of_heap hW.c
  have NBOX : ∀ b, lg.ownBlock = some b → b ≠ w.heap.size := fun b hb => by have := hlgl b hb; omega
  have NPP : ∀ b, lg.ownBlock = some b → b ≠ Pp := fun b hb e => by
   obtain ⟨cs, hcs⟩ := own_ty hW.lo hb
   rw [e, hP0] at hcs
   simp at hcs
  have NEF : ∀ b cs, W0.heap[b]? = some (.cells cs 50 (0, 0)) → ef'.ownBlock = some b → ¬ (b = Pp ∨ lg.ownBlock = some b) := by
   rintro b cs hb hv (h | h)
   ·rw [h, hP0] at hb; simp at hb
   ·obtain ⟨cs', hcs⟩ := own_ty hW.lo h
    rw [hb] at hcs; simp at hcs
  have NLA : ∀ b cs, W0.heap[b]? = some (.cells cs 3 (0, 0)) → l.ownBlock = some b → ¬ (b = Pp ∨ lg.ownBlock = some b) := by
   rintro b cs hb hv (h | h)
   ·rw [h, hP0] at hb; simp at hb
   ·obtain ⟨cs', hcs⟩ := own_ty hW.lo h
    rw [hb] at hcs; simp at hcs
  go_wp2_with fail
  obtain ⟨W8, HW8⟩ : ∃ W8, Hid (W8 = W0.drew) := ⟨_, rfl⟩
  have hfW8 : Fr (fun _ => False) W0 W8 := by rw [HW8.out]; exact (Fr.refl _ _).drew
  let S8 : World → Prop := fun w' => w'.heap[w.heap.size]? = some (.cells c.cs.toArray 50 (0, 0))
  have hS8 : S8 W8 := hfW8.keep hW.c (fun h => h)
  refine wp_region_held (S := S8) hlift ?_
  change wpAnyH _ _ _ _ S8 _ _ _ (World.drew _)
  rw [← HW8.out]
  clear HW8
  refine tkE (S := S8) (i := 0) (oi := ⟨some 77, .move (.tmp 0), _, _, _, none⟩) (v := .pointer (some ⟨Pp, 0, none⟩)) rfl hS8 ?_
  simp only [Act.put, lsE, lsZ, lsS]
  refine tkE (S := S8) (i := 1) (oi := ⟨some 78, .move (.tmp 0), _, _, _, none⟩) (v := .pointer (some ⟨Pp, 0, none⟩)) rfl hS8 ?_
  simp only [Act.put, lsE, lsZ, lsS]
  refine tkE (S := S8) (i := 2) (oi := ⟨some 79, .nilCheck (.tmp 78), _, _, _, none⟩) (v := .pointer (some ⟨Pp, 0, none⟩)) rfl hS8 ?_
  simp only [Act.put, lsE, lsZ, lsS]
  refine tkE (S := S8) (i := 3) (oi := ⟨some 80, .fieldAddr 48 (.tmp 79) 0, _, _, _, none⟩) (v := .pointer (some ⟨Pp, 0, none⟩)) rfl hS8 ?_
  simp only [Act.put, lsE, lsZ, lsS]
  refine tkY (S := S8) (i := 5) (oi := ⟨some 82, .load 50 (.tmp 3), _, _, _, none⟩) (v := .agg c.cs.toArray) rfl (Or.inl ⟨rfl, fun w' hs => exec_load 50 (.tmp 3) rfl ⟨w.heap.size, 0, none⟩ rfl (loadC hs)⟩) hS8 ?_
  simp only [Act.put, lsE, lsZ, lsS]
  refine tkE (S := S8) (i := 6) (oi := ⟨some 83, .move (.tmp 6), _, _, _, none⟩) (v := .int .i64 r) rfl hS8 ?_
  simp only [Act.put, lsE, lsZ, lsS]
  refine tkY (S := S8) (i := 7) (oi := ⟨some 84, .build 52 #[(0, (.tmp 82)), (1, (.tmp 83))], _, _, _, none⟩) (v := .agg (c.cs ++ [Value.int .i64 r]).toArray) rfl (Or.inl ⟨rfl, fun w' _ => exec_buildK rfl rfl rfl (run_build_asked c r w')⟩) hS8 ?_
  simp only [Act.put, lsE, lsZ, lsS]
  have hl1 : (Instr.loadAt 45 (.pointer (some ⟨Pp, 0, none⟩))).run Tryz.prog W8 = .ok lg W8 := run_loadAt_one ((cell_of_row W8 Pp 0 _ _ _ (hfW8.keep hP0 (fun h => h))).trans rfl) Tryz.underlying45 rfl
  have hPA := (((Fr.refl (fun _ => False) W8).alloc (.cells (c.cs ++ [Value.int .i64 r]).toArray 52))).keep (hfW8.keep hP0 (fun h => h)) (fun h => h)
  have hl2 : (Instr.loadAt 45 (.pointer (some ⟨Pp, 0, none⟩))).run Tryz.prog (W8.alloc (.cells (c.cs ++ [Value.int .i64 r]).toArray 52)) = .ok lg (W8.alloc (.cells (c.cs ++ [Value.int .i64 r]).toArray 52)) := run_loadAt_one ((cell_of_row _ Pp 0 _ _ _ hPA).trans rfl) Tryz.underlying45 rfl
  have hbs : (Instr.buildSlice 45 1 #[(0, .agg (c.cs ++ [Value.int .i64 r]).toArray)]).run Tryz.prog W8 = .ok (.slice (some ⟨W8.heap.size, 0, none⟩) 1 1) (W8.alloc (.cells (c.cs ++ [Value.int .i64 r]).toArray 52)) := run_bs_asked c r W8
  have hFA : Fr (fun _ => False) W8 (W8.alloc (.cells (c.cs ++ [Value.int .i64 r]).toArray 52)) := (Fr.refl _ _).alloc _
  have hSA : S8 (W8.alloc (.cells (c.cs ++ [Value.int .i64 r]).toArray 52)) := hFA.keep hS8 (fun h => h)
  have hownA := own_fr (own_fr hW.lo hfW8 (fun _ _ _ _ h => h)) hFA (fun _ _ _ _ h => h)
  have hnewsA := World.news_of_block (w := W8.alloc (.cells (c.cs ++ [Value.int .i64 r]).toArray 52)) (B := W8.heap.size) (heap_alloc_at W8 (.cells (c.cs ++ [Value.int .i64 r]).toArray 52))
  have hsW := hfW8.size
  have hzA : b0 ≤ (W8.alloc (.cells (c.cs ++ [Value.int .i64 r]).toArray 52)).heap.size := by simp; omega
  obtain ⟨inf, hi0, hz0, hz1, hz2⟩ := info_parts asked_info
  refine wpAnyH_all (rs := [4, 8]) (by kernel_rfl) (by simp) ?_
  intro iz hiz
  have hzz : iz = 4 ∨ iz = 8 := by simpa using hiz
  rcases hzz with rfl | rfl
  ·refine wpOp_value (o := ⟨some 81, .load 45 (.tmp 80), _, _, _, none⟩) (v := lg) rfl rfl (exec_load 45 (.tmp 80) rfl ⟨Pp, 0, none⟩ rfl hl1) ⟨hS8, ?_⟩
   simp only [Act.put, lsE, lsZ, lsS]
   refine wpAnyH_all (rs := [8]) (by kernel_rfl) (by simp) ?_
   intro ib hib
   obtain rfl : ib = 8 := by simpa using hib
   refine wpOp_value (o := ⟨some 85, .buildSlice 45 1 #[(0, .tmp 84)], _, _, _, none⟩) (v := .slice (some ⟨W8.heap.size, 0, none⟩) 1 1) (w' := W8.alloc (.cells (c.cs ++ [Value.int .i64 r]).toArray 52)) rfl rfl (exec_buildSlice 45 1 #[(0, .tmp 84)] rfl #[(0, .agg (c.cs ++ [Value.int .i64 r]).toArray)] (by simp [Act.eval]) hbs) ⟨hSA, ?_⟩
   simp only [Act.put, lsE, lsZ, lsS]
   refine wpAnyH_all (rs := [9]) (by kernel_rfl) (by simp) ?_
   intro ia hia
   obtain rfl : ia = 9 := by simpa using hia
   refine wpOp_of_wp (o := ⟨some 86, .call { callee := .builtin .append, args := #[.tmp 81, .tmp 85], argTypes := #[45, 45] }, _, _, _, none⟩) rfl rfl ?_
   refine wp_append_lies _ (.tmp 81) (.tmp 85) 45 rfl b0 52 inf (.agg #[.int .i64 0, .int .i64 0, .bool false, .string ⟨#[]⟩, .int .i64 0]) 5 48 Tryz.underlying45 hi0 hz0 hz1 hz2 rfl (by decide) lg log.length (logC log) rfl hownA ⟨W8.heap.size, 0, none⟩ 1 1 (c.cs ++ [Value.int .i64 r]) rfl rfl hnewsA (by intro v hv; simp [CL.cs] at hv; rcases hv with rfl | rfl | rfl | rfl | rfl <;> rfl) (by decide) (by unfold maxLen; omega) (by omega) hzA _ rfl ?_
   intro gn cap wn hon hgrow hat hlt
   have hSn : S8 wn := by
    show wn.heap[w.heap.size]? = _
    rw [hgrow.block w.heap.size (lt_of_heap hSA) (fun e => NBOX _ e.symm rfl)]; exact hSA
   refine ⟨hSn, ?_⟩
   simp only [Act.put, lsE, lsZ, lsS]
   refine tkE (S := S8) (i := 10) (oi := ⟨some 87, .nilCheck (.tmp 77), _, _, _, none⟩) (v := .pointer (some ⟨Pp, 0, none⟩)) rfl hSn ?_
   simp only [Act.put, lsE, lsZ, lsS]
   refine tkE (S := S8) (i := 11) (oi := ⟨some 88, .fieldAddr 48 (.tmp 87) 0, _, _, _, none⟩) (v := .pointer (some ⟨Pp, 0, none⟩)) rfl hSn ?_
   simp only [Act.put, lsE, lsZ, lsS]
   refine wpAnyH_all (rs := [12]) (by kernel_rfl) (by simp) ?_
   intro is his
   obtain rfl : is = 12 := by simpa using his
   have hPn : wn.heap[Pp]? = _ := (hgrow.block Pp (lt_of_heap hPA) (fun e => NPP _ e.symm rfl)).trans hPA
   have hPE := heap_setCell_at wn Pp 0 _ _ (.slice (some ⟨gn, 0, none⟩) (log.length + 1) cap) hPn
   have hcn : wn.cell? ⟨Pp, 0, none⟩ = some lg := (cell_of_row wn Pp 0 _ _ _ hPn).trans rfl
   have hSw : S8 (wn.setCell ⟨Pp, 0, none⟩ (.slice (some ⟨gn, 0, none⟩) (log.length + 1) cap)) := (heap_setCell_ne wn ⟨Pp, 0, none⟩ w.heap.size _ (by simp; omega)).trans hSn
   refine wpOp_skip (o := ⟨none, .store 45 (.tmp 88) (.tmp 86), _, _, _, none⟩) (w' := wn.setCell ⟨Pp, 0, none⟩ (.slice (some ⟨gn, 0, none⟩) (log.length + 1) cap)) rfl rfl (exec_store 45 (.tmp 88) (.tmp 86) rfl ⟨Pp, 0, none⟩ (.slice (some ⟨gn, 0, none⟩) (log.length + 1) cap) rfl rfl (run_storeAt_one hcn (frozen_of_row wn Pp 0 _ _ hPn) (by kernel_rfl) rfl)) ⟨hSw, ?_⟩
   simp only [Act.put]
   refine wpAnyH_done (by kernel_rfl) ?_ _
   have hgW : lg.ownBlock = some gn ∨ W8.heap.size ≤ gn := by
    rcases hat with e | e
    ·exact .inl e
    ·right; simp at e; omega
   have hFn : Fr (fun b => b = Pp ∨ lg.ownBlock = some b) W0 (wn.setCell ⟨Pp, 0, none⟩ (.slice (some ⟨gn, 0, none⟩) (log.length + 1) cap)) := Fr.setCell (S := fun b => b = Pp ∨ lg.ownBlock = some b) ((((hfW8.mono (fun _ _ h => h.elim)).trans (hFA.mono (fun _ _ h => h.elim)) (fun _ _ h => h)).grown hgrow (fun b _ hb => .inr hb))) ⟨Pp, 0, none⟩ (fun _ => .inl rfl) _
   have honE : (wn.setCell ⟨Pp, 0, none⟩ (.slice (some ⟨gn, 0, none⟩) (log.length + 1) cap)).ownsRow b0 52 5 (.slice (some ⟨gn, 0, none⟩) (log.length + 1) cap) (log.length + 1) ((logC log) ++ (c.cs ++ [Value.int .i64 r])) := own_set hPn (by decide) hon
   have hgl : gn < (wn.setCell ⟨Pp, 0, none⟩ (.slice (some ⟨gn, 0, none⟩) (log.length + 1) cap)).heap.size := by simpa [World.setCell] using hlt
   obtain ⟨WE, HWE⟩ : ∃ WE, Hid (WE = wn.setCell ⟨Pp, 0, none⟩ (.slice (some ⟨gn, 0, none⟩) (log.length + 1) cap)) := ⟨_, rfl⟩
   have hSw' : WE.heap[w.heap.size]? = some (.cells c.cs.toArray 50 (0, 0)) := by rw [HWE.out]; exact hSw
   rw [← HWE.out] at hPE hFn honE hgl ⊢
   clear HWE hSw hcn hPn hon hgrow hat hSn hlt
   have HE : Hid (AskQ w Pp b0 lg ef l log rl at' c r ef' eff' WE) := ⟨_, ⟨hPE, by rw [List.length_append, List.length_singleton, logC_snoc]; exact honE, own_fr hW.eo hFn (fun b cs hb hv h => NEF b cs hb hv h), own_fr hW.la hFn (fun b cs hb hv h => NLA b cs hb hv h)⟩, hW.fr.trans hFn (fun b hb h => by rcases h with h | h; exact .inl h; exact .inr (.inl h)), fun b hb => by
    simp only [Value.ownBlock, Option.some.injEq] at hb
    subst hb
    rcases hgW with h | h
    ·exact .inl (.inr (.inl h))
    ·exact .inr (by have := hW.fr.size; omega), hW.ef⟩
   clear hPE hFn honE hgl hSw' hgW
   go_wp2
   go_ret
   exact ⟨by rw [← HR1.out]; rfl, _, by rw [← HR1.out, ← HE1.out]; exact HE.out⟩
  ·refine wpOp_value (o := ⟨some 85, .buildSlice 45 1 #[(0, .tmp 84)], _, _, _, none⟩) (v := .slice (some ⟨W8.heap.size, 0, none⟩) 1 1) (w' := W8.alloc (.cells (c.cs ++ [Value.int .i64 r]).toArray 52)) rfl rfl (exec_buildSlice 45 1 #[(0, .tmp 84)] rfl #[(0, .agg (c.cs ++ [Value.int .i64 r]).toArray)] (by simp [Act.eval]) hbs) ⟨hSA, ?_⟩
   simp only [Act.put, lsE, lsZ, lsS]
   refine wpAnyH_all (rs := [4]) (by kernel_rfl) (by simp) ?_
   intro ib hib
   obtain rfl : ib = 4 := by simpa using hib
   refine wpOp_value (o := ⟨some 81, .load 45 (.tmp 80), _, _, _, none⟩) (v := lg) rfl rfl (exec_load 45 (.tmp 80) rfl ⟨Pp, 0, none⟩ rfl hl2) ⟨hSA, ?_⟩
   simp only [Act.put, lsE, lsZ, lsS]
   refine wpAnyH_all (rs := [9]) (by kernel_rfl) (by simp) ?_
   intro ia hia
   obtain rfl : ia = 9 := by simpa using hia
   refine wpOp_of_wp (o := ⟨some 86, .call { callee := .builtin .append, args := #[.tmp 81, .tmp 85], argTypes := #[45, 45] }, _, _, _, none⟩) rfl rfl ?_
   refine wp_append_lies _ (.tmp 81) (.tmp 85) 45 rfl b0 52 inf (.agg #[.int .i64 0, .int .i64 0, .bool false, .string ⟨#[]⟩, .int .i64 0]) 5 48 Tryz.underlying45 hi0 hz0 hz1 hz2 rfl (by decide) lg log.length (logC log) rfl hownA ⟨W8.heap.size, 0, none⟩ 1 1 (c.cs ++ [Value.int .i64 r]) rfl rfl hnewsA (by intro v hv; simp [CL.cs] at hv; rcases hv with rfl | rfl | rfl | rfl | rfl <;> rfl) (by decide) (by unfold maxLen; omega) (by omega) hzA _ rfl ?_
   intro gn cap wn hon hgrow hat hlt
   have hSn : S8 wn := by
    show wn.heap[w.heap.size]? = _
    rw [hgrow.block w.heap.size (lt_of_heap hSA) (fun e => NBOX _ e.symm rfl)]; exact hSA
   refine ⟨hSn, ?_⟩
   simp only [Act.put, lsE, lsZ, lsS]
   refine tkE (S := S8) (i := 10) (oi := ⟨some 87, .nilCheck (.tmp 77), _, _, _, none⟩) (v := .pointer (some ⟨Pp, 0, none⟩)) rfl hSn ?_
   simp only [Act.put, lsE, lsZ, lsS]
   refine tkE (S := S8) (i := 11) (oi := ⟨some 88, .fieldAddr 48 (.tmp 87) 0, _, _, _, none⟩) (v := .pointer (some ⟨Pp, 0, none⟩)) rfl hSn ?_
   simp only [Act.put, lsE, lsZ, lsS]
   refine wpAnyH_all (rs := [12]) (by kernel_rfl) (by simp) ?_
   intro is his
   obtain rfl : is = 12 := by simpa using his
   have hPn : wn.heap[Pp]? = _ := (hgrow.block Pp (lt_of_heap hPA) (fun e => NPP _ e.symm rfl)).trans hPA
   have hPE := heap_setCell_at wn Pp 0 _ _ (.slice (some ⟨gn, 0, none⟩) (log.length + 1) cap) hPn
   have hcn : wn.cell? ⟨Pp, 0, none⟩ = some lg := (cell_of_row wn Pp 0 _ _ _ hPn).trans rfl
   have hSw : S8 (wn.setCell ⟨Pp, 0, none⟩ (.slice (some ⟨gn, 0, none⟩) (log.length + 1) cap)) := (heap_setCell_ne wn ⟨Pp, 0, none⟩ w.heap.size _ (by simp; omega)).trans hSn
   refine wpOp_skip (o := ⟨none, .store 45 (.tmp 88) (.tmp 86), _, _, _, none⟩) (w' := wn.setCell ⟨Pp, 0, none⟩ (.slice (some ⟨gn, 0, none⟩) (log.length + 1) cap)) rfl rfl (exec_store 45 (.tmp 88) (.tmp 86) rfl ⟨Pp, 0, none⟩ (.slice (some ⟨gn, 0, none⟩) (log.length + 1) cap) rfl rfl (run_storeAt_one hcn (frozen_of_row wn Pp 0 _ _ hPn) (by kernel_rfl) rfl)) ⟨hSw, ?_⟩
   simp only [Act.put]
   refine wpAnyH_done (by kernel_rfl) ?_ _
   have hgW : lg.ownBlock = some gn ∨ W8.heap.size ≤ gn := by
    rcases hat with e | e
    ·exact .inl e
    ·right; simp at e; omega
   have hFn : Fr (fun b => b = Pp ∨ lg.ownBlock = some b) W0 (wn.setCell ⟨Pp, 0, none⟩ (.slice (some ⟨gn, 0, none⟩) (log.length + 1) cap)) := Fr.setCell (S := fun b => b = Pp ∨ lg.ownBlock = some b) ((((hfW8.mono (fun _ _ h => h.elim)).trans (hFA.mono (fun _ _ h => h.elim)) (fun _ _ h => h)).grown hgrow (fun b _ hb => .inr hb))) ⟨Pp, 0, none⟩ (fun _ => .inl rfl) _
   have honE : (wn.setCell ⟨Pp, 0, none⟩ (.slice (some ⟨gn, 0, none⟩) (log.length + 1) cap)).ownsRow b0 52 5 (.slice (some ⟨gn, 0, none⟩) (log.length + 1) cap) (log.length + 1) ((logC log) ++ (c.cs ++ [Value.int .i64 r])) := own_set hPn (by decide) hon
   have hgl : gn < (wn.setCell ⟨Pp, 0, none⟩ (.slice (some ⟨gn, 0, none⟩) (log.length + 1) cap)).heap.size := by simpa [World.setCell] using hlt
   obtain ⟨WE, HWE⟩ : ∃ WE, Hid (WE = wn.setCell ⟨Pp, 0, none⟩ (.slice (some ⟨gn, 0, none⟩) (log.length + 1) cap)) := ⟨_, rfl⟩
   have hSw' : WE.heap[w.heap.size]? = some (.cells c.cs.toArray 50 (0, 0)) := by rw [HWE.out]; exact hSw
   rw [← HWE.out] at hPE hFn honE hgl ⊢
   clear HWE hSw hcn hPn hon hgrow hat hSn hlt
   have HE : Hid (AskQ w Pp b0 lg ef l log rl at' c r ef' eff' WE) := ⟨_, ⟨hPE, by rw [List.length_append, List.length_singleton, logC_snoc]; exact honE, own_fr hW.eo hFn (fun b cs hb hv h => NEF b cs hb hv h), own_fr hW.la hFn (fun b cs hb hv h => NLA b cs hb hv h)⟩, hW.fr.trans hFn (fun b hb h => by rcases h with h | h; exact .inl h; exact .inr (.inl h)), fun b hb => by
    simp only [Value.ownBlock, Option.some.injEq] at hb
    subst hb
    rcases hgW with h | h
    ·exact .inl (.inr (.inl h))
    ·exact .inr (by have := hW.fr.size; omega), hW.ef⟩
   clear hPE hFn honE hgl hSw' hgW
   go_wp2
   go_ret
   exact ⟨by rw [← HR1.out]; rfl, _, by rw [← HR1.out, ← HE1.out]; exact HE.out⟩
 clear hK2 hrg x2 HW1 hC0 hfa
 refine (pDone_of hA1 hne).mono ?_
 rintro e w2 ⟨rfl, hf2⟩
 have hW : AkI w Pp b0 lg ef l log rl at' c ef eff w2 := hA1.frz hf2
 clear hA1 hf2
 cases hd : eff.any (·.same c)
 ·have HD : Hid (eff.any (·.same c) = false) := hd
  clear hd
  go_wp2_with fail
  have hP0 := hW.p
  have hsz0 : w.heap.size < w2.heap.size := lt_of_heap hW.c
  have NBOX : ∀ b, ef.ownBlock = some b → b ≠ w.heap.size := fun b hb => by have := hefl b hb; omega
  have NPP : ∀ b, ef.ownBlock = some b → b ≠ Pp := fun b hb e => by
   obtain ⟨cs, hcs⟩ := own_ty hW.eo hb
   rw [e, hP0] at hcs
   simp at hcs
  have NLO : ∀ b cs, w2.heap[b]? = some (.cells cs 52 (0, 0)) → lg.ownBlock = some b → ¬ (b = Pp ∨ ef.ownBlock = some b) := by
   rintro b cs hb hv (h | h)
   ·rw [h, hP0] at hb; simp at hb
   ·obtain ⟨cs', hcs⟩ := own_ty hW.eo h
    rw [hb] at hcs; simp at hcs
  have NLA : ∀ b cs, w2.heap[b]? = some (.cells cs 3 (0, 0)) → l.ownBlock = some b → ¬ (b = Pp ∨ ef.ownBlock = some b) := by
   rintro b cs hb hv (h | h)
   ·rw [h, hP0] at hb; simp at hb
   ·obtain ⟨cs', hcs⟩ := own_ty hW.eo h
    rw [hb] at hcs; simp at hcs
  obtain ⟨W4, HW4⟩ : ∃ W4, Hid (W4 = w2.drew) := ⟨_, rfl⟩
  have hfW4 : Fr (fun _ => False) w2 W4 := by rw [HW4.out]; exact (Fr.refl _ _).drew
  let S4 : World → Prop := fun w' => w'.heap[w.heap.size]? = some (.cells c.cs.toArray 50 (0, 0))
  have hS4 : S4 W4 := hfW4.keep hW.c (fun h => h)
  refine wp_region_held (S := S4) hlift ?_
  change wpAnyH _ _ _ _ S4 _ _ _ (World.drew _)
  rw [← HW4.out]
  clear HW4
  refine tkE (S := S4) (i := 0) (oi := ⟨some 41, .move (.tmp 0), _, _, _, none⟩) (v := .pointer (some ⟨Pp, 0, none⟩)) rfl hS4 ?_
  simp only [Act.put, lsE, lsZ, lsS]
  refine tkE (S := S4) (i := 1) (oi := ⟨some 42, .move (.tmp 0), _, _, _, none⟩) (v := .pointer (some ⟨Pp, 0, none⟩)) rfl hS4 ?_
  simp only [Act.put, lsE, lsZ, lsS]
  refine tkE (S := S4) (i := 2) (oi := ⟨some 43, .nilCheck (.tmp 42), _, _, _, none⟩) (v := .pointer (some ⟨Pp, 0, none⟩)) rfl hS4 ?_
  simp only [Act.put, lsE, lsZ, lsS]
  refine tkE (S := S4) (i := 3) (oi := ⟨some 44, .fieldAddr 48 (.tmp 43) 1, _, _, _, none⟩) (v := .pointer (some ⟨Pp, 1, none⟩)) rfl hS4 ?_
  simp only [Act.put, lsE, lsZ, lsS]
  refine tkY (S := S4) (i := 5) (oi := ⟨some 46, .load 50 (.tmp 3), _, _, _, none⟩) (v := .agg c.cs.toArray) rfl (Or.inl ⟨rfl, fun w' hs => exec_load 50 (.tmp 3) rfl ⟨w.heap.size, 0, none⟩ rfl (loadC hs)⟩) hS4 ?_
  simp only [Act.put, lsE, lsZ, lsS]
  have hl1 : (Instr.loadAt 46 (.pointer (some ⟨Pp, 1, none⟩))).run Tryz.prog W4 = .ok ef W4 := run_loadAt_one ((cell_of_row W4 Pp 1 _ _ _ (hfW4.keep hP0 (fun h => h))).trans rfl) Tryz.underlying46 rfl
  have hPA := (((Fr.refl (fun _ => False) W4).alloc (.cells c.cs.toArray 50))).keep (hfW4.keep hP0 (fun h => h)) (fun h => h)
  have hl2 : (Instr.loadAt 46 (.pointer (some ⟨Pp, 1, none⟩))).run Tryz.prog (W4.alloc (.cells c.cs.toArray 50)) = .ok ef (W4.alloc (.cells c.cs.toArray 50)) := run_loadAt_one ((cell_of_row _ Pp 1 _ _ _ hPA).trans rfl) Tryz.underlying46 rfl
  have hbs : (Instr.buildSlice 46 1 #[(0, .agg c.cs.toArray)]).run Tryz.prog W4 = .ok (.slice (some ⟨W4.heap.size, 0, none⟩) 1 1) (W4.alloc (.cells c.cs.toArray 50)) := run_bs_call c W4
  have hFA : Fr (fun _ => False) W4 (W4.alloc (.cells c.cs.toArray 50)) := (Fr.refl _ _).alloc _
  have hSA : S4 (W4.alloc (.cells c.cs.toArray 50)) := hFA.keep hS4 (fun h => h)
  have hownA := own_fr (own_fr hW.eo hfW4 (fun _ _ _ _ h => h)) hFA (fun _ _ _ _ h => h)
  have hnewsA := World.news_of_block (w := W4.alloc (.cells c.cs.toArray 50)) (B := W4.heap.size) (heap_alloc_at W4 (.cells c.cs.toArray 50))
  have hsW := hfW4.size
  have hzA : b0 ≤ (W4.alloc (.cells c.cs.toArray 50)).heap.size := by simp; omega
  obtain ⟨inf, hi0, hz0, hz1, hz2⟩ := info_parts call_info
  refine wpAnyH_all (rs := [4, 6]) (by kernel_rfl) (by simp) ?_
  intro iz hiz
  have hzz : iz = 4 ∨ iz = 6 := by simpa using hiz
  rcases hzz with rfl | rfl
  ·refine wpOp_value (o := ⟨some 45, .load 46 (.tmp 44), _, _, _, none⟩) (v := ef) rfl rfl (exec_load 46 (.tmp 44) rfl ⟨Pp, 1, none⟩ rfl hl1) ⟨hS4, ?_⟩
   simp only [Act.put, lsE, lsZ, lsS]
   refine wpAnyH_all (rs := [6]) (by kernel_rfl) (by simp) ?_
   intro ib hib
   obtain rfl : ib = 6 := by simpa using hib
   refine wpOp_value (o := ⟨some 47, .buildSlice 46 1 #[(0, .tmp 46)], _, _, _, none⟩) (v := .slice (some ⟨W4.heap.size, 0, none⟩) 1 1) (w' := W4.alloc (.cells c.cs.toArray 50)) rfl rfl (exec_buildSlice 46 1 #[(0, .tmp 46)] rfl #[(0, .agg c.cs.toArray)] (by simp [Act.eval]) hbs) ⟨hSA, ?_⟩
   simp only [Act.put, lsE, lsZ, lsS]
   refine wpAnyH_all (rs := [7]) (by kernel_rfl) (by simp) ?_
   intro ia hia
   obtain rfl : ia = 7 := by simpa using hia
   refine wpOp_of_wp (o := ⟨some 48, .call { callee := .builtin .append, args := #[.tmp 45, .tmp 47], argTypes := #[46, 46] }, _, _, _, none⟩) rfl rfl ?_
   refine wp_append_lies _ (.tmp 45) (.tmp 47) 46 rfl b0 50 inf (.agg #[.int .i64 0, .int .i64 0, .bool false, .string ⟨#[]⟩]) 4 40 Tryz.underlying46 hi0 hz0 hz1 hz2 rfl (by decide) ef eff.length (effC eff) rfl hownA ⟨W4.heap.size, 0, none⟩ 1 1 c.cs rfl rfl hnewsA (by intro v hv; simp [CL.cs] at hv; rcases hv with rfl | rfl | rfl | rfl <;> rfl) (by decide) (by unfold maxLen; omega) (by omega) hzA _ rfl ?_
   intro gn cap wn hon hgrow hat hlt
   have hSn : S4 wn := by
    show wn.heap[w.heap.size]? = _
    rw [hgrow.block w.heap.size (lt_of_heap hSA) (fun e => NBOX _ e.symm rfl)]; exact hSA
   refine ⟨hSn, ?_⟩
   simp only [Act.put, lsE, lsZ, lsS]
   refine tkE (S := S4) (i := 8) (oi := ⟨some 49, .nilCheck (.tmp 41), _, _, _, none⟩) (v := .pointer (some ⟨Pp, 0, none⟩)) rfl hSn ?_
   simp only [Act.put, lsE, lsZ, lsS]
   refine tkE (S := S4) (i := 9) (oi := ⟨some 50, .fieldAddr 48 (.tmp 49) 1, _, _, _, none⟩) (v := .pointer (some ⟨Pp, 1, none⟩)) rfl hSn ?_
   simp only [Act.put, lsE, lsZ, lsS]
   refine wpAnyH_all (rs := [10]) (by kernel_rfl) (by simp) ?_
   intro is his
   obtain rfl : is = 10 := by simpa using his
   have hPn : wn.heap[Pp]? = _ := (hgrow.block Pp (lt_of_heap hPA) (fun e => NPP _ e.symm rfl)).trans hPA
   have hPE := heap_setCell_at wn Pp 1 _ _ (.slice (some ⟨gn, 0, none⟩) (eff.length + 1) cap) hPn
   have hcn : wn.cell? ⟨Pp, 1, none⟩ = some ef := (cell_of_row wn Pp 1 _ _ _ hPn).trans rfl
   have hSw : S4 (wn.setCell ⟨Pp, 1, none⟩ (.slice (some ⟨gn, 0, none⟩) (eff.length + 1) cap)) := (heap_setCell_ne wn ⟨Pp, 1, none⟩ w.heap.size _ (by simp; omega)).trans hSn
   refine wpOp_skip (o := ⟨none, .store 46 (.tmp 50) (.tmp 48), _, _, _, none⟩) (w' := wn.setCell ⟨Pp, 1, none⟩ (.slice (some ⟨gn, 0, none⟩) (eff.length + 1) cap)) rfl rfl (exec_store 46 (.tmp 50) (.tmp 48) rfl ⟨Pp, 1, none⟩ (.slice (some ⟨gn, 0, none⟩) (eff.length + 1) cap) rfl rfl (run_storeAt_one hcn (frozen_of_row wn Pp 1 _ _ hPn) (by kernel_rfl) rfl)) ⟨hSw, ?_⟩
   simp only [Act.put]
   refine wpAnyH_done (by kernel_rfl) ?_ _
   have hgW : ef.ownBlock = some gn ∨ W4.heap.size ≤ gn := by
    rcases hat with e | e
    ·exact .inl e
    ·right; simp at e; omega
   have hFn : Fr (fun b => b = Pp ∨ ef.ownBlock = some b) w2 (wn.setCell ⟨Pp, 1, none⟩ (.slice (some ⟨gn, 0, none⟩) (eff.length + 1) cap)) := Fr.setCell (S := fun b => b = Pp ∨ ef.ownBlock = some b) ((((hfW4.mono (fun _ _ h => h.elim)).trans (hFA.mono (fun _ _ h => h.elim)) (fun _ _ h => h)).grown hgrow (fun b _ hb => .inr hb))) ⟨Pp, 1, none⟩ (fun _ => .inl rfl) _
   have honE : (wn.setCell ⟨Pp, 1, none⟩ (.slice (some ⟨gn, 0, none⟩) (eff.length + 1) cap)).ownsRow b0 50 4 (.slice (some ⟨gn, 0, none⟩) (eff.length + 1) cap) (eff.length + 1) ((effC eff) ++ c.cs) := own_set hPn (by decide) hon
   have hgl : gn < (wn.setCell ⟨Pp, 1, none⟩ (.slice (some ⟨gn, 0, none⟩) (eff.length + 1) cap)).heap.size := by simpa [World.setCell] using hlt
   obtain ⟨WE, HWE⟩ : ∃ WE, Hid (WE = wn.setCell ⟨Pp, 1, none⟩ (.slice (some ⟨gn, 0, none⟩) (eff.length + 1) cap)) := ⟨_, rfl⟩
   have hSw' : WE.heap[w.heap.size]? = some (.cells c.cs.toArray 50 (0, 0)) := by rw [HWE.out]; exact hSw
   rw [← HWE.out] at hPE hFn honE hgl ⊢
   clear HWE hSw hcn hPn hon hgrow hat hSn hlt
   have hAk : AkI w Pp b0 lg ef l log rl at' c (.slice (some ⟨gn, 0, none⟩) (eff.length + 1) cap) (eff ++ [c]) WE := ⟨hPE, hSw', own_fr hW.lo hFn (fun b cs hb hv h => NLO b cs hb hv h), by rw [List.length_append, List.length_singleton, effC_snoc]; exact honE, own_fr hW.la hFn (fun b cs hb hv h => NLA b cs hb hv h), hW.fr.trans hFn (fun b hb h => by rcases h with h | h; exact .inl h; exact .inr (.inr (.inl h))), fun b hb => by
    simp only [Value.ownBlock, Option.some.injEq] at hb
    subst hb
    rcases hgW with h | h
    ·exact .inl (.inr (.inr (.inl h)))
    ·exact .inr (by have := hW.fr.size; omega)⟩
   have HA : Hid (AkI w Pp b0 lg ef l log rl at' c (.slice (some ⟨gn, 0, none⟩) (eff.length + 1) cap) (eff ++ [c]) WE) := hAk
   clear hPE hFn honE hgl hSw' hgW hAk
   go_wp2
   exact TAIL _ _ _ _ _ _ _ _ _ _ _ _ _ _ _ _ _ _ _ _ _ _ _ _ _ _ _ _ _ _ _ _ _ _ _ _ _ _ _ _ _ _ _ _ _ _ _ _ _ _ _ _ _ _ _ _ _ _ _ _ _ _ _ _ _ _ _ _ _ _ _ _ _ _ _ _ _ _ _ _ _ _ _ _ _ _ _ 0 _ _ _ (by rw [← HRR.out]; simp [askR, HD.out]) (by rw [← HEE.out]; simp [askE, HD.out]) HA.out
  ·refine wpOp_value (o := ⟨some 47, .buildSlice 46 1 #[(0, .tmp 46)], _, _, _, none⟩) (v := .slice (some ⟨W4.heap.size, 0, none⟩) 1 1) (w' := W4.alloc (.cells c.cs.toArray 50)) rfl rfl (exec_buildSlice 46 1 #[(0, .tmp 46)] rfl #[(0, .agg c.cs.toArray)] (by simp [Act.eval]) hbs) ⟨hSA, ?_⟩
   simp only [Act.put, lsE, lsZ, lsS]
   refine wpAnyH_all (rs := [4]) (by kernel_rfl) (by simp) ?_
   intro ib hib
   obtain rfl : ib = 4 := by simpa using hib
   refine wpOp_value (o := ⟨some 45, .load 46 (.tmp 44), _, _, _, none⟩) (v := ef) rfl rfl (exec_load 46 (.tmp 44) rfl ⟨Pp, 1, none⟩ rfl hl2) ⟨hSA, ?_⟩
   simp only [Act.put, lsE, lsZ, lsS]
   refine wpAnyH_all (rs := [7]) (by kernel_rfl) (by simp) ?_
   intro ia hia
   obtain rfl : ia = 7 := by simpa using hia
   refine wpOp_of_wp (o := ⟨some 48, .call { callee := .builtin .append, args := #[.tmp 45, .tmp 47], argTypes := #[46, 46] }, _, _, _, none⟩) rfl rfl ?_
   refine wp_append_lies _ (.tmp 45) (.tmp 47) 46 rfl b0 50 inf (.agg #[.int .i64 0, .int .i64 0, .bool false, .string ⟨#[]⟩]) 4 40 Tryz.underlying46 hi0 hz0 hz1 hz2 rfl (by decide) ef eff.length (effC eff) rfl hownA ⟨W4.heap.size, 0, none⟩ 1 1 c.cs rfl rfl hnewsA (by intro v hv; simp [CL.cs] at hv; rcases hv with rfl | rfl | rfl | rfl <;> rfl) (by decide) (by unfold maxLen; omega) (by omega) hzA _ rfl ?_
   intro gn cap wn hon hgrow hat hlt
   have hSn : S4 wn := by
    show wn.heap[w.heap.size]? = _
    rw [hgrow.block w.heap.size (lt_of_heap hSA) (fun e => NBOX _ e.symm rfl)]; exact hSA
   refine ⟨hSn, ?_⟩
   simp only [Act.put, lsE, lsZ, lsS]
   refine tkE (S := S4) (i := 8) (oi := ⟨some 49, .nilCheck (.tmp 41), _, _, _, none⟩) (v := .pointer (some ⟨Pp, 0, none⟩)) rfl hSn ?_
   simp only [Act.put, lsE, lsZ, lsS]
   refine tkE (S := S4) (i := 9) (oi := ⟨some 50, .fieldAddr 48 (.tmp 49) 1, _, _, _, none⟩) (v := .pointer (some ⟨Pp, 1, none⟩)) rfl hSn ?_
   simp only [Act.put, lsE, lsZ, lsS]
   refine wpAnyH_all (rs := [10]) (by kernel_rfl) (by simp) ?_
   intro is his
   obtain rfl : is = 10 := by simpa using his
   have hPn : wn.heap[Pp]? = _ := (hgrow.block Pp (lt_of_heap hPA) (fun e => NPP _ e.symm rfl)).trans hPA
   have hPE := heap_setCell_at wn Pp 1 _ _ (.slice (some ⟨gn, 0, none⟩) (eff.length + 1) cap) hPn
   have hcn : wn.cell? ⟨Pp, 1, none⟩ = some ef := (cell_of_row wn Pp 1 _ _ _ hPn).trans rfl
   have hSw : S4 (wn.setCell ⟨Pp, 1, none⟩ (.slice (some ⟨gn, 0, none⟩) (eff.length + 1) cap)) := (heap_setCell_ne wn ⟨Pp, 1, none⟩ w.heap.size _ (by simp; omega)).trans hSn
   refine wpOp_skip (o := ⟨none, .store 46 (.tmp 50) (.tmp 48), _, _, _, none⟩) (w' := wn.setCell ⟨Pp, 1, none⟩ (.slice (some ⟨gn, 0, none⟩) (eff.length + 1) cap)) rfl rfl (exec_store 46 (.tmp 50) (.tmp 48) rfl ⟨Pp, 1, none⟩ (.slice (some ⟨gn, 0, none⟩) (eff.length + 1) cap) rfl rfl (run_storeAt_one hcn (frozen_of_row wn Pp 1 _ _ hPn) (by kernel_rfl) rfl)) ⟨hSw, ?_⟩
   simp only [Act.put]
   refine wpAnyH_done (by kernel_rfl) ?_ _
   have hgW : ef.ownBlock = some gn ∨ W4.heap.size ≤ gn := by
    rcases hat with e | e
    ·exact .inl e
    ·right; simp at e; omega
   have hFn : Fr (fun b => b = Pp ∨ ef.ownBlock = some b) w2 (wn.setCell ⟨Pp, 1, none⟩ (.slice (some ⟨gn, 0, none⟩) (eff.length + 1) cap)) := Fr.setCell (S := fun b => b = Pp ∨ ef.ownBlock = some b) ((((hfW4.mono (fun _ _ h => h.elim)).trans (hFA.mono (fun _ _ h => h.elim)) (fun _ _ h => h)).grown hgrow (fun b _ hb => .inr hb))) ⟨Pp, 1, none⟩ (fun _ => .inl rfl) _
   have honE : (wn.setCell ⟨Pp, 1, none⟩ (.slice (some ⟨gn, 0, none⟩) (eff.length + 1) cap)).ownsRow b0 50 4 (.slice (some ⟨gn, 0, none⟩) (eff.length + 1) cap) (eff.length + 1) ((effC eff) ++ c.cs) := own_set hPn (by decide) hon
   have hgl : gn < (wn.setCell ⟨Pp, 1, none⟩ (.slice (some ⟨gn, 0, none⟩) (eff.length + 1) cap)).heap.size := by simpa [World.setCell] using hlt
   obtain ⟨WE, HWE⟩ : ∃ WE, Hid (WE = wn.setCell ⟨Pp, 1, none⟩ (.slice (some ⟨gn, 0, none⟩) (eff.length + 1) cap)) := ⟨_, rfl⟩
   have hSw' : WE.heap[w.heap.size]? = some (.cells c.cs.toArray 50 (0, 0)) := by rw [HWE.out]; exact hSw
   rw [← HWE.out] at hPE hFn honE hgl ⊢
   clear HWE hSw hcn hPn hon hgrow hat hSn hlt
   have hAk : AkI w Pp b0 lg ef l log rl at' c (.slice (some ⟨gn, 0, none⟩) (eff.length + 1) cap) (eff ++ [c]) WE := ⟨hPE, hSw', own_fr hW.lo hFn (fun b cs hb hv h => NLO b cs hb hv h), by rw [List.length_append, List.length_singleton, effC_snoc]; exact honE, own_fr hW.la hFn (fun b cs hb hv h => NLA b cs hb hv h), hW.fr.trans hFn (fun b hb h => by rcases h with h | h; exact .inl h; exact .inr (.inr (.inl h))), fun b hb => by
    simp only [Value.ownBlock, Option.some.injEq] at hb
    subst hb
    rcases hgW with h | h
    ·exact .inl (.inr (.inr (.inl h)))
    ·exact .inr (by have := hW.fr.size; omega)⟩
   have HA : Hid (AkI w Pp b0 lg ef l log rl at' c (.slice (some ⟨gn, 0, none⟩) (eff.length + 1) cap) (eff ++ [c]) WE) := hAk
   clear hPE hFn honE hgl hSw' hgW hAk
   go_wp2
   exact TAIL _ _ _ _ _ _ _ _ _ _ _ _ _ _ _ _ _ _ _ _ _ _ _ _ _ _ _ _ _ _ _ _ _ _ _ _ _ _ _ _ _ _ _ _ _ _ _ _ _ _ _ _ _ _ _ _ _ _ _ _ _ _ _ _ _ _ _ _ _ _ _ _ _ _ _ _ _ _ _ _ _ _ _ _ _ _ _ 0 _ _ _ (by rw [← HRR.out]; simp [askR, HD.out]) (by rw [← HEE.out]; simp [askE, HD.out]) HA.out
 ·have HA : Hid (AkI w Pp b0 lg ef l log rl at' c ef eff w2) := hW
  have HD : Hid (eff.any (·.same c) = true) := hd
  clear hW hd
  go_wp2
  exact TAIL _ _ _ _ _ _ _ _ _ _ _ _ _ _ _ _ _ _ _ _ _ _ _ _ _ _ _ _ _ _ _ _ _ _ _ _ _ _ _ _ _ _ _ _ _ _ _ _ _ _ _ _ _ _ _ _ _ _ _ _ _ _ _ _ _ _ _ _ _ _ _ _ _ _ _ _ _ _ _ _ _ _ _ _ _ _ _ 0 _ _ _ (by rw [← HRR.out]; simp [askR, HD.out]) (by rw [← HEE.out]; simp [askE, HD.out]) HA.out
end
end Go.Proofs.YteebjgfalllbjaaGreatDoor
namespace Go.Proofs.YteebjgfalllbjaaGreatDoor
open Go.RowKit
def NewPrtQ (w : World) (rl : List Int) (e : Ending) (w' : World) : Prop := ∃ Pp lv, e = .returned (.pointer (some ⟨Pp, 0, none⟩)) ∧ w.heap.size ≤ Pp ∧ PrtAt w' Pp w.heap.size (.slice none 0 0) (.slice none 0 0) lv [] [] rl 0 ∧ (∀ b, lv.ownBlock = some b → w.heap.size ≤ b) ∧ Fr (fun _ => False) w w'
set_option maxRecDepth 100000 in
set_option maxHeartbeats 1000000 in
theorem NewPartner_rows {w : World} {b0 : Nat} {rv : Value} {rl : List Int} (ho : w.ownsRow b0 3 1 rv rl.length (rl.map fun x => Value.int .i64 x)) (hr : rl.length < 1000000) :
  Calls Tryz.prog 18 #[rv] w fun e w' => NewPrtQ w rl e w' := by
 obtain ⟨i0, hi, hz0, hz1, hz2⟩ := info_parts int_info
 have h1 : ∀ v ∈ rl.map (fun x => Value.int .i64 x), v.oneCell' = true := fun v hv => by
  obtain ⟨x, _, rfl⟩ := List.mem_map.1 hv
  rfl
 rcases ho.2 with ⟨rfl, h0⟩ | ⟨g, cap, cur, rfl, hb, hg, hnc, hcm, hcs, ht⟩
 ·obtain rfl : rl = [] := List.eq_nil_of_length_eq_zero h0
  go_enter Tryz.func18, Tryz.ntmps18
  go_wp2
  go_ret
  exact ⟨_, .slice none 0 0, rfl, Nat.le_refl _, ⟨heap_alloc_at _ _, World.ownsRow_nil _ _ _ _, World.ownsRow_nil _ _ _ _, World.ownsRow_nil _ _ _ _⟩, (fun b hb => nomatch hb), (Fr.refl _ _).alloc _⟩
 ·have hc := ho.cells (g := g) rfl
  have hlen := ho.1
  generalize hrxs : rl.map (fun x => Value.int .i64 x) = rxs at *
  generalize hrn : rl.length = r at *
  have HX : Hid (rl.map (fun x => Value.int .i64 x) = rxs ∧ rl.length = r) := ⟨hrxs, hrn⟩
  clear hrxs hrn
  go_enter Tryz.func18, Tryz.ntmps18
  go_wp2_with (first | (at_builtin; refine wpList_append_own w rfl (.const (.slice none 0 0)) (.tmp 3) 24 rfl w.heap.size 3 i0 (.int .i64 0) 1 8 Tryz.underlying24 hi hz0 hz1 hz2 rfl (by decide) (.slice none 0 0) 0 [] rfl (World.ownsRow_nil _ _ _ _) ⟨g, 0, none⟩ r cap rxs rfl ?_ hc h1 ?_ ?_ ?_ ?_; (omega); (unfold maxLen; omega); omega; exact Nat.le_refl _; intro v' w1 hown' hgrow _; obtain ⟨ao, nn, cc, rfl⟩ : ∃ ao nn cc, v' = .slice ao nn cc := by (rcases hown'.2 with ⟨rfl, _⟩ | ⟨_, _, _, rfl, _⟩ <;> exact ⟨_, _, _, rfl⟩)))
  go_ret
  have hown2 : w1.ownsRow w.heap.size 3 1 (.slice ao nn cc) rl.length (rl.map fun x => Value.int .i64 x) := by
   rw [HX.out.1, HX.out.2]
   simpa using hown'
  exact ⟨_, .slice ao nn cc, rfl, hgrow.size, ⟨heap_alloc_at _ _, World.ownsRow_nil _ _ _ _, World.ownsRow_nil _ _ _ _, hown2.alloc _⟩, fun b hb => (hown2.lt b hb).1, ((Fr.refl _ _).grown hgrow (fun _ _ h => by cases h)).alloc _⟩
section
variable {w : World} {Pp b0 : Nat}
structure PSt where
 log : List (CL × Nat)
 eff : List CL
 at' : Nat
def PrtI (Pp b0 : Nat) (rl : List Int) (s : PSt) (F : Nat → Prop) (w : World) : Prop := b0 ≤ w.heap.size ∧ ∃ lg ef l, PrtAt w Pp b0 lg ef l s.log s.eff rl s.at' ∧ ∀ b, F b ↔ PartF Pp lg ef l b
theorem PrtAt.ty {lg ef l : Value} {log : List (CL × Nat)} {eff : List CL} {rl : List Int} {a : Int} (h : PrtAt w Pp b0 lg ef l log eff rl a) {b : Nat} (hb : PartF Pp lg ef l b) : ∃ c t, w.heap[b]? = some (.cells c t (0, 0)) ∧ PT t := by
 rcases hb with rfl | hb | hb | hb
 ·exact ⟨_, _, h.p, .inl rfl⟩
 ·obtain ⟨c, hc⟩ := own_ty h.lo hb
  exact ⟨_, _, hc, .inr (.inl rfl)⟩
 ·obtain ⟨c, hc⟩ := own_ty h.eo hb
  exact ⟨_, _, hc, .inr (.inr (.inl rfl))⟩
 ·obtain ⟨c, hc⟩ := own_ty h.la hb
  exact ⟨_, _, hc, .inr (.inr (.inr rfl))⟩
theorem PrtAt.fr {lg ef l : Value} {log : List (CL × Nat)} {eff : List CL} {rl : List Int} {a : Int} {S : Nat → Prop} {w' : World} (h : PrtAt w Pp b0 lg ef l log eff rl a) (hf : Fr S w w') (hS : ∀ b, PartF Pp lg ef l b → ¬ S b) : PrtAt w' Pp b0 lg ef l log eff rl a :=
 ⟨hf.keep h.p (hS _ (.inl rfl)), own_fr h.lo hf (fun b _ _ hb => hS b (.inr (.inl hb))), own_fr h.eo hf (fun b _ _ hb => hS b (.inr (.inr (.inl hb)))), own_fr h.la hf (fun b _ _ hb => hS b (.inr (.inr (.inr hb))))⟩
def kOf (rl : List Int) (a : Nat) : Int := if rl = [] then 0 else rl.getD (a % rl.length) 0 % 6
def nOf (rl : List Int) (a : Nat) : Nat := if rl = [] then a else a + 1
def pAsk (rl : List Int) (s : PSt) (c : CL) : Nat × PSt := (askR (kOf rl s.at') (s.eff.any (·.same c)) c.back, ⟨s.log ++ [(c, askR (kOf rl s.at') (s.eff.any (·.same c)) c.back)], askE (kOf rl s.at') (s.eff.any (·.same c)) s.eff c, nOf rl s.at'⟩)
theorem askR_le (k : Int) (d b : Bool) : askR k d b ≤ 2 := by
 unfold askR
 split <;> (split <;> try omega)
 split <;> (try omega)
 split <;> omega
theorem askE_le (k : Int) (d : Bool) (eff : List CL) (c : CL) : (askE k d eff c).length ≤ eff.length + 1 := by
 unfold askE
 split
 ·omega
 ·simp
def AskOk (Pp b0 : Nat) (rl : List Int) : Prop := ∀ (w : World) (lg ef l : Value) (log : List (CL × Nat)) (eff : List CL) (a : Nat) (c : CL), PrtAt w Pp b0 lg ef l log eff rl a → b0 ≤ w.heap.size → log.length ≤ 20000000 → eff.length ≤ 20000000 → a ≤ 20000000 →
 Calls Tryz.prog 47 #[.pointer (some ⟨Pp, 0, none⟩), .agg c.cs.toArray] w fun e w' => e = .returned (.int .i64 (askR (kOf rl a) (eff.any (·.same c)) c.back : Nat)) ∧ ∃ ef', AskQ w Pp b0 lg ef l log rl (nOf rl a : Nat) c (askR (kOf rl a) (eff.any (·.same c)) c.back) ef' (askE (kOf rl a) (eff.any (·.same c)) eff c) w'
theorem ask_nil_ok : AskOk Pp b0 [] := fun _ _ _ _ _ _ _ c h hb hl he _ => Ask_nil h hb hl he rfl c
def askV (Pp : Nat) : Value := .func (.func 47) #[.pointer (some ⟨Pp, 0, none⟩)] #[]
def ptn {Pp b0 : Nat} {rl : List Int} (H : AskOk Pp b0 rl) : Ptn (askV Pp) where
 σ := PSt
 PA := PrtI Pp b0 rl
 sz s := max (max s.log.length s.eff.length) s.at'
 ask := pAsk rl
 fr := by
  rintro S F w w' s ⟨hb, lg, ef, l, h, hF⟩ hf hS
  exact ⟨Nat.le_trans hb hf.size, lg, ef, l, h.fr hf (fun b hb => hS b ((hF b).2 hb)), hF⟩
 ty := by
  rintro F w s b ⟨hb, lg, ef, l, h, hF⟩ hFb
  exact h.ty ((hF b).1 hFb)
 le := fun s c => askR_le _ _ _
 szs := fun s c => by
  have h1 := askE_le (kOf rl s.at') (s.eff.any (·.same c)) s.eff c
  have h2 : nOf rl s.at' ≤ s.at' + 1 := by unfold nOf; split <;> omega
  show max (max (s.log ++ [(c, askR (kOf rl s.at') (s.eff.any (·.same c)) c.back)]).length (askE (kOf rl s.at') (s.eff.any (·.same c)) s.eff c).length) (nOf rl s.at') ≤ max (max s.log.length s.eff.length) s.at' + 1
  rw [List.length_append, List.length_singleton]
  omega
 rep := by
  rintro F w s X J R clock pause c ⟨hb, lg, ef, l, h, hF⟩ hsz he
  have hsz' : max (max s.log.length s.eff.length) s.at' < 20000000 := hsz
  have hFX : ¬ F X := fun hX => by
   obtain ⟨c', t, hc, ht⟩ := h.ty ((hF X).1 hX)
   have := hc.symm.trans he
   simp at this
   rw [this.2] at ht
   revert ht
   unfold PT
   decide
  refine (reply_ask c he (F := F) (Q := fun k W => k = ((pAsk rl s c).1 : Nat) ∧ ∃ F', PrtI Pp b0 rl (pAsk rl s c).2 F' W ∧ ∀ b, F' b → F b ∨ w.heap.size + 2 ≤ b) (fun W hf hs2 => ?_) hFX (fun b hb => ?_) ?_).mono ?_
  ·have hW : PrtAt W Pp b0 lg ef l s.log s.eff rl s.at' := h.fr hf (fun _ _ h => h)
   refine (H W lg ef l s.log s.eff s.at' c hW (Nat.le_trans hb hf.size) (by omega) (by omega) (by omega)).mono ?_
   rintro e w' ⟨rfl, ef', lg', hp', hfr, hl1, hl2⟩
   refine ⟨_, rfl, hfr.mono (fun b _ h => (hF b).2 h), rfl, PartF Pp lg' ef' l, ⟨Nat.le_trans (Nat.le_trans hb hf.size) hfr.size, lg', ef', l, hp', fun b => Iff.rfl⟩, ?_⟩
   rintro b (h | h | h | h)
   ·exact .inl ((hF b).2 (.inl h))
   ·exact (hl1 b h).imp (fun h => (hF b).2 h) (fun h => by omega)
   ·exact (hl2 b h).imp (fun h => (hF b).2 h) (fun h => by omega)
   ·exact .inl ((hF b).2 (.inr (.inr (.inr h))))
  ·obtain ⟨c', t, hc, _⟩ := h.ty ((hF b).1 hb)
   exact lt_of_heap hc
  ·rintro k W W' ⟨hk, F', ⟨hb', lg', ef', l', h', hF'⟩, hg⟩ hfW
   refine ⟨hk, F', ⟨Nat.le_trans hb' hfW.size, lg', ef', l', h'.fr hfW (fun b hb e => ?_), hF'⟩, hg⟩
   rcases hg b ((hF' b).2 hb) with h5 | h5
   ·obtain ⟨c', t, hc, _⟩ := h.ty ((hF b).1 h5)
    have := lt_of_heap hc
    omega
   ·omega
  ·rintro e w' ⟨k, rfl, hfr, rfl, F', hP, hg⟩
   exact ⟨rfl, hfr, F', hP, fun b hb => (hg b hb).imp id (fun h => by omega)⟩
end
end Go.Proofs.YteebjgfalllbjaaGreatDoor
