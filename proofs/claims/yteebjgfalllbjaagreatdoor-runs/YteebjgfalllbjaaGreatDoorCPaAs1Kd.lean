import Derived.Test.YteebjgfalllbjaaGreatDoorCVcVdVh
import Derived.Test.YteebjgfalllbjaaGreatDoorCOwnWiOk
import Derived.Test.YteebjgfalllbjaaGreatDoorCFoReAk
import Derived.Test.YteebjgfalllbjaaGreatDoorCTjTmKa
namespace Go.Proofs.YteebjgfalllbjaaGreatDoor
open Go.RowKit
/-- Was it done already? -/
def CL.same (e c : CL) : Bool := decide (e.saga = c.saga ∧ e.step = c.step ∧ e.back = c.back)
def effC (l : List CL) : List Value := (l.map CL.cs).flatten
theorem effC_len (l : List CL) : (effC l).length = l.length * 4 := by
  induction l with
  | nil => rfl
  | cons a l ih => simp [effC, CL.cs] at ih ⊢; omega
theorem acall_size : (Tryz.prog.info? 50).map (·.size) = some 4 := by kernel_rfl
set_option maxRecDepth 100000 in
set_option maxHeartbeats 4000000 in
theorem pDone_ok {w : World} {Pp : Nat} (c : CL) {lg l : Value} {ao : Option Addr} {cap : Nat} {at' : Int} {eff : List CL} (h : w.heap[Pp]? = some (.cells #[lg, .slice ao eff.length cap, l, .int .i64 at'] 48 (0, 0))) (hl : RowsOf w ao 4 (eff.map CL.cs)) (hn : eff.length ≤ 20000000) : Calls Tryz.prog 77 #[.pointer (some ⟨Pp, 0, none⟩), .agg c.cs.toArray] w fun e w' => e = .returned (.bool (eff.any (·.same c))) ∧ Fr (fun _ => False) w w' := by
  obtain ⟨a1, a2, a3, a4⟩ := c
  obtain ⟨W, HW⟩ : ∃ W, Hid (W = w.alloc (.cells #[.int .i64 a1, .int .i64 a2, .bool a3, .string a4] 50)) := ⟨_, rfl⟩
  have hfa : Fr (fun _ => False) w W := by rw [HW.out]; exact (Fr.refl _ _).alloc _
  have hrow : W.heap[w.heap.size]? = some (.cells #[.int .i64 a1, .int .i64 a2, .bool a3, .string a4] 50 (0, 0)) := by rw [HW.out]; exact heap_alloc_at _ _
  have c1 : (w.alloc (.cells #[.int .i64 a1, .int .i64 a2, .bool a3, .string a4] 50)).cell? ⟨Pp, 1, none⟩ = some (.slice ao eff.length cap) := by rw [← HW.out]; exact (cell_of_row W Pp 1 _ _ _ (hfa.keep h (fun h => h))).trans rfl
  have HF : Hid (Fr (fun _ => False) w W ∧ W.heap[w.heap.size]? = some (.cells #[.int .i64 a1, .int .i64 a2, .bool a3, .string a4] 50 (0, 0)) ∧ RowsOf w ao 4 (eff.map CL.cs)) := ⟨hfa, hrow, hl⟩
  clear hfa hrow hl h
  unfold CL.cs
  go_enter Tryz.func77, Tryz.ntmps77
  go_wp2
  rw [← HW.out] at *
  clear HW
  go_loopw [12] (fun c wr => ∃ i : Nat, i ≤ eff.length ∧ c = .int .i64 i ∧ Hid (Fr (fun _ => False) W wr ∧ (eff.take i).any (·.same ⟨a1, a2, a3, a4⟩) = false)) (fun c _ => eff.length - (intOf c).toNat)
  case atStart => exact ⟨0, Nat.zero_le _, rfl, Fr.refl _ _, rfl⟩
  case round =>
    obtain ⟨i, hi, rfl, HR⟩ := hrel
    by_cases hlt : i < eff.length
    · have hlt' : (i : Int) < eff.length := by omega
      obtain ⟨p, hp⟩ : ∃ p, eff[i]? = some p := ⟨_, List.getElem?_eq_getElem hlt⟩
      obtain ⟨g, off, rfl, hr⟩ := HF.out.2.2 i p.cs (by simp [hp])
      have hF2 := HF.out.1.trans HR.out.1 (fun _ _ h => h)
      have hrg : wr.rangeAt g (off + i * 4) p.cs := fun j v hv => hF2.cell (hr j v hv) (fun h => h)
      obtain ⟨p1, p2, p3, p4⟩ := p
      have hb := HR.out.1.keep HF.out.2.1 (fun h => h)
      have hfz : Fr (fun _ => False) W (wr.alloc (.cells #[.int .i64 p1, .int .i64 p2, .bool p3, .string p4] 50)) := HR.out.1.alloc _
      have b0 : (wr.alloc (.cells #[.int .i64 p1, .int .i64 p2, .bool p3, .string p4] 50)).cell? ⟨w.heap.size, 0, none⟩ = some (.int .i64 a1) := (cell_of_row _ _ 0 _ _ _ (hfz.keep HF.out.2.1 (fun h => h))).trans rfl
      have b1 : (wr.alloc (.cells #[.int .i64 p1, .int .i64 p2, .bool p3, .string p4] 50)).cell? ⟨w.heap.size, 1, none⟩ = some (.int .i64 a2) := (cell_of_row _ _ 1 _ _ _ (hfz.keep HF.out.2.1 (fun h => h))).trans rfl
      have b2 : (wr.alloc (.cells #[.int .i64 p1, .int .i64 p2, .bool p3, .string p4] 50)).cell? ⟨w.heap.size, 2, none⟩ = some (.bool a3) := (cell_of_row _ _ 2 _ _ _ (hfz.keep HF.out.2.1 (fun h => h))).trans rfl
      have HP : Hid (eff[i]? = some ⟨p1, p2, p3, p4⟩) := hp
      clear hp hr hF2 hb hfz
      unfold CL.cs at hrg
      have HX : Hid (∀ b, CL.same ⟨p1, p2, p3, p4⟩ ⟨a1, a2, a3, a4⟩ = b → (eff.take (i + 1)).any (·.same ⟨a1, a2, a3, a4⟩) = b) := fun b hb => by
        rw [List.take_add_one, HP.out, List.any_append, HR.out.2]
        simp [hb]
      have HY : Hid (CL.same ⟨p1, p2, p3, p4⟩ ⟨a1, a2, a3, a4⟩ = true → eff.any (·.same ⟨a1, a2, a3, a4⟩) = true) := fun hb => List.any_eq_true.2 ⟨_, List.mem_of_getElem? HP.out, hb⟩
      by_cases e1 : p1 = a1
      · subst e1
        by_cases e2 : p2 = a2
        · subst e2
          by_cases e3 : p3 = a3
          · subst e3
            go_wp2_with (first | (refine wpList_load_mid rfl 50 _ rfl g (off + i * 4) ?_ _ _ hrg Tryz.underlying50 rfl ?_ ?_; rfl; exact acall_size))
            go_ret
            refine ⟨?_, (HF.out.1.trans HR.out.1 (fun _ _ h => h)).alloc _⟩
            rw [HY.out (by simp [CL.same])]
            rfl
          · have e3' : (p3 == a3) = false := by simpa using e3
            go_wp2_with (first | (refine wpList_load_mid rfl 50 _ rfl g (off + i * 4) ?_ _ _ hrg Tryz.underlying50 rfl ?_ ?_; rfl; exact acall_size))
            go_roundw
            case rel => exact ⟨i + 1, by omega, by go_num, HR.out.1.alloc _, HX.out _ (by simp [CL.same, e3])⟩
            case measure => simp [intOf]; omega
        · go_wp2_with (first | (refine wpList_load_mid rfl 50 _ rfl g (off + i * 4) ?_ _ _ hrg Tryz.underlying50 rfl ?_ ?_; rfl; exact acall_size))
          go_roundw
          case rel => exact ⟨i + 1, by omega, by go_num, HR.out.1.alloc _, HX.out _ (by simp [CL.same, e2])⟩
          case measure => simp [intOf]; omega
      · go_wp2_with (first | (refine wpList_load_mid rfl 50 _ rfl g (off + i * 4) ?_ _ _ hrg Tryz.underlying50 rfl ?_ ?_; rfl; exact acall_size))
        go_roundw
        case rel => exact ⟨i + 1, by omega, by go_num, HR.out.1.alloc _, HX.out _ (by simp [CL.same, e1])⟩
        case measure => simp [intOf]; omega
    · go_wp2
      go_ret
      refine ⟨?_, HF.out.1.trans HR.out.1 (fun _ _ h => h)⟩
      have e := HR.out.2
      rw [List.take_of_length_le (by omega)] at e
      rw [e]
      rfl
end Go.Proofs.YteebjgfalllbjaaGreatDoor
namespace Go.Proofs.YteebjgfalllbjaaGreatDoor
open Go.RowKit
theorem asked_info : (Tryz.prog.info? 52).map (fun i => (i.zero, i.size, i.bytes)) = some (some (.agg #[.int .i64 0, .int .i64 0, .bool false, .string ⟨#[]⟩, .int .i64 0]), 5, 48) := by kernel_rfl
theorem call_info : (Tryz.prog.info? 50).map (fun i => (i.zero, i.size, i.bytes)) = some (some (.agg #[.int .i64 0, .int .i64 0, .bool false, .string ⟨#[]⟩]), 4, 40) := by kernel_rfl
theorem run_build_asked (c : CL) (r : Nat) (w : World) : (Instr.build 52 #[(0, .agg c.cs.toArray), (1, .int .i64 r)]).run Tryz.prog w = .ok (.agg (c.cs ++ [Value.int .i64 r]).toArray) w := by kernel_rfl
theorem exec_buildK {ρ : Operand → Value} {o : Oper} {x y : Operand} {u v z : Value} {w w' : World} (ho : o.op = .build 52 #[(0, x), (1, y)]) (hx : ρ x = u) (hy : ρ y = v) (hr : (Instr.build 52 #[(0, u), (1, v)]).run Tryz.prog w = .ok z w') : (execOp ρ o).run Tryz.prog w = .ok (.value z) w' := by
  simp [execOp, ho, hx, hy, hr]
theorem run_bs_asked (c : CL) (r : Nat) (w : World) : (Instr.buildSlice 45 1 #[(0, .agg (c.cs ++ [Value.int .i64 r]).toArray)]).run Tryz.prog w = .ok (.slice (some ⟨w.heap.size, 0, none⟩) 1 1) (w.alloc (.cells (c.cs ++ [Value.int .i64 r]).toArray 52)) := by kernel_rfl
theorem run_bs_call (c : CL) (w : World) : (Instr.buildSlice 46 1 #[(0, .agg c.cs.toArray)]).run Tryz.prog w = .ok (.slice (some ⟨w.heap.size, 0, none⟩) 1 1) (w.alloc (.cells c.cs.toArray 50)) := by kernel_rfl
def logC (l : List (CL × Nat)) : List Value := (l.map fun p => p.1.cs ++ [Value.int .i64 p.2]).flatten
theorem logC_snoc (l : List (CL × Nat)) (c : CL) (r : Nat) : logC (l ++ [(c, r)]) = logC l ++ (c.cs ++ [Value.int .i64 r]) := by simp [logC]
theorem effC_snoc (l : List CL) (c : CL) : effC (l ++ [c]) = effC l ++ c.cs := by simp [effC]
theorem own_ty {w : World} {base e size n : Nat} {v : Value} {xs : List Value} (h : w.ownsRow base e size v n xs) {b : Nat} (hb : v.ownBlock = some b) : ∃ cs, w.heap[b]? = some (.cells cs e (0, 0)) := by
  rcases h.2 with ⟨rfl, _⟩ | ⟨g, cap, cur, rfl, _, hg, _⟩
  · cases hb
  · cases hb; exact ⟨_, hg⟩
/-- A partner's block, its lists. -/
structure PrtAt (w : World) (Pp b0 : Nat) (lg ef l : Value) (log : List (CL × Nat)) (eff : List CL) (rl : List Int) (at' : Int) : Prop where
  p : w.heap[Pp]? = some (.cells #[lg, ef, l, .int .i64 at'] 48 (0, 0))
  lo : w.ownsRow b0 52 5 lg log.length (logC log)
  eo : w.ownsRow b0 50 4 ef eff.length (effC eff)
  la : w.ownsRow b0 3 1 l rl.length (rl.map fun x => Value.int .i64 x)
/-- The blocks of a partner. -/
def PartF (Pp : Nat) (lg ef l : Value) (b : Nat) : Prop := b = Pp ∨ lg.ownBlock = some b ∨ ef.ownBlock = some b ∨ l.ownBlock = some b
/-- While a partner is asked. -/
structure AkI (w : World) (Pp b0 : Nat) (lg ef l : Value) (log : List (CL × Nat)) (rl : List Int) (at' : Int) (c : CL) (ef' : Value) (eff' : List CL) (W : World) : Prop where
  p : W.heap[Pp]? = some (.cells #[lg, ef', l, .int .i64 at'] 48 (0, 0))
  c : W.heap[w.heap.size]? = some (.cells c.cs.toArray 50 (0, 0))
  lo : W.ownsRow b0 52 5 lg log.length (logC log)
  eo : W.ownsRow b0 50 4 ef' eff'.length (effC eff')
  la : W.ownsRow b0 3 1 l rl.length (rl.map fun x => Value.int .i64 x)
  fr : Fr (PartF Pp lg ef l) w W
  ef : ∀ b, ef'.ownBlock = some b → PartF Pp lg ef l b ∨ w.heap.size ≤ b
/-- What a partner replies; what is done then. -/
def askR (k : Int) (done back : Bool) : Nat := if done then (if k = 3 ∨ k = 4 then 1 else 0) else if k = 3 ∨ (k = 5 ∧ back = true) then 1 else if k = 5 then 2 else if k = 4 then 1 else 0
def askE (k : Int) (done : Bool) (eff : List CL) (c : CL) : List CL := if done = true ∨ k = 3 ∨ k = 5 then eff else eff ++ [c]
/-- Behind it. -/
def AskQ (w : World) (Pp b0 : Nat) (lg ef l : Value) (log : List (CL × Nat)) (rl : List Int) (at' : Int) (c : CL) (r : Nat) (ef' : Value) (eff' : List CL) (W : World) : Prop :=
  ∃ lg', PrtAt W Pp b0 lg' ef' l (log ++ [(c, r)]) eff' rl at' ∧ Fr (PartF Pp lg ef l) w W ∧ (∀ b, lg'.ownBlock = some b → PartF Pp lg ef l b ∨ w.heap.size ≤ b) ∧ ∀ b, ef'.ownBlock = some b → PartF Pp lg ef l b ∨ w.heap.size ≤ b
section
variable {w : World} {Pp b0 : Nat} {lg ef l : Value} {log : List (CL × Nat)} {eff : List CL} {rl : List Int} {at0 : Int}
theorem AkI.frz {at' : Int} {c : CL} {ef' : Value} {eff' : List CL} {W W' : World} (h : AkI w Pp b0 lg ef l log rl at' c ef' eff' W) (hf : Fr (fun _ => False) W W') : AkI w Pp b0 lg ef l log rl at' c ef' eff' W' :=
  ⟨hf.keep h.p (fun h => h), hf.keep h.c (fun h => h), own_fr h.lo hf (fun _ _ _ _ h => h), own_fr h.eo hf (fun _ _ _ _ h => h), own_fr h.la hf (fun _ _ _ _ h => h), h.fr.trans (hf.mono (fun _ _ h => h.elim)) (fun _ _ h => h), h.ef⟩
theorem effC_get (l : List CL) (i : Nat) (c : CL) (h : l[i]? = some c) (j : Nat) (v : Value) (hv : c.cs[j]? = some v) : (effC l)[i * 4 + j]? = some v := by
  induction l generalizing i with
  | nil => simp at h
  | cons a l ih =>
    have hj : j < 4 := (List.getElem?_eq_some_iff.1 hv).1
    have e : effC (a :: l) = a.cs ++ effC l := rfl
    have e4 : a.cs.length = 4 := rfl
    rw [e]
    cases i with
    | zero =>
      obtain rfl : a = c := by simpa using h
      rw [List.getElem?_append_left (by rw [e4]; omega), Nat.zero_mul, Nat.zero_add]
      exact hv
    | succ i =>
      rw [List.getElem?_append_right (by rw [e4]; omega), e4, show (i + 1) * 4 + j - 4 = i * 4 + j by omega]
      exact ih i (by simpa using h)
theorem own_rowsC {W : World} {ao : Option Addr} {n cap : Nat} {eff : List CL} (h : W.ownsRow b0 50 4 (.slice ao n cap) n (effC eff)) : RowsOf W ao 4 (eff.map CL.cs) := by
  intro i r hr
  rw [List.getElem?_map] at hr
  obtain ⟨c, hc, rfl⟩ := Option.map_eq_some_iff.1 hr
  have hi := (List.getElem?_eq_some_iff.1 hc).1
  have hlen := h.1
  rcases h.2 with ⟨hv, hn⟩ | ⟨g, cap', cur, hv, _, hg, _, _, _, hx⟩
  · rw [effC_len, hn] at hlen; omega
  · cases hv
    refine ⟨g, 0, rfl, fun j v hj => ?_⟩
    refine (cell_of_row W g _ _ _ _ hg).trans ?_
    have h1 := effC_get eff i c hc j v hj
    rw [← hx, List.getElem?_take] at h1
    split at h1
    · rw [Nat.zero_add]; simpa using h1
    · cases h1
theorem pDone_of {at' : Int} {c : CL} {W : World} (h : AkI w Pp b0 lg ef l log rl at' c ef eff W) (hn : eff.length ≤ 20000000) : Calls Tryz.prog 77 #[.pointer (some ⟨Pp, 0, none⟩), .agg c.cs.toArray] W fun e w' => e = .returned (.bool (eff.any (·.same c))) ∧ Fr (fun _ => False) W w' := by
  obtain ⟨ao, cap, rfl⟩ : ∃ ao cap, ef = .slice ao eff.length cap := by
    rcases h.eo.2 with ⟨e, hn⟩ | ⟨g, cap, cur, e, _⟩
    · exact ⟨none, 0, by rw [e, hn]⟩
    · exact ⟨_, _, e⟩
  exact pDone_ok c h.p (own_rowsC h.eo) hn
end
end Go.Proofs.YteebjgfalllbjaaGreatDoor
namespace Go.Proofs.YteebjgfalllbjaaGreatDoor
open Go.RowKit
section
variable {w : World} {Pp b0 : Nat}
/-- A partner's blocks, its log, what it did, how many it was asked for. -/
structure PSt where
  log : List (CL × Nat)
  eff : List CL
  at' : Nat
def PrtI (Pp b0 : Nat) (rl : List Int) (s : PSt) (F : Nat → Prop) (w : World) : Prop := b0 ≤ w.heap.size ∧ ∃ lg ef l, PrtAt w Pp b0 lg ef l s.log s.eff rl s.at' ∧ ∀ b, F b ↔ PartF Pp lg ef l b
theorem PrtAt.ty {lg ef l : Value} {log : List (CL × Nat)} {eff : List CL} {rl : List Int} {a : Int} (h : PrtAt w Pp b0 lg ef l log eff rl a) {b : Nat} (hb : PartF Pp lg ef l b) : ∃ c t, w.heap[b]? = some (.cells c t (0, 0)) ∧ PT t := by
  rcases hb with rfl | hb | hb | hb
  · exact ⟨_, _, h.p, .inl rfl⟩
  · obtain ⟨c, hc⟩ := own_ty h.lo hb
    exact ⟨_, _, hc, .inr (.inl rfl)⟩
  · obtain ⟨c, hc⟩ := own_ty h.eo hb
    exact ⟨_, _, hc, .inr (.inr (.inl rfl))⟩
  · obtain ⟨c, hc⟩ := own_ty h.la hb
    exact ⟨_, _, hc, .inr (.inr (.inr rfl))⟩
theorem PrtAt.fr {lg ef l : Value} {log : List (CL × Nat)} {eff : List CL} {rl : List Int} {a : Int} {S : Nat → Prop} {w' : World} (h : PrtAt w Pp b0 lg ef l log eff rl a) (hf : Fr S w w') (hS : ∀ b, PartF Pp lg ef l b → ¬ S b) : PrtAt w' Pp b0 lg ef l log eff rl a :=
  ⟨hf.keep h.p (hS _ (.inl rfl)), own_fr h.lo hf (fun b _ _ hb => hS b (.inr (.inl hb))), own_fr h.eo hf (fun b _ _ hb => hS b (.inr (.inr (.inl hb)))), own_fr h.la hf (fun b _ _ hb => hS b (.inr (.inr (.inr hb))))⟩
/-- The number by which a partner replies. -/
def kOf (rl : List Int) (a : Nat) : Int := if rl = [] then 0 else rl.getD (a % rl.length) 0 % 6
def nOf (rl : List Int) (a : Nat) : Nat := if rl = [] then a else a + 1
def pAsk (rl : List Int) (s : PSt) (c : CL) : Nat × PSt := (askR (kOf rl s.at') (s.eff.any (·.same c)) c.back, ⟨s.log ++ [(c, askR (kOf rl s.at') (s.eff.any (·.same c)) c.back)], askE (kOf rl s.at') (s.eff.any (·.same c)) s.eff c, nOf rl s.at'⟩)
theorem askR_le (k : Int) (d b : Bool) : askR k d b ≤ 2 := by
  unfold askR
  split <;> (split <;> try omega)
  split <;> (try omega)
  split <;> omega
theorem askE_le (k : Int) (d : Bool) (eff : List CL) (c : CL) : (askE k d eff c).length ≤ eff.length + 1 := by
  unfold askE
  split
  · omega
  · simp
/-- What Ask must answer. -/
def AskOk (Pp b0 : Nat) (rl : List Int) : Prop := ∀ (w : World) (lg ef l : Value) (log : List (CL × Nat)) (eff : List CL) (a : Nat) (c : CL), PrtAt w Pp b0 lg ef l log eff rl a → b0 ≤ w.heap.size → log.length ≤ 20000000 → eff.length ≤ 20000000 → a ≤ 20000000 →
  Calls Tryz.prog 47 #[.pointer (some ⟨Pp, 0, none⟩), .agg c.cs.toArray] w fun e w' => e = .returned (.int .i64 (askR (kOf rl a) (eff.any (·.same c)) c.back : Nat)) ∧ ∃ ef', AskQ w Pp b0 lg ef l log rl (nOf rl a : Nat) c (askR (kOf rl a) (eff.any (·.same c)) c.back) ef' (askE (kOf rl a) (eff.any (·.same c)) eff c) w'
def askV (Pp : Nat) : Value := .func (.func 47) #[.pointer (some ⟨Pp, 0, none⟩)] #[]
/-- A partner that is asked by its method Ask. -/
def ptn {Pp b0 : Nat} {rl : List Int} (H : AskOk Pp b0 rl) : Ptn (askV Pp) where
  σ := PSt
  PA := PrtI Pp b0 rl
  sz s := max (max s.log.length s.eff.length) s.at'
  ask := pAsk rl
  fr := by
    rintro S F w w' s ⟨hb, lg, ef, l, h, hF⟩ hf hS
    exact ⟨Nat.le_trans hb hf.size, lg, ef, l, h.fr hf (fun b hb => hS b ((hF b).2 hb)), hF⟩
  ty := by
    rintro F w s b ⟨hb, lg, ef, l, h, hF⟩ hFb
    exact h.ty ((hF b).1 hFb)
  le := fun s c => askR_le _ _ _
  szs := fun s c => by
    have h1 := askE_le (kOf rl s.at') (s.eff.any (·.same c)) s.eff c
    have h2 : nOf rl s.at' ≤ s.at' + 1 := by unfold nOf; split <;> omega
    show max (max (s.log ++ [(c, askR (kOf rl s.at') (s.eff.any (·.same c)) c.back)]).length (askE (kOf rl s.at') (s.eff.any (·.same c)) s.eff c).length) (nOf rl s.at') ≤ max (max s.log.length s.eff.length) s.at' + 1
    rw [List.length_append, List.length_singleton]
    omega
  rep := by
    rintro F w s X J R clock pause c ⟨hb, lg, ef, l, h, hF⟩ hsz he
    have hsz' : max (max s.log.length s.eff.length) s.at' < 20000000 := hsz
    have hFX : ¬ F X := fun hX => by
      obtain ⟨c', t, hc, ht⟩ := h.ty ((hF X).1 hX)
      have := hc.symm.trans he
      simp at this
      rw [this.2] at ht
      revert ht
      unfold PT
      decide
    refine (reply_ask c he (F := F) (Q := fun k W => k = ((pAsk rl s c).1 : Nat) ∧ ∃ F', PrtI Pp b0 rl (pAsk rl s c).2 F' W ∧ ∀ b, F' b → F b ∨ w.heap.size + 2 ≤ b) (fun W hf hs2 => ?_) hFX (fun b hb => ?_) ?_).mono ?_
    · have hW : PrtAt W Pp b0 lg ef l s.log s.eff rl s.at' := h.fr hf (fun _ _ h => h)
      refine (H W lg ef l s.log s.eff s.at' c hW (Nat.le_trans hb hf.size) (by omega) (by omega) (by omega)).mono ?_
      rintro e w' ⟨rfl, ef', lg', hp', hfr, hl1, hl2⟩
      refine ⟨_, rfl, hfr.mono (fun b _ h => (hF b).2 h), rfl, PartF Pp lg' ef' l, ⟨Nat.le_trans (Nat.le_trans hb hf.size) hfr.size, lg', ef', l, hp', fun b => Iff.rfl⟩, ?_⟩
      rintro b (h | h | h | h)
      · exact .inl ((hF b).2 (.inl h))
      · exact (hl1 b h).imp (fun h => (hF b).2 h) (fun h => by omega)
      · exact (hl2 b h).imp (fun h => (hF b).2 h) (fun h => by omega)
      · exact .inl ((hF b).2 (.inr (.inr (.inr h))))
    · obtain ⟨c', t, hc, _⟩ := h.ty ((hF b).1 hb)
      exact lt_of_heap hc
    · rintro k W W' ⟨hk, F', ⟨hb', lg', ef', l', h', hF'⟩, hg⟩ hfW
      refine ⟨hk, F', ⟨Nat.le_trans hb' hfW.size, lg', ef', l', h'.fr hfW (fun b hb e => ?_), hF'⟩, hg⟩
      rcases hg b ((hF' b).2 hb) with h5 | h5
      · obtain ⟨c', t, hc, _⟩ := h.ty ((hF b).1 h5)
        have := lt_of_heap hc
        omega
      · omega
    · rintro e w' ⟨k, rfl, hfr, rfl, F', hP, hg⟩
      exact ⟨rfl, hfr, F', hP, fun b hb => (hg b hb).imp id (fun h => by omega)⟩
end
end Go.Proofs.YteebjgfalllbjaaGreatDoor
