import Derived.Test.YteebjgfalllbjaaGreatDoorCLsLtLk
import Derived.Test.YteebjgfalllbjaaGreatDoorCFrRfRg
import Derived.Test.YteebjgfalllbjaaGreatDoorProg
import Derived.LaidEql
import Derived.Stop.Asserts
import Derived.RowKitTokens
import Derived.WalkSpells
import Derived.WalkLawsBesides
namespace Go.Proofs.YteebjgfalllbjaaGreatDoor
open Go.RowKit

/-- What All gives. -/
def AllQ (sts : List ST) (w : World) (e : Ending) (w' : World) : Prop := ∃ ao cap, e = .returned (.slice ao sts.length cap) ∧ RowsOf w' ao 6 (sts.map ST.cs) ∧ Fr (fun _ => False) w w'
def seven (w : World) (g o : Nat) (id : Int) (sa : Option Addr) (sl sc : Nat) (S1 S2 tr du : Int) (ma : Option Addr) (ml mc : Nat) : Prop :=
  w.cell? ⟨g, o, none⟩ = some (.int .i64 id) ∧ w.cell? ⟨g, o + 1, none⟩ = some (.slice sa sl sc) ∧ w.cell? ⟨g, o + 2, none⟩ = some (.int .i64 S1) ∧ w.cell? ⟨g, o + 3, none⟩ = some (.int .i64 S2) ∧ w.cell? ⟨g, o + 4, none⟩ = some (.int .i64 tr) ∧ w.cell? ⟨g, o + 5, none⟩ = some (.int .i64 du) ∧ w.cell? ⟨g, o + 6, none⟩ = some (.slice ma ml mc)
theorem seven_of {w : World} {g o : Nat} {r : RS} (h : w.rangeAt g o r.cs) : seven w g o r.id r.sa r.st.length r.sc r.S.1 r.S.2 r.tries r.due r.ma r.may.length r.mc :=
  ⟨h 0 _ rfl, h 1 _ rfl, h 2 _ rfl, h 3 _ rfl, h 4 _ rfl, h 5 _ rfl, h 6 _ rfl⟩
theorem range_fr {w w' : World} {g o : Nat} {cs : List Value} (h : w.rangeAt g o cs) (hf : Fr (fun _ => False) w w') : w'.rangeAt g o cs := fun j v hv => hf.cell (h j v hv) (fun h => h)

set_option maxRecDepth 100000 in
set_option maxHeartbeats 4000000 in
theorem listed_ok {w : World} {D A Pp n : Nat} {nn : Bool} {x : Value} {pause clock : Int} {ao : Option Addr} {cap : Nat} {L : List RS} (h : LawAt w D A Pp n nn x pause clock (.slice ao L.length cap)) (hl : RowsOf w ao 7 (L.map RS.cs)) (hn : L.length ≤ 1000000) (hS : ∀ r ∈ L, r.S.1 ≠ 0) (most : Int) (m : Nat) (hm : m ≤ L.length) (hmost : m < L.length → most ≤ m)
    (hA : Calls Tryz.prog 35 #[x, .int .i64 most] w fun e w' => AllQ ((L.take m).map RS.st') w e w') :
    Calls Tryz.prog 87 #[.pointer (some ⟨D, 0, none⟩), .int .i64 most] w fun e w' => e = .returned (.bool true) ∧ Fr (fun _ => False) w w' := by
  have HL : Hid (RowsOf w ao 7 (L.map RS.cs)) := hl
  have HD : Hid (LawAt w D A Pp n nn x pause clock (.slice ao L.length cap)) := h
  have HSN : Hid (∀ r ∈ L, r.S.1 ≠ 0) := hS
  have c5 := h.c5
  have hlm : (L.take m).length = m := by rw [List.length_take]; omega
  clear h hl hS
  go_enter Tryz.func87, Tryz.ntmps87
  go_wp2_with fail
  refine hA.mono ?_
  rintro e w1 ⟨bo, cb, rfl, hb, hf1⟩
  simp only [List.length_map, hlm]
  have HB : Hid (RowsOf w1 bo 6 (((L.take m).map RS.st').map ST.cs)) := hb
  have HF1 : Hid (Fr (fun _ => False) w w1) := hf1
  clear hA c5 hb hf1
  go_wp2
  go_loopw [6, 7] (fun q c wr => ∃ i : Nat, i ≤ L.length ∧ q = .int .i64 (min i m : Nat) ∧ c = .int .i64 i ∧ Hid (Fr (fun _ => False) w1 wr)) (fun _ c _ => L.length - (intOf c).toNat)
  case atStart => exact ⟨0, Nat.zero_le _, by simp, rfl, Fr.refl _ _⟩
  case round =>
    obtain ⟨i, hi, rfl, rfl, HR⟩ := hrel
    have hd := HD.out.fr (HF1.out.trans HR.out (fun _ _ h => h)) (fun h => h)
    have c9 := hd.c9
    have c8 := hd.c8
    have HD2 : Hid (LawAt wr D A Pp n nn x pause clock (.slice ao L.length cap)) := hd
    clear hd
    by_cases hlt : i < L.length
    · have hlt' : (i : Int) < L.length := by omega
      obtain ⟨r, hr⟩ : ∃ r, L[i]? = some r := ⟨_, List.getElem?_eq_getElem hlt⟩
      obtain ⟨g, off, rfl, hrg⟩ := HL.out i r.cs (by simp [hr])
      have hr0 := HSN.out r (List.mem_of_getElem? hr)
      have h7 := seven_of (range_fr (range_fr hrg HF1.out) HR.out)
      obtain ⟨s0, s1, s2, s3, s4, s5, s6⟩ := h7
      clear hrg
      by_cases him : i < m
      · have emin : min i m = i := by omega
        have emin2 : ((min (i + 1) m : Nat) : Int) = (i : Int) + 1 := by omega
        have him' : (i : Int) < m := by omega
        obtain ⟨g2, o2, rfl, hrg2⟩ := HB.out i r.st'.cs (by rw [List.getElem?_map, List.getElem?_map, List.getElem?_take, if_pos him, hr]; rfl)
        have hrg3 := range_fr hrg2 HR.out
        have t0 : wr.cell? ⟨g2, o2 + i * 6, none⟩ = some (.int .i64 r.id) := hrg3 0 _ rfl
        have HRG : Hid (wr.rangeAt g2 (o2 + i * 6) r.st'.cs) := hrg3
        clear hrg2 hrg3 hr
        rw [emin]
        go_wp2_with fail
        obtain ⟨W, HW⟩ : ∃ W, Hid (W = wr.alloc (.cells #[.int .i64 r.id, .slice r.sa r.st.length r.sc, .int .i64 r.S.1, .int .i64 r.S.2, .int .i64 r.tries, .int .i64 r.due, .slice r.ma r.may.length r.mc] 223)) := ⟨_, rfl⟩
        obtain ⟨B, HBB⟩ : ∃ B, Hid (B = wr.heap.size) := ⟨_, rfl⟩
        have hFW : Fr (fun _ => False) wr W := by rw [HW.out]; exact (Fr.refl _ _).alloc _
        have hBW : W.rangeAt B 0 r.cs := by rw [HW.out, HBB.out]; intro j v hv; rw [cell_of_row _ wr.heap.size _ _ _ _ (heap_alloc_at wr _), Nat.zero_add]; simpa [RS.cs] using hv
        rw [← HW.out, ← HBB.out]
        obtain ⟨q0, q1, q2, q3, q4, q5, q6⟩ := seven_of hBW
        have hT := range_fr HRG.out hFW
        have u0 : W.cell? ⟨g2, o2 + i * 6, none⟩ = some (.int .i64 r.id) := hT 0 _ rfl
        have u1 : W.cell? ⟨g2, o2 + i * 6 + 1, none⟩ = some (.int .i64 r.S.1) := hT 1 _ rfl
        have u2 : W.cell? ⟨g2, o2 + i * 6 + 2, none⟩ = some (.int .i64 r.S.2) := hT 2 _ rfl
        have u3 : W.cell? ⟨g2, o2 + i * 6 + 3, none⟩ = some (.int .i64 r.st.length) := hT 3 _ rfl
        have u4' : W.cell? ⟨g2, o2 + i * 6 + 4, none⟩ = some (.int .i64 r.tries) := hT 4 _ rfl
        have u5' : W.cell? ⟨g2, o2 + i * 6 + 5, none⟩ = some (.int .i64 r.due) := hT 5 _ rfl
        have HDW : Hid (LawAt W.drew.drew D A Pp n nn x pause clock (.slice (some ⟨g, off, none⟩) L.length cap) ∧ Fr (fun _ => False) w1 W.drew.drew) := ⟨HD2.out.fr hFW.drew.drew (fun h => h), (HR.out.trans hFW (fun _ _ h => h)).drew.drew⟩
        have HTT : Hid (W.rangeAt g2 (o2 + i * 6) r.st'.cs ∧ W.rangeAt B 0 r.cs) := ⟨hT, hBW⟩
        clear hBW hT hFW HW HBB HRG s0 s1 s2 s3 s4 s5 s6 t0 c8 c9 u1 u2 u3 u4' u5'
        refine wp_region_still_lit (by kernel_rfl) (by kernel_rfl) (Bx.out ?_)
        repeat (refine bx_step (fun K hK => ?_); go_simp; refine hK _ ?_; clear hK K)
        refine bx_nil ?_
        go_wp2_with fail
        obtain ⟨W2, HW2⟩ : ∃ W2, Hid (W2 = W.drew) := ⟨_, rfl⟩
        rw [show ({ heap := W.heap, tape := W.tape, drawn := W.drawn + 1, os := W.os, output := W.output } : World) = W2 from HW2.out.symm]
        have hT2 : W2.rangeAt g2 (o2 + i * 6) r.st'.cs := by rw [HW2.out]; exact HTT.out.1
        have hB2 : W2.rangeAt B 0 r.cs := by rw [HW2.out]; exact HTT.out.2
        have HDW2 := HDW.out
        rw [← HW2.out] at HDW2
        have HDW3 : Hid (LawAt W2.drew D A Pp n nn x pause clock (.slice (some ⟨g, off, none⟩) L.length cap) ∧ Fr (fun _ => False) w1 W2.drew) := HDW2
        clear q0 q1 q2 q3 q4 q5 q6 u0 HDW2 HDW HTT HW2
        obtain ⟨q0, q1, q2, q3, q4, q5, q6⟩ := seven_of hB2
        have u0 : W2.cell? ⟨g2, o2 + i * 6, none⟩ = some (.int .i64 r.id) := hT2 0 _ rfl
        have u1 : W2.cell? ⟨g2, o2 + i * 6 + 1, none⟩ = some (.int .i64 r.S.1) := hT2 1 _ rfl
        have u2 : W2.cell? ⟨g2, o2 + i * 6 + 2, none⟩ = some (.int .i64 r.S.2) := hT2 2 _ rfl
        have u3 : W2.cell? ⟨g2, o2 + i * 6 + 3, none⟩ = some (.int .i64 r.st.length) := hT2 3 _ rfl
        have u4' : W2.cell? ⟨g2, o2 + i * 6 + 4, none⟩ = some (.int .i64 r.tries) := hT2 4 _ rfl
        have u5' : W2.cell? ⟨g2, o2 + i * 6 + 5, none⟩ = some (.int .i64 r.due) := hT2 5 _ rfl
        clear hT2 hB2
        refine wp_region_still_tail 6 (by kernel_rfl) (by kernel_rfl) (Bx.out ?_)
        simp only [List.take_succ_cons, List.take_zero, List.drop_succ_cons, List.drop_zero]
        repeat (refine bx_step (fun K hK => ?_); go_simp; refine hK _ ?_; clear hK K)
        refine bx_nil ?_
        go_wp2_with fail
        refine (lstatus_ok HDW3.out.1 r).mono ?_
        rintro e w3 ⟨rfl, hf3⟩
        have HF3 : Hid (Fr (fun _ => False) w1 w3) := HDW3.out.2.trans hf3 (fun _ _ h => h)
        clear hf3 q0 q1 q2 q3 q4 q5 q6 u0 u1 u2 u3 u4' u5'
        go_wp2
        go_roundw
        case rel => exact ⟨i + 1, by omega, by rw [emin2], by go_num, HF3⟩
        case measure => simp [intOf]; omega
      · have him' : ¬ (i : Int) < m := by omega
        have emin : min i m = m := by omega
        have emin2 : min (i + 1) m = m := by omega
        have hmm := hmost (by omega)
        have hmm' : ¬ (m : Int) < most := by omega
        clear hr
        rw [emin]
        go_wp2_with fail
        obtain ⟨W, HW⟩ : ∃ W, Hid (W = wr.alloc (.cells #[.int .i64 r.id, .slice r.sa r.st.length r.sc, .int .i64 r.S.1, .int .i64 r.S.2, .int .i64 r.tries, .int .i64 r.due, .slice r.ma r.may.length r.mc] 223)) := ⟨_, rfl⟩
        obtain ⟨B, HBB⟩ : ∃ B, Hid (B = wr.heap.size) := ⟨_, rfl⟩
        have hFW : Fr (fun _ => False) wr W := by rw [HW.out]; exact (Fr.refl _ _).alloc _
        have hBW : W.rangeAt B 0 r.cs := by rw [HW.out, HBB.out]; intro j v hv; rw [cell_of_row _ wr.heap.size _ _ _ _ (heap_alloc_at wr _), Nat.zero_add]; simpa [RS.cs] using hv
        rw [← HW.out, ← HBB.out]
        obtain ⟨q0, q1, q2, q3, q4, q5, q6⟩ := seven_of hBW
        have d8 := (HD2.out.fr hFW (fun h => h)).c8
        have HFW : Hid (Fr (fun _ => False) w1 W.drew) := (HR.out.trans hFW (fun _ _ h => h)).drew
        clear hBW hFW HW HBB s0 s1 s2 s3 s4 s5 s6 c8 c9
        refine wp_region_still_lit (by kernel_rfl) (by kernel_rfl) (Bx.out ?_)
        repeat (refine bx_step (fun K hK => ?_); go_simp; refine hK _ ?_; clear hK K)
        refine bx_nil ?_
        go_wp2
        go_roundw
        case rel => exact ⟨i + 1, by omega, by rw [emin2], by go_num, HFW⟩
        case measure => simp [intOf]; omega
    · have hlt' : ¬ (i : Int) < L.length := by omega
      obtain rfl : i = L.length := by omega
      have emin : min L.length m = m := by omega
      rw [emin]
      go_wp2
      go_ret
      exact ⟨rfl, HF1.out.trans HR.out (fun _ _ h => h)⟩
end Go.Proofs.YteebjgfalllbjaaGreatDoor
namespace Go.Proofs.YteebjgfalllbjaaGreatDoor
open Go.RowKit Go.Extern.Stop Go.Stop Go.Extern

theorem rl_valueOfP (t : Addr) (w : World) : (ReflectliteValue.unpack (.iface 99 (.pointer (some t)))).run Tryz.prog w
    = .ok (.agg #[.pointer (some ⟨4, 99, none⟩), .pointer (some ⟨w.heap.size, 0, none⟩), .int .u64 150]) (w.alloc (.cells #[.pointer (some t)] 99)) := by kernel_rfl
theorem rl_typeP (a : Addr) (w : World) : (ReflectliteValue.methodAny (ReflectliteValue.valueError "reflectlite.Value.Type" 0) (fun t _ _ _ => ReflectliteType.toType t) #[.agg #[.pointer (some ⟨4, 99, none⟩), .pointer (some a), .int .u64 150]]).run Tryz.prog w
    = .ok (.iface 198 (.agg #[.pointer (some ⟨4, 99, none⟩)])) w := by kernel_rfl
theorem rl_methodKind (h : Value) (w : World) : (Go.method 410 198 (.agg #[h]) "Kind").run Tryz.prog w = .ok (201, h) w := by kernel_rfl
theorem rl_kindP (w : World) : ((ReflectliteType.abiMethod fun t => (fun a : Nat => Value.int IntKind.u8 (a : Int)) <$> Rtype.kind t) #[.pointer (some ⟨4, 99, none⟩)]).run Tryz.prog w = .ok (.int .u8 22) w := by kernel_rfl
theorem rl_kindE (w : World) : ((ReflectliteType.abiMethod fun t => (fun a : Nat => Value.int IntKind.u8 (a : Int)) <$> Rtype.kind t) #[.pointer (some ⟨4, 59, none⟩)]).run Tryz.prog w = .ok (.int .u8 2) w := by kernel_rfl
theorem rlm (m : Array Value → Type) (v : Value) (h1 : (v : Value) → m #[v]) (h2 : (y : Array Value) → m y) : ReflectliteValue.method.match_2 m #[v] h1 h2 = h1 v := rfl
theorem rl_partsP (a : Addr) (w : World) : (ReflectliteValue.parts (.agg #[.pointer (some ⟨4, 99, none⟩), .pointer (some a), .int .u64 150])).run Tryz.prog w = .ok (some (99, a, 150)) w := by kernel_rfl
theorem rl_isNilP (a p : Addr) (W : World) (ha : W.cell? a = some (.pointer (some p))) :
    (ReflectliteValue.method (ReflectliteValue.valueError "reflectlite.Value.IsNil" 0) ReflectliteValue.isNil #[.agg #[.pointer (some ⟨4, 99, none⟩), .pointer (some a), .int .u64 150]]).run Tryz.prog W = .ok (.bool false) W := by
  delta ReflectliteValue.method
  rw [rlm]
  simp only [Sem.run_bind, rl_partsP, Result.andThen]
  simp [ReflectliteValue.isNil, loadVar, isAgg, underlying, Tryz.underlying99, ha, Result.andThen]
theorem rl_methodElem (h : Value) (w : World) : (Go.method 410 198 (.agg #[h]) "Elem").run Tryz.prog w = .ok (219, .agg #[h]) w := by kernel_rfl
theorem rl_methodImplements (h : Value) (w : World) : (Go.method 410 198 (.agg #[h]) "Implements").run Tryz.prog w = .ok (220, .agg #[h]) w := by kernel_rfl
theorem rl_methodAssignable (h : Value) (w : World) : (Go.method 410 198 (.agg #[h]) "AssignableTo").run Tryz.prog w = .ok (217, .agg #[h]) w := by kernel_rfl
theorem rl_elemP (w : World) : (ReflectliteType.method ReflectliteType.elem #[.agg #[.pointer (some ⟨4, 99, none⟩)]]).run Tryz.prog w = .ok (.iface 198 (.agg #[.pointer (some ⟨4, 59, none⟩)])) w := by kernel_rfl
theorem rl_implementsE (w : World) : (ReflectliteType.relation "Implements" ReflectliteType.implements_ #[.agg #[.pointer (some ⟨4, 59, none⟩)], .iface 198 (.agg #[.pointer (some ⟨4, 36, none⟩)])]).run Tryz.prog w = .ok (.bool true) w := by kernel_rfl
theorem rl_typeOfF (v : Value) (w : World) : (ReflectliteType.typeOf #[.iface 117 v]).run Tryz.prog w = .ok (.iface 198 (.agg #[.pointer (some ⟨4, 117, none⟩)])) w := by kernel_rfl
theorem rl_typeOfE (v : Value) (w : World) : (ReflectliteType.typeOf #[.iface 59 v]).run Tryz.prog w = .ok (.iface 198 (.agg #[.pointer (some ⟨4, 59, none⟩)])) w := by kernel_rfl
theorem rl_assignF (w : World) : (ReflectliteType.relation "AssignableTo" ReflectliteType.assignableTo #[.agg #[.pointer (some ⟨4, 117, none⟩)], .iface 198 (.agg #[.pointer (some ⟨4, 59, none⟩)])]).run Tryz.prog w = .ok (.bool false) w := by kernel_rfl
theorem rl_assignE (w : World) : (ReflectliteType.relation "AssignableTo" ReflectliteType.assignableTo #[.agg #[.pointer (some ⟨4, 59, none⟩)], .iface 198 (.agg #[.pointer (some ⟨4, 59, none⟩)])]).run Tryz.prog w = .ok (.bool true) w := by kernel_rfl
theorem rl_valueOfE (k : Int) (w : World) : (ReflectliteValue.unpack (.iface 59 (.int .i64 k))).run Tryz.prog w
    = .ok (.agg #[.pointer (some ⟨4, 59, none⟩), .pointer (some ⟨w.heap.size, 0, none⟩), .int .u64 130]) (w.alloc (.cells #[.int .i64 k] 59)) := by kernel_rfl
theorem rl_elemOfP (w : World) : (Rtype.elem? 99).run Tryz.prog w = .ok (some 59) w := by kernel_rfl
theorem rl_mkE (p : Addr) (w : World) : (ReflectliteValue.mk 59 p ReflectliteValue.flagAddr).run Tryz.prog w = .ok (.agg #[.pointer (some ⟨4, 59, none⟩), .pointer (some p), .int .u64 386]) w := by kernel_rfl
theorem rl_elemVP (a p : Addr) (W : World) (ha : W.cell? a = some (.pointer (some p))) :
    (ReflectliteValue.method (ReflectliteValue.valueError "reflectlite.Value.Elem" 0) ReflectliteValue.elem #[.agg #[.pointer (some ⟨4, 99, none⟩), .pointer (some a), .int .u64 150]]).run Tryz.prog W
      = .ok (.agg #[.pointer (some ⟨4, 59, none⟩), .pointer (some p), .int .u64 386]) W := by
  delta ReflectliteValue.method
  rw [rlm]
  simp only [Sem.run_bind, rl_partsP, Result.andThen]
  simp [ReflectliteValue.elem, loadVar, isAgg, underlying, Tryz.underlying99, ha, Result.andThen, rl_elemOfP, rl_mkE]
theorem rls (m : Array Value → Type) (v x : Value) (h1 : (v x : Value) → m #[v, x]) (h2 : (y : Array Value) → m y) : ReflectliteValue.set.match_3 m #[v, x] h1 h2 = h1 v x := rfl
theorem rl_partsEa (a : Addr) (w : World) : (ReflectliteValue.parts (.agg #[.pointer (some ⟨4, 59, none⟩), .pointer (some a), .int .u64 386])).run Tryz.prog w = .ok (some (59, a, 386)) w := by kernel_rfl
theorem rl_partsE (a : Addr) (w : World) : (ReflectliteValue.parts (.agg #[.pointer (some ⟨4, 59, none⟩), .pointer (some a), .int .u64 130])).run Tryz.prog w = .ok (some (59, a, 130)) w := by kernel_rfl
theorem rl_direct (w : World) : (Rtype.directlyAssignable 59 59).run Tryz.prog w = .ok true w := by kernel_rfl
theorem rl_setE (ta b : Addr) (k : Int) (old : Value) (W : World) (hb : W.cell? b = some (.int .i64 k)) (ht : W.cell? ta = some old) (hf : W.frozen? ta = false) :
    (ReflectliteValue.set #[.agg #[.pointer (some ⟨4, 59, none⟩), .pointer (some ta), .int .u64 386], .agg #[.pointer (some ⟨4, 59, none⟩), .pointer (some b), .int .u64 130]]).run Tryz.prog W
      = .ok (.tuple #[]) (W.setCell ta (.int .i64 k)) := by
  delta ReflectliteValue.set
  rw [rls]
  simp only [Sem.run_bind, rl_partsEa, rl_partsE, Result.andThen]
  simp [ReflectliteValue.flagAddr, loadVar, isAgg, underlying, Tryz.underlying59, hb, Result.andThen, rl_direct, storeVar, Value.cells, storeCells, Addr.add]
  rw [run_store Tryz.prog W ta _ _ (by rfl)]
  simp [ht, hf]
theorem rl_assertAs (p : Addr) (w : World) : (Instr.typeAssert (.iface 117 (.pointer (some p))) 36 203 true).run Tryz.prog w = .ok (.tuple #[.nilIface, .bool false]) w := run_typeAssert_lacksB Tryz.underlying203 (by kernel_rfl) (by kernel_rfl) _ _ w
theorem rl_assertUnwrap (p : Addr) (w : World) : (Instr.typeAssert (.iface 117 (.pointer (some p))) 36 206 true).run Tryz.prog w = .ok (.tuple #[.iface 117 (.pointer (some p)), .bool true]) w := run_typeAssert_hasB Tryz.underlying206 (by kernel_rfl) _ _ w
theorem rl_methodUnwrap (p : Addr) (w : World) : (Go.method 410 117 (.pointer (some p)) "Unwrap").run Tryz.prog w = .ok (212, .pointer (some p)) w := by kernel_rfl
end Go.Proofs.YteebjgfalllbjaaGreatDoor
namespace Go.Proofs.YteebjgfalllbjaaGreatDoor
open Go.RowKit Go.Extern.Stop Go.Stop Go.Extern

set_option maxRecDepth 100000 in
set_option maxHeartbeats 4000000 in
theorem as_ok (g tb : Nat) (a : Addr) (k : Int) (old : Value) (w : World) (ha : w.cell? a = some (.pointer (some ⟨tb, 0, none⟩))) (hal : a.block < w.heap.size)
    (hg : w.cell? ⟨g, 1, none⟩ = some (.iface 59 (.int .i64 k))) (ht : w.cell? ⟨tb, 0, none⟩ = some old) (hf : w.frozen? ⟨tb, 0, none⟩ = false) :
    Calls Tryz.prog 71 #[.iface 117 (.pointer (some ⟨g, 0, none⟩)), .iface 99 (.pointer (some ⟨tb, 0, none⟩)), .agg #[.pointer (some ⟨4, 99, none⟩), .pointer (some a), .int .u64 150], .iface 198 (.agg #[.pointer (some ⟨4, 59, none⟩)])] w
      fun ev w' => ev = .returned (.bool true) ∧ w'.cell? ⟨tb, 0, none⟩ = some (.int .i64 k) ∧ Fr (· = tb) w w' := by
  have h66 := @run_callFunc_extern Tryz.prog 68 _ (fun args => ReflectliteValue.unpack (args.getD 0 (.tuple #[]))) Tryz.func68 (by kernel_rfl) (by kernel_rfl) (by kernel_rfl) (by kernel_rfl)
  have h83 := @run_callFunc_extern Tryz.prog 106 _ ReflectliteType.typeOf Tryz.func106 (by kernel_rfl) (by kernel_rfl) (by kernel_rfl) (by kernel_rfl)
  have h138 := @run_callFunc_extern Tryz.prog 217 _ (ReflectliteType.relation "AssignableTo" ReflectliteType.assignableTo) Tryz.func217 (by kernel_rfl) (by kernel_rfl) (by kernel_rfl) (by kernel_rfl)
  have h84 := @run_callFunc_extern Tryz.prog 107 _ (ReflectliteValue.method (ReflectliteValue.valueError "reflectlite.Value.Elem" 0) ReflectliteValue.elem) Tryz.func107 (by kernel_rfl) (by kernel_rfl) (by kernel_rfl) (by kernel_rfl)
  have h85 := @run_callFunc_extern Tryz.prog 108 _ ReflectliteValue.set Tryz.func108 (by kernel_rfl) (by kernel_rfl) (by kernel_rfl) (by kernel_rfl)
  have f1 := rl_typeOfF
  have f2 := rl_typeOfE
  have f3 := rl_methodAssignable
  have f4 := rl_assignF
  have f5 := rl_assignE
  have f6 := rl_assertAs
  have f7 := rl_assertUnwrap
  have f8 := rl_methodUnwrap
  have f9 := rl_valueOfE
  have hgl : g < w.heap.size := World.block_lt_of_cell? w _ hg
  have htl : tb < w.heap.size := World.block_lt_of_cell? w _ ht
  have hg1 : (w.alloc (.cells #[.pointer (some ⟨4, 99, none⟩), .pointer (some a), .int .u64 150] 144)).cell? ⟨g, 1, none⟩ = some (.iface 59 (.int .i64 k)) := by rw [World.cell?_alloc_lt _ _ ⟨g, 1, none⟩ hgl]; exact hg
  have el := rl_elemVP a ⟨tb, 0, none⟩ (w.alloc (.cells #[.pointer (some ⟨4, 99, none⟩), .pointer (some a), .int .u64 150] 144)) (by rw [World.cell?_alloc_lt _ _ a hal]; exact ha)
  have st := rl_setE ⟨tb, 0, none⟩ ⟨w.heap.size + 1, 0, none⟩ k old ((w.alloc (.cells #[.pointer (some ⟨4, 99, none⟩), .pointer (some a), .int .u64 150] 144)).alloc (.cells #[.int .i64 k] 59))
    (by rw [World.cell?_alloc_at _ _ _ _ (by simp)]; rfl)
    (by rw [World.cell?_alloc_lt _ _ ⟨tb, 0, none⟩ (by simp; omega), World.cell?_alloc_lt _ _ ⟨tb, 0, none⟩ htl]; exact ht)
    (by rw [World.frozen?_alloc_old _ _ ⟨tb, 0, none⟩ (by simp; omega), World.frozen?_alloc_old _ _ ⟨tb, 0, none⟩ (Nat.ne_of_lt htl)]; exact hf)
  go_enter Tryz.func71, Tryz.ntmps71
  go_wp2
  refine wp_loop_rounds 2 ?_
  rw [rounds_succ]
  go_wp2
  rw [rounds_succ]
  go_wp2
  go_ret
  refine ⟨rfl, ?_, ?_⟩
  · rw [World.cell?_alloc_lt _ _ _ (by simp; omega), World.cell?_alloc_lt _ _ _ (by simp; omega)]
    exact World.cell?_setCell_same _ _ _ ht
  · exact ((Fr.set1 w tb 0 _).alloc _).alloc _

set_option maxRecDepth 100000 in
set_option maxHeartbeats 4000000 in
theorem As_ok (g tb : Nat) (k : Int) (old : Value) (w : World) (hG : w.cell? ⟨0, 0, none⟩ = some (.iface 198 (.agg #[.pointer (some ⟨4, 36, none⟩)])))
    (hg : w.cell? ⟨g, 1, none⟩ = some (.iface 59 (.int .i64 k))) (ht : w.cell? ⟨tb, 0, none⟩ = some old) (hf : w.frozen? ⟨tb, 0, none⟩ = false) :
    Calls Tryz.prog 45 #[.iface 117 (.pointer (some ⟨g, 0, none⟩)), .iface 99 (.pointer (some ⟨tb, 0, none⟩))] w
      fun ev w' => ev = .returned (.bool true) ∧ w'.cell? ⟨tb, 0, none⟩ = some (.int .i64 k) ∧ Fr (· = tb) w w' := by
  have h66 := @run_callFunc_extern Tryz.prog 68 _ (fun args => ReflectliteValue.unpack (args.getD 0 (.tuple #[]))) Tryz.func68 (by kernel_rfl) (by kernel_rfl) (by kernel_rfl) (by kernel_rfl)
  have h67 := @run_callFunc_extern Tryz.prog 69 _ (ReflectliteValue.methodAny (ReflectliteValue.valueError "reflectlite.Value.Type" 0) (fun t _ _ _ => ReflectliteType.toType t)) Tryz.func69 (by kernel_rfl) (by kernel_rfl) (by kernel_rfl) (by kernel_rfl)
  have h68 := @run_callFunc_extern Tryz.prog 70 _ (ReflectliteValue.method (ReflectliteValue.valueError "reflectlite.Value.IsNil" 0) ReflectliteValue.isNil) Tryz.func70 (by kernel_rfl) (by kernel_rfl) (by kernel_rfl) (by kernel_rfl)
  have h122 := @run_callFunc_extern Tryz.prog 201 _ (ReflectliteType.abiMethod fun t => do pure (.int .u8 (← Rtype.kind t))) Tryz.func201 (by kernel_rfl) (by kernel_rfl) (by kernel_rfl) (by kernel_rfl)
  have h140 := @run_callFunc_extern Tryz.prog 219 _ (ReflectliteType.method ReflectliteType.elem) Tryz.func219 (by kernel_rfl) (by kernel_rfl) (by kernel_rfl) (by kernel_rfl)
  have h141 := @run_callFunc_extern Tryz.prog 220 _ (ReflectliteType.relation "Implements" ReflectliteType.implements_) Tryz.func220 (by kernel_rfl) (by kernel_rfl) (by kernel_rfl) (by kernel_rfl)
  have f1 := rl_valueOfP
  have f2 := rl_typeP
  have f3 := rl_methodKind
  have f4 := rl_kindP
  have f5 := rl_kindE
  have f6 := rl_methodElem
  have f7 := rl_methodImplements
  have f8 := rl_elemP
  have f9 := rl_implementsE
  have hgl : g < w.heap.size := World.block_lt_of_cell? w _ hg
  have htl : tb < w.heap.size := World.block_lt_of_cell? w _ ht
  have hGl : 0 < w.heap.size := World.block_lt_of_cell? w _ hG
  have n8 := rl_isNilP ⟨w.heap.size, 0, none⟩ ⟨tb, 0, none⟩ ((w.alloc (.cells #[.pointer (some ⟨tb, 0, none⟩)] 99)).alloc (.cells #[.pointer (some ⟨4, 99, none⟩), .pointer (some ⟨w.heap.size, 0, none⟩), .int .u64 150] 144)) (by simp)
  have hG2 : ((w.alloc (.cells #[.pointer (some ⟨tb, 0, none⟩)] 99)).alloc (.cells #[.pointer (some ⟨4, 99, none⟩), .pointer (some ⟨w.heap.size, 0, none⟩), .int .u64 150] 144)).cell? ⟨0, 0, none⟩ = some (.iface 198 (.agg #[.pointer (some ⟨4, 36, none⟩)])) := by
    rw [World.cell?_alloc_lt _ _ ⟨0, 0, none⟩ (by simp), World.cell?_alloc_lt _ _ ⟨0, 0, none⟩ hGl]; exact hG
  have cc : ∀ (q : Addr) (v : Value), w.cell? q = some v → ((w.alloc (.cells #[.pointer (some ⟨tb, 0, none⟩)] 99)).alloc (.cells #[.pointer (some ⟨4, 99, none⟩), .pointer (some ⟨w.heap.size, 0, none⟩), .int .u64 150] 144)).cell? q = some v := fun q v hq => by
    have hql := World.block_lt_of_cell? w _ hq
    rw [World.cell?_alloc_lt _ _ q (by simp; omega), World.cell?_alloc_lt _ _ q hql]; exact hq
  have HC : Hid (∀ (q : Addr) (v : Value), w.cell? q = some v → ((w.alloc (.cells #[.pointer (some ⟨tb, 0, none⟩)] 99)).alloc (.cells #[.pointer (some ⟨4, 99, none⟩), .pointer (some ⟨w.heap.size, 0, none⟩), .int .u64 150] 144)).cell? q = some v) := cc
  clear cc
  go_enter Tryz.func45, Tryz.ntmps45
  go_wp2_with fail
  refine (as_ok g tb ⟨w.heap.size, 0, none⟩ k old _ ?_ ?_ ?_ ?_ ?_).mono ?_
  · simp
  · simp; omega
  · exact HC.out _ _ hg
  · exact HC.out _ _ ht
  · rw [World.frozen?_alloc_old _ _ ⟨tb, 0, none⟩ (by simp; omega), World.frozen?_alloc_old _ _ ⟨tb, 0, none⟩ (Nat.ne_of_lt htl)]; exact hf
  rintro e w2 ⟨rfl, hc2, hf2⟩
  go_wp2
  go_ret
  exact ⟨rfl, hc2, ((Fr.refl _ _).alloc _ |>.alloc _).trans hf2 (fun _ _ h => h)⟩

theorem Told_nil (w : World) : Calls Tryz.prog 29 #[.nilIface] w fun e w' => e = .returned (.int .i64 0) ∧ w' = w := by
  go_enter Tryz.func29, Tryz.ntmps29
  go_wp2
  go_ret
  exact ⟨rfl, rfl⟩
theorem Told_err (g : Nat) (k : Int) (w : World) (hG : w.cell? ⟨0, 0, none⟩ = some (.iface 198 (.agg #[.pointer (some ⟨4, 36, none⟩)])))
    (hg : w.cell? ⟨g, 1, none⟩ = some (.iface 59 (.int .i64 k))) :
    Calls Tryz.prog 29 #[.iface 117 (.pointer (some ⟨g, 0, none⟩))] w fun e w' => e = .returned (.int .i64 k) ∧ Fr (fun _ => False) w w' := by
  have hgl : g < w.heap.size := World.block_lt_of_cell? w _ hg
  have hGl : 0 < w.heap.size := World.block_lt_of_cell? w _ hG
  go_enter Tryz.func29, Tryz.ntmps29
  go_wp2_with fail
  refine (As_ok g w.heap.size k (.int .i64 0) _ ?_ ?_ ?_ ?_).mono ?_
  · rw [World.cell?_alloc_lt _ _ ⟨0, 0, none⟩ hGl]; exact hG
  · rw [World.cell?_alloc_lt _ _ ⟨g, 1, none⟩ hgl]; exact hg
  · simp
  · simp
  rintro e w2 ⟨rfl, hc2, hf2⟩
  go_wp2
  go_ret
  exact ⟨rfl, ((Fr.refl _ _).alloc _).trans hf2 (fun k hk h => by omega)⟩
end Go.Proofs.YteebjgfalllbjaaGreatDoor
