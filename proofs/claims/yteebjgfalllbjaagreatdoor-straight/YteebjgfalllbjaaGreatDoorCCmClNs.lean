import Derived.Test.YteebjgfalllbjaaGreatDoorCFrRfRg
import Derived.Test.YteebjgfalllbjaaGreatDoorProg
import Derived.Lib.UnsafeStr
import Derived.Lib.BufferWrite
import Derived.Laws.MakeOwn
import Derived.WalkSpells
import Derived.Test.YteebjgfalllbjaaGreatDoorCRjLsLk
import Derived.Laws.ResultCell
namespace Go.Proofs.YteebjgfalllbjaaGreatDoor
open Go.RowKit

theorem isNaN_ok (x : Int) (w : World) : Calls Tryz.prog 161 #[.int .i64 x] w fun e w' => e = .returned (.bool false) ∧ w' = w := by
 go_enter Tryz.func161, Tryz.ntmps161
 go_wp2
 go_ret
 exact ⟨rfl, rfl⟩
def cmpI (x y : Int) : Int := if x < y then -1 else if y < x then 1 else 0
theorem Compare_ok (x y : Int) (w : World) : Calls Tryz.prog 146 #[.int .i64 x, .int .i64 y] w fun e w' => e = .returned (.int .i64 (cmpI x y)) ∧ w' = w := by
 have HC : Hid ((x < y → cmpI x y = -1) ∧ (y < x → cmpI x y = 1) ∧ (x = y → cmpI x y = 0)) := by
  unfold Hid cmpI
  refine ⟨fun h => by simp [h], fun h => ?_, fun h => by simp [h]⟩
  rw [if_neg (by omega), if_pos h]
 go_enter Tryz.func146, Tryz.ntmps146
 go_wp2_with fail
 refine (isNaN_ok x w).mono ?_
 rintro e w1 ⟨rfl, rfl⟩
 go_wp2_with fail
 refine (isNaN_ok y _).mono ?_
 rintro e w2 ⟨rfl, rfl⟩
 by_cases h1 : x < y
 ·have h1' : decide (x < y) = true := by simpa using h1
  go_wp2
  go_ret
  exact ⟨by rw [HC.out.1 h1]; rfl, rfl⟩
 ·by_cases h2 : y < x
  ·go_wp2
   go_ret
   exact ⟨by rw [HC.out.2.1 h2]; rfl, rfl⟩
  ·go_wp2
   go_ret
   exact ⟨by rw [HC.out.2.2 (by omega)]; rfl, rfl⟩
theorem place1_ok {w : World} {eb : Nat} {x : Int} (hx : w.cell? ⟨eb, 0, none⟩ = some (.int .i64 x)) (y : Int) : Calls Tryz.prog 145 #[.pointer (some ⟨eb, 0, none⟩), .int .i64 y] w fun e w' => e = .returned (.int .i64 (cmpI x y)) ∧ w' = w := by
 go_enter Tryz.func145, Tryz.ntmps145
 go_wp2_with fail
 refine (Compare_ok x y w).mono ?_
 rintro e w1 ⟨rfl, rfl⟩
 go_wp2
 go_ret
 exact ⟨rfl, rfl⟩
def EntsAt (w : World) (ao : Option Addr) (es : List (Nat × Int)) : Prop := ∀ i p, es[i]? = some p → ∃ g off, ao = some ⟨g, off, none⟩ ∧ w.cell? ⟨g, off + i, none⟩ = some (.pointer (some ⟨p.1, 0, none⟩)) ∧ w.cell? ⟨p.1, 0, none⟩ = some (.int .i64 p.2)
def Placed (es : List (Nat × Int)) (id : Int) (k : Nat) (t : Bool) : Prop := k ≤ es.length ∧ (∀ j p, j < k → es[j]? = some p → p.2 < id) ∧ (∀ p, es[k]? = some p → id ≤ p.2) ∧ (t = true ↔ ∃ p, es[k]? = some p ∧ p.2 = id)
def SearchQ (es : List (Nat × Int)) (id : Int) (w : World) (e : Ending) (w' : World) : Prop := ∃ k t, e = .returned (.tuple #[.int .i64 ((k : Nat) : Int), .bool t]) ∧ Placed es id k t ∧ Fr (fun _ => False) w w'
set_option maxRecDepth 100000 in
set_option maxHeartbeats 4000000 in
theorem Search_ok {w : World} {ao : Option Addr} {cap : Nat} {es : List (Nat × Int)} (he : EntsAt w ao es) (hn : es.length ≤ 100000) (hs : es.Pairwise (fun a b => a.2 < b.2)) (id : Int) :
  Calls Tryz.prog 144 #[.slice ao es.length cap, .int .i64 id, .func (.func 145) #[] #[]] w fun e w' => SearchQ es id w e w' := by
 have HE : Hid (EntsAt w ao es) := he
 have HS : Hid (es.Pairwise (fun a b => a.2 < b.2)) := hs
 clear he hs
 go_enter Tryz.func144, Tryz.ntmps144
 go_wp2
 go_loopw [9, 10] (fun a b wr => ∃ lo hi : Nat, a = .int .i64 lo ∧ b = .int .i64 hi ∧ lo ≤ hi ∧ hi ≤ es.length ∧ Hid (Fr (fun _ => False) w wr) ∧ Hid ((∀ j p, j < lo → es[j]? = some p → p.2 < id) ∧ (∀ j p, hi ≤ j → es[j]? = some p → id ≤ p.2))) (fun a b _ => (intOf b).toNat - (intOf a).toNat)
 case atStart => exact ⟨0, es.length, rfl, rfl, Nat.zero_le _, Nat.le_refl _, Fr.refl _ _, (⟨fun j _ hj => absurd hj (by omega), fun j p hj hp => by have := (List.getElem?_eq_some_iff.1 hp).1; omega⟩ : (∀ j p, j < 0 → es[j]? = some p → p.2 < id) ∧ (∀ j p, es.length ≤ j → es[j]? = some p → id ≤ p.2))⟩
 case round =>
  obtain ⟨lo, hi, rfl, rfl, hlh, hhn, HR, HT⟩ := hrel
  by_cases hlt : lo < hi
  ·have hlt' : (lo : Int) < hi := by omega
   obtain ⟨m, hm⟩ : ∃ m : Nat, m = (lo + hi) / 2 := ⟨_, rfl⟩
   have hmi : ((lo : Int) + hi) / 2 = m := by omega
   have hm1 : lo ≤ m ∧ m < hi := by omega
   have hml : (m : Int) < es.length := by omega
   obtain ⟨p, hp⟩ : ∃ p, es[m]? = some p := ⟨_, List.getElem?_eq_getElem (by omega)⟩
   obtain ⟨g, off, rfl, hc1, hc2⟩ := HE.out m p hp
   have c1 := HR.out.cell hc1 (fun h => h)
   have c2 := HR.out.cell hc2 (fun h => h)
   have HP : Hid (es[m]? = some p) := hp
   clear hc1 hc2 hp hm
   go_wp2_with fail
   refine (place1_ok c2 id).mono ?_
   rintro e w2 ⟨rfl, hw⟩
   rw [hw]
   clear hw
   have HSS : Hid (∀ j q, es[j]? = some q → (j < m → q.2 < p.2) ∧ (m < j → p.2 < q.2)) := fun j q hq => by
    have hpw := List.pairwise_iff_getElem.1 HS.out
    obtain ⟨hj, rfl⟩ := List.getElem?_eq_some_iff.1 hq
    obtain ⟨hm, hpm⟩ := List.getElem?_eq_some_iff.1 HP.out
    rw [← hpm]
    exact ⟨fun h => hpw j m hj hm h, fun h => hpw m j hm hj h⟩
   by_cases hpi : p.2 < id
   ·have ec : cmpI p.2 id = -1 := by simp [cmpI, hpi]
    rw [ec]
    have HN : Hid ((∀ j q, j < m + 1 → es[j]? = some q → q.2 < id) ∧ (∀ j q, hi ≤ j → es[j]? = some q → id ≤ q.2)) := ⟨fun j q hj hq => by
     by_cases e : j = m
     ·subst e; rw [HP.out] at hq; cases hq; exact hpi
     ·have := (HSS.out j q hq).1 (by omega); omega, HT.out.2⟩
    clear HT c1 c2 ec
    go_wp2
    go_roundw
    case rel => exact ⟨m + 1, hi, by go_num, rfl, by omega, hhn, HR, HN⟩
    case measure => simp [intOf]; omega
   ·have ec : 0 ≤ cmpI p.2 id := by unfold cmpI; rw [if_neg hpi]; split <;> omega
    have ec' : ¬ cmpI p.2 id < 0 := by omega
    obtain ⟨cz, hcz⟩ : ∃ cz, cmpI p.2 id = cz := ⟨_, rfl⟩
    rw [hcz] at ec ec' ⊢
    have HN : Hid ((∀ j q, j < lo → es[j]? = some q → q.2 < id) ∧ (∀ j q, m ≤ j → es[j]? = some q → id ≤ q.2)) := ⟨HT.out.1, fun j q hj hq => by
     by_cases e : j = m
     ·subst e; rw [HP.out] at hq; cases hq; omega
     ·have := (HSS.out j q hq).2 (by omega); omega⟩
    clear HT c1 c2 hcz
    go_wp2
    go_roundw
    case rel => exact ⟨lo, m, rfl, rfl, by omega, by omega, HR, HN⟩
    case measure => simp [intOf]; omega
  ·have hlt' : ¬ (lo : Int) < hi := by omega
   obtain rfl : lo = hi := by omega
   by_cases hln : lo < es.length
   ·have hln' : (lo : Int) < es.length := by omega
    obtain ⟨p, hp⟩ : ∃ p, es[lo]? = some p := ⟨_, List.getElem?_eq_getElem hln⟩
    obtain ⟨g, off, rfl, hc1, hc2⟩ := HE.out lo p hp
    have c1 := HR.out.cell hc1 (fun h => h)
    have c2 := HR.out.cell hc2 (fun h => h)
    have HP : Hid (es[lo]? = some p) := hp
    clear hc1 hc2 hp
    go_wp2_with fail
    refine (place1_ok c2 id).mono ?_
    rintro e w2 ⟨rfl, hw⟩
    rw [hw]
    clear hw
    have hge := HT.out.2 lo p (Nat.le_refl _) HP.out
    by_cases hpi : p.2 = id
    ·have ec : cmpI p.2 id = 0 := by simp [cmpI, hpi]
     rw [ec]
     have HQ : Hid (Placed es id lo true) := ⟨hhn, HT.out.1, fun q hq => HT.out.2 _ q (Nat.le_refl _) hq, by simp [HP.out, hpi]⟩
     clear ec c1 c2 HT
     go_wp2
     go_ret2
     exact ⟨lo, true, rfl, HQ.out, HR.out⟩
    ·have ec : cmpI p.2 id = 1 := by unfold cmpI; rw [if_neg (by omega), if_pos (by omega)]
     rw [ec]
     have HQ : Hid (Placed es id lo false) := ⟨hhn, HT.out.1, fun q hq => HT.out.2 _ q (Nat.le_refl _) hq, by simp [HP.out, hpi]⟩
     clear ec c1 c2 HT
     go_wp2
     go_ret2
     exact ⟨lo, false, rfl, HQ.out, HR.out⟩
   ·have hln' : ¬ (lo : Int) < es.length := by omega
    obtain rfl : lo = es.length := by omega
    have HQ : Hid (Placed es id es.length false) := ⟨Nat.le_refl _, HT.out.1, fun p hp => HT.out.2 _ p (Nat.le_refl _) hp, by simp⟩
    go_wp2
    go_ret2
    exact ⟨es.length, false, rfl, HQ.out, HR.out⟩
end Go.Proofs.YteebjgfalllbjaaGreatDoor
namespace Go.Proofs.YteebjgfalllbjaaGreatDoor
open Go.RowKit

theorem byte_info : (Tryz.prog.info? 5).map (fun i => (i.zero, i.size, i.bytes)) = some (some (.int .u8 0), 1, 1) := by kernel_rfl
theorem byte_size : (Tryz.prog.info? 5).map (·.size) = some 1 := by kernel_rfl
theorem byte_cells : Tryz.prog.cellsOf 5 = 1 := by kernel_rfl
set_option maxRecDepth 100000 in
set_option maxHeartbeats 1000000 in
theorem lClone_ok (s : ByteArray) (w : World) (hs : s.size ≤ 1000000) : Calls Tryz.prog 137 #[.string s] w fun e w' => e = .returned (.string s) ∧ Fr (fun _ => False) w w' := by
 by_cases h0 : s.size = 0
 ·obtain rfl : s = ⟨#[]⟩ := ByteArray.ext (Array.eq_empty_of_size_eq_zero h0)
  go_enter Tryz.func137, Tryz.ntmps137
  go_wp2
  go_ret
  exact ⟨rfl, Fr.refl _ _⟩
 ·obtain ⟨inf, hi, hz0, hz1, hz2⟩ := info_parts byte_info
  have hlen : s.data.toList.length = s.size := rfl
  obtain ⟨M, HM⟩ : ∃ M, Hid (M = madeCells (Value.int .u8 0).cells (s.size * inf.size)) := ⟨_, rfl⟩
  obtain ⟨W1, HW1⟩ : ∃ W, Hid (W = w.alloc (.cells M 5)) := ⟨_, rfl⟩
  have hmk : (Instr.makeSlice 85 (.int .i64 s.size) (.int .i64 s.size)).run Tryz.prog w = .ok (.slice (some ⟨w.heap.size, 0, none⟩) s.size s.size) W1 := by
   have h := run_make (P := Tryz.prog) w 85 5 inf (.int .u8 0) Tryz.underlying85 hi hz0 .i64 .i64 s.size s.size (by omega) (by omega) (by rw [hz2]; omega) (by omega)
   rw [HW1.out, HM.out]
   simpa using h
  have hMs : M.size = s.size := by rw [HM.out, size_madeCells, hz1]; omega
  have hr1 : W1.heap[w.heap.size]? = some (.cells M 5 (0, 0)) := by rw [HW1.out]; exact heap_alloc_at _ _
  have hcp := Lib.run_copy_row_string (P := Tryz.prog) W1 85 9 3 5 w.heap.size 0 s.size s.size s M 5 Tryz.underlying85 byte_size hr1 (Nat.le_refl _) (by omega)
  have eY : (M.toList.take 0 ++ Lib.byteCells s.data.toList ++ M.toList.drop (0 + s.size)) = Lib.byteCells s.data.toList := by
   rw [List.take_zero, List.nil_append, List.drop_of_length_le (by rw [Array.length_toList]; omega), List.append_nil]
  rw [eY] at hcp
  obtain ⟨W2, HW2⟩ : ∃ W, Hid (W = W1.setRow w.heap.size (Lib.byteCells s.data.toList).toArray) := ⟨_, rfl⟩
  rw [← HW2.out] at hcp
  have hr2 : W2.heap[w.heap.size]? = some (.cells (Lib.byteCells s.data.toList).toArray 5 (0, 0)) := by rw [HW2.out]; exact setRow_heap _ _ _ _ _ _ hr1
  have hne : s.data.toList ≠ [] := fun e => h0 (by rw [← hlen, e]; rfl)
  have hus := Lib.run_unsafeString_row (P := Tryz.prog) W2 256 3 9 5 Tryz.underlying256 byte_cells w.heap.size s.size (by unfold World.shape?; rw [hr2]; simp [Lib.byteCells_length, hlen]) s.data.toList hne (by omega) (by omega)
   (fun j x hx => by rw [Addr.add_mid, Nat.zero_add, cell_of_row W2 _ _ _ _ _ hr2]; simp [Lib.byteCells, hx])
  rw [hlen] at hus
  have hB : Below w.heap.size w (W2.freeze ⟨w.heap.size, 0, none⟩ s.size) := by
   refine Lib.below_freeze ?_ (p := ⟨w.heap.size, 0, none⟩) (Nat.le_refl _) _
   rw [HW2.out, HW1.out]
   exact ((Below.refl _ w).alloc (Nat.le_refl _) _).trans ⟨rfl, rfl, rfl, by simp, fun k hk => setRow_other _ _ _ _ (by omega)⟩
  have HE : Hid (Fr (fun _ => False) w (W2.freeze ⟨w.heap.size, 0, none⟩ s.size)) := ⟨hB.os, hB.tape, hB.output, hB.size, fun k hk _ => hB.block k hk⟩
  have h0' : ¬ (s.size : Int) = 0 := by omega
  clear hr1 hr2 eY hB HW1 HW2 HM hMs hne
  go_enter Tryz.func137, Tryz.ntmps137
  go_wp2
  go_ret
  exact ⟨rfl, HE.out⟩
theorem Clone_ok (s : ByteArray) (w : World) (hs : s.size ≤ 1000000) : Calls Tryz.prog 89 #[.string s] w fun e w' => e = .returned (.string s) ∧ Fr (fun _ => False) w w' := by
 go_enter Tryz.func89, Tryz.ntmps89
 go_wp2_with fail
 refine (lClone_ok s w hs).mono ?_
 rintro e w' ⟨rfl, hf⟩
 go_wp2
 go_ret
 exact ⟨rfl, hf⟩
end Go.Proofs.YteebjgfalllbjaaGreatDoor
namespace Go.Proofs.YteebjgfalllbjaaGreatDoor
open Go.RowKit

theorem results_row_tmp {P : Program} {fn : Func} {p u : Tmp} {ty : TypeId} (h : fn.results = #[.cell p ty, .tmp u]) (tmps : Array Value) (w : World) (g : Nat) (t : TypeId) (cs : Array Value) (fr : Nat × Nat) (d : TypeDesc)
  (hp : tmps.getD p undef = .pointer (some ⟨g, 0, none⟩)) (hg : w.heap[g]? = some (.cells cs t fr))
  (hu : P.underlying ty = some d) (hd : (match d with | .struct _ | .array _ _ => true | _ => false) = true) (hi : (P.info? ty).map (·.size) = some cs.size) :
  (results fn tmps).run P w = .ok (.tuple #[.agg cs, tmps.getD u undef]) w := by
 rw [results_cell_tmp h, hp]
 simp [asAddr, run_loadVar_row w g t ty cs fr d hg hu hd hi]

def six (st : List SS) : List SS := st ++ List.replicate (6 - st.length) none2
def sagaC (id : Int) (n : Nat) (l : List SS) : List Value := .int .i64 id :: .int .i64 n :: scells l
def noS : List Value := sagaC 0 0 (six [])
def errSaga : Value := .iface 59 (.int .i64 1)
def NsQ (id : Int) (st : List SS) (w : World) (e : Ending) (w' : World) : Prop := ((sagaOk id st = true ∧ e = .returned (.tuple #[.agg (sagaC id st.length (six st)).toArray, .nilIface])) ∨ (sagaOk id st = false ∧ e = .returned (.tuple #[.agg noS.toArray, errSaga]))) ∧ Fr (fun _ => False) w w'
theorem rsaga_size : (Tryz.prog.info? 122).map (·.size) = some 14 := by kernel_rfl
theorem sagaC_len (id : Int) (n : Nat) (l : List SS) (h : l.length = 6) : (sagaC id n l).length = 14 := by simp [sagaC, scells_len, h]
theorem sagaC_one (id : Int) (n : Nat) (l : List SS) : ∀ v ∈ sagaC id n l, v.oneCell' = true := by
 intro v hv
 simp only [sagaC, List.mem_cons] at hv
 rcases hv with rfl | rfl | hv
 ·rfl
 ·rfl
 ·simp only [scells, List.mem_flatten, List.mem_map] at hv
  obtain ⟨x, ⟨p, _, rfl⟩, h⟩ := hv
  exact stv_one p v h
theorem six_len (st : List SS) (h : st.length ≤ 6) : (six st).length = 6 := by simp [six]; omega
set_option maxRecDepth 100000 in
set_option maxHeartbeats 4000000 in
theorem NewSaga_bad {w : World} {ao : Option Addr} {cap : Nat} {st : List SS} (id : Int) (hb : id < 1 ∨ 1000 < id ∨ (st.length : Int) < 1 ∨ (6 : Int) < st.length) :
  Calls Tryz.prog 57 #[.int .i64 id, .slice ao st.length cap] w fun e w' => NsQ id st w e w' := by
 have HE : Hid (sagaOk id st = false) := by simp [Hid, sagaOk]; omega
 have fin : ∀ (tmps : Array Value), tmps.getD 4 undef = .pointer (some ⟨w.heap.size, 0, none⟩) → tmps.getD 5 undef = errSaga → (results Tryz.f57 tmps).run Tryz.prog (w.alloc (.cells noS.toArray 122)) = .ok (.tuple #[.agg noS.toArray, errSaga]) (w.alloc (.cells noS.toArray 122)) := fun tmps h4 h5 => by
  rw [← h5]
  exact results_row_tmp Tryz.results57 tmps _ w.heap.size 122 noS.toArray (0, 0) _ h4 (heap_alloc_at _ _) Tryz.underlying122 rfl (by kernel_rfl)
 have HF : Hid (Fr (fun _ => False) w (w.alloc (.cells noS.toArray 122))) := (Fr.refl _ _).alloc _
 have FIN := fin
 clear fin
 by_cases h1 : id < 1
 ·clear hb
  go_enter Tryz.func57, Tryz.ntmps57
  go_wp2
  refine bodyPost_ret (FIN _ rfl rfl) rfl ⟨.inr ⟨HE.out, rfl⟩, HF.out⟩
 by_cases h2 : 1000 < id
 ·clear hb
  go_enter Tryz.func57, Tryz.ntmps57
  go_wp2
  refine bodyPost_ret (FIN _ rfl rfl) rfl ⟨.inr ⟨HE.out, rfl⟩, HF.out⟩
 by_cases h3 : (st.length : Int) < 1
 ·clear hb
  go_enter Tryz.func57, Tryz.ntmps57
  go_wp2
  refine bodyPost_ret (FIN _ rfl rfl) rfl ⟨.inr ⟨HE.out, rfl⟩, HF.out⟩
 have h4 : (6 : Int) < st.length := by omega
 clear hb
 go_enter Tryz.func57, Tryz.ntmps57
 go_wp2
 refine bodyPost_ret (FIN _ rfl rfl) rfl ⟨.inr ⟨HE.out, rfl⟩, HF.out⟩
end Go.Proofs.YteebjgfalllbjaaGreatDoor
