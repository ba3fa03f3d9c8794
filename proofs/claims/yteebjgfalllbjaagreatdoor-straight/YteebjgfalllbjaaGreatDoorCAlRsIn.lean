import Derived.RangeFuncNested
import Derived.RangeFuncBound
import Derived.RangeFuncCalls
import Derived.RangeFuncLeaves
import Derived.RangeFuncFrom
import Derived.Shelf.Abstract
import Derived.Shelf.RegionOpen
import Derived.WalkKit
import Derived.OwnWalkIn
import Derived.TacticsInMore
import Derived.LoopNIn
import Derived.LoopIn
import Derived.Test.YteebjgfalllbjaaGreatDoorCTaFdOp
import Derived.Test.YteebjgfalllbjaaGreatDoorCNtRoRp
import Derived.Shelf.Spec.SlicesInsert
import Derived.Lib.AppendZerosOnto
namespace Go.Proofs.YteebjgfalllbjaaGreatDoor
open Go.RowKit Go.Shelf

theorem EngAt.c {w : World} {X J R : Nat} {clock pause : Int} {cv : Value} (h : EngAt w X J R clock pause cv) {i : Nat} {v : Value} (hi : #[Value.pointer (some ⟨J, 0, none⟩), .pointer (some ⟨R, 0, none⟩), .bool false, .int .i64 clock, .int .i64 pause, cv][i]? = some v) : w.cell? ⟨X, i, none⟩ = some v := (cell_of_row w X i _ _ _ h).trans hi
end Go.Proofs.YteebjgfalllbjaaGreatDoor
namespace Go.Proofs.YteebjgfalllbjaaGreatDoor
open Go.RowKit
section
variable {w : World} {X J R base : Nat} {clock pause room : Int} {cv ev : Value} {es : List (Nat × AS)}
set_option maxRecDepth 100000 in
set_option maxHeartbeats 1000000 in
theorem eStatus_ok (he : EngAt w X J R clock pause cv) (h : RollAt w R base room ev es) (hs : Sorted es) (hn : es.length ≤ 100000) (h6 : ∀ p ∈ es, p.2.st.length ≤ 6) (id : Int) : Calls Tryz.prog 24 #[.pointer (some ⟨X, 0, none⟩), .int .i64 id] w fun e w' => StatA (es.map (·.2)) id w e w' := by
 have hfa : Fr (fun _ => False) w (w.alloc (.cells zST.cs.toArray 42)) := (Fr.refl _ _).alloc _
 have HC := rollStatus_ok (h.frz hfa) hs hn h6 id
 have he' : EngAt (w.alloc (.cells zST.cs.toArray 42)) X J R clock pause cv := hfa.keep he (fun h => h)
 have c1 : (w.alloc (.cells #[.int .i64 0, .int .i64 0, .int .i64 0, .int .i64 0, .int .i64 0, .int .i64 0] 42)).cell? ⟨X, 1, none⟩ = some (.pointer (some ⟨R, 0, none⟩)) := he'.c (i := 1) rfl
 go_enter Tryz.func24, Tryz.ntmps24
 go_wp2_with fail
 refine HC.mono ?_
 rintro e w2 ⟨hv, hf⟩
 have hF := hfa.trans hf (fun _ _ h => h)
 have hR : w2.heap[w.heap.size]? = some (.cells zST.cs.toArray 42 (0, 0)) := hf.keep (heap_alloc_at _ _) (fun h => h)
 clear hfa hf HC h he he' c1
 have hRa : (w2.alloc (.cells zST.cs.toArray 42)).heap[w2.heap.size]? = some (.cells zST.cs.toArray 42 (0, 0)) := heap_alloc_at _ _
 have hfa2 : Fr (fun _ => False) w2 (w2.alloc (.cells zST.cs.toArray 42)) := (Fr.refl _ _).alloc _
 have hlt : w.heap.size < w2.heap.size := lt_of_heap hR
 have main : ∀ s : ST, ∃ WA WB : World, (Instr.storeAt 42 (.pointer (some ⟨w2.heap.size, 0, none⟩)) (.agg s.cs.toArray)).run Tryz.prog (w2.alloc (.cells zST.cs.toArray 42)) = .ok () WA ∧ WA.rangeAt w2.heap.size 0 s.cs ∧ (Instr.storeAt 42 (.pointer (some ⟨w.heap.size, 0, none⟩)) (.agg s.cs.toArray)).run Tryz.prog WA = .ok () WB ∧ WB.heap[w.heap.size]? = some (.cells s.cs.toArray 42 (0, 0)) ∧ Fr (fun _ => False) w WB := by
  intro s
  have hst := run_store6 (ty := 42) hRa rfl s.len s.one status_size
  have hA := setRow_heap (w2.alloc (.cells zST.cs.toArray 42)) w2.heap.size _ s.cs.toArray 42 (0, 0) hRa
  have hB : ((w2.alloc (.cells zST.cs.toArray 42)).setRow w2.heap.size s.cs.toArray).heap[w.heap.size]? = some (.cells zST.cs.toArray 42 (0, 0)) := by
   rw [setRow_other _ _ _ _ (by omega)]; exact hfa2.keep hR (fun h => h)
  refine ⟨_, _, hst, fun j v hv => (cell_of_row _ _ (0 + j) _ _ _ hA).trans (by simpa using hv), run_store6 (ty := 42) hB rfl s.len s.one status_size, setRow_heap _ _ _ _ _ _ hB, ?_⟩
  exact ((hF.trans hfa2 (fun _ _ h => h)).setRow _ (fun h => by omega) _).setRow _ (fun h => by omega) _
 have mainE : ∀ s : ST, ∃ WA : World, (Instr.storeAt 42 (.pointer (some ⟨w2.heap.size, 0, none⟩)) (.agg s.cs.toArray)).run Tryz.prog (w2.alloc (.cells zST.cs.toArray 42)) = .ok () WA ∧ WA.heap[w.heap.size]? = some (.cells zST.cs.toArray 42 (0, 0)) ∧ Fr (fun _ => False) w WA := by
  intro s
  refine ⟨_, run_store6 (ty := 42) hRa rfl s.len s.one status_size, ?_, (hF.trans hfa2 (fun _ _ h => h)).setRow _ (fun h => by omega) _⟩
  rw [setRow_other _ _ _ _ (by omega)]; exact hfa2.keep hR (fun h => h)
 rcases hv with ⟨p, hp, hid, rfl⟩ | ⟨hno, rfl⟩
 ·obtain ⟨WA, WB, hA, hM, hB, hRE, hFE⟩ := main p.2.told
  clear main mainE hRa hfa2 hF hR
  go_wp2_with (first | (refine wpList_store 42 (w' := WA) _ _ rfl rfl ?_ ?_; exact hA) | (refine wpList_load_mid rfl 42 _ rfl w2.heap.size 0 ?_ _ _ hM Tryz.underlying42 rfl ?_ ?_; rfl; exact status_size) | (refine wpList_store 42 (w' := WB) _ _ rfl rfl ?_ ?_; exact hB))
  refine bodyPost_ret (results_row_tmp Tryz.results24 _ _ w.heap.size 42 _ (0, 0) _ rfl hRE Tryz.underlying42 rfl status_size) rfl ⟨p.2.told, _, rfl, hFE, .inl ⟨p.2, List.mem_map.2 ⟨p, hp, rfl⟩, hid, rfl, .inl ⟨rfl, rfl⟩⟩⟩
 ·have HN : Hid (∀ a ∈ es.map (·.2), a.id ≠ id) := by
   intro a ha
   obtain ⟨p, hp, rfl⟩ := List.mem_map.1 ha
   exact hno p hp
  obtain ⟨WA, hA, hRA, hFA⟩ := mainE zST
  clear main mainE hRa hfa2 hF hR hno
  have hst := run_store6 (ty := 42) (w := WA.alloc (.cells #[.string ⟨#[83, 116, 97, 116, 117, 115]⟩, .iface 59 (.int .i64 9)] 119)) (g := w.heap.size) (cs := zST.cs) (t := 42) (by rw [heap_alloc_lt _ _ _ (lt_of_heap hRA)]; exact hRA) rfl zST.len zST.one status_size
  have hRE := setRow_heap (WA.alloc (.cells #[.string ⟨#[83, 116, 97, 116, 117, 115]⟩, .iface 59 (.int .i64 9)] 119)) w.heap.size _ zST.cs.toArray 42 (0, 0) (by rw [heap_alloc_lt _ _ _ (lt_of_heap hRA)]; exact hRA)
  have hEr : ((WA.alloc (.cells #[.string ⟨#[83, 116, 97, 116, 117, 115]⟩, .iface 59 (.int .i64 9)] 119)).setRow w.heap.size zST.cs.toArray).heap[WA.heap.size]? = some (.cells #[.string ⟨#[83, 116, 97, 116, 117, 115]⟩, .iface 59 (.int .i64 9)] 119 (0, 0)) := by
   rw [setRow_other _ _ _ _ (by have := lt_of_heap hRA; omega)]; exact heap_alloc_at _ _
  have hFE : Fr (fun _ => False) w ((WA.alloc (.cells #[.string ⟨#[83, 116, 97, 116, 117, 115]⟩, .iface 59 (.int .i64 9)] 119)).setRow w.heap.size zST.cs.toArray) := (hFA.alloc _).setRow _ (fun h => by omega) _
  obtain ⟨WE, HWE⟩ : ∃ WE, Hid (WE = (WA.alloc (.cells #[.string ⟨#[83, 116, 97, 116, 117, 115]⟩, .iface 59 (.int .i64 9)] 119)).setRow w.heap.size zST.cs.toArray) := ⟨_, rfl⟩
  rw [← HWE.out] at hst hRE hEr hFE
  clear HWE
  go_wp2_with (first | (refine wpList_store 42 (w' := WA) _ _ rfl rfl ?_ ?_; exact hA))
  refine (wrapped_err _ 9 _).mono ?_
  rintro e w3 ⟨rfl, rfl⟩
  go_wp2_with (first | (refine wpList_store 42 (w' := WE) _ _ rfl rfl ?_ ?_; exact hst))
  refine bodyPost_ret (results_row_tmp Tryz.results24 _ _ w.heap.size 42 _ (0, 0) _ rfl hRE Tryz.underlying42 rfl status_size) rfl ⟨zST, _, rfl, hFE, .inr ⟨HN.out, rfl, .inr ⟨_, _, rfl, hEr, by decide⟩⟩⟩
end
end Go.Proofs.YteebjgfalllbjaaGreatDoor
namespace Go.Proofs.YteebjgfalllbjaaGreatDoor
open Go.RowKit Go.Lib
theorem pentry_info : (Tryz.prog.info? 136).map (fun i => (i.zero, i.size, i.bytes)) = some (some (.pointer none), 1, 8) := by kernel_rfl
theorem own_form1 {w : World} {base n : Nat} {t : TypeId} {v : Value} {xs : List Value} (h : w.ownsRow base t 1 v n xs) : ∃ ao cap, v = .slice ao n cap ∧ n ≤ cap ∧ cap ≤ maxLen := by
 rcases h.2 with ⟨rfl, rfl⟩ | ⟨g, cap, cur, rfl, _, _, h1, h2, _⟩
 ·exact ⟨none, 0, rfl, Nat.le_refl _, by unfold maxLen; omega⟩
 ·exact ⟨_, _, rfl, h1, h2⟩
section
variable {w : World} {base n vb : Nat} {ev p : Value} {xs : List Value}
theorem append_blk (ho : w.ownsRow base 136 1 ev n xs) (hv : w.cell? ⟨vb, 0, none⟩ = some p) (hp : p.oneCell' = true) (hn : n ≤ 100000) (hb : base ≤ w.heap.size) : ∃ v' w', (Builtin.append_ #[174, 174] 174 #[ev, .slice (some ⟨vb, 0, none⟩) 1 1]).run Tryz.prog w = .ok v' w' ∧ w'.ownsRow base 136 1 v' (n + 1) (xs ++ [p]) ∧ w.grownBy w' ev.ownBlock ∧ (∀ b, v'.ownBlock = some b → ev.ownBlock = some b ∨ w.heap.size ≤ b) := by
 obtain ⟨i0, hi, hz0, hz1, hz2⟩ := info_parts pentry_info
 have hnews : ∀ j u, [p][j]? = some u → w.cell? ((⟨vb, 0, none⟩ : Addr).add j) = some u := by
  intro j u hj
  match j, hj with
  | 0, hj => simp at hj; subst hj; exact hv
 have hone : ∀ u ∈ [p], u.oneCell' = true := by simpa using hp
 rcases ho.2 with ⟨rfl, rfl⟩ | ⟨g, cap, cur, rfl, hg0, hg, hc1, hc2, hc3, hc4⟩
 ·have hx : xs = [] := List.length_eq_zero_iff.1 (by have := ho.1; omega)
  subst hx
  obtain ⟨v', w', h1, h2, h3, _⟩ := run_append_own (P := Tryz.prog) w w.heap.size 174 174 136 i0 (.pointer none) 1 8 Tryz.underlying174 hi hz0 hz1 hz2 rfl (by decide) (.slice none 0 0) 0 [] (World.ownsRow_nil _ _ _ _) ⟨vb, 0, none⟩ 1 1 [p] rfl hnews hone (by unfold maxLen; omega) (by omega) (Nat.le_refl _)
  refine ⟨v', w', h1, ⟨h2.1, ?_⟩, h3, fun b hb' => .inr (h2.lt b hb').1⟩
  rcases h2.2 with h | ⟨g, cap, cur, e1, e2, e3⟩
  ·exact .inl h
  ·exact .inr ⟨g, cap, cur, e1, by omega, e3⟩
 ·obtain ⟨v', w', h1, h2, h3, _⟩ := run_append_own (P := Tryz.prog) w base 174 174 136 i0 (.pointer none) 1 8 Tryz.underlying174 hi hz0 hz1 hz2 rfl (by decide) (.slice (some ⟨g, 0, none⟩) n cap) n xs ho ⟨vb, 0, none⟩ 1 1 [p] rfl hnews hone (by unfold maxLen; omega) (by omega) hb
  refine ⟨v', w', h1, h2, h3, ?_⟩
  rcases Nat.lt_or_eq_of_le hc1 with hlt | rfl
  ·have hr := run_append_room (P := Tryz.prog) w 174 174 136 i0 Tryz.underlying174 hi g n cap cur hg ⟨vb, 0, none⟩ 1 1 [p] (by rw [hz1]; rfl) hnews hone (by omega) (by rw [hz1, hc3]; simp; omega)
   have e := h1.symm.trans hr
   injection e with e1 e2
   subst e1
   intro b hb'
   exact .inl hb'
  ·have hold : ∀ j v, xs[j]? = some v → w.cell? ((⟨g, 0, none⟩ : Addr).add j) = some v := ho.cells rfl
   have hr := run_append_grow (P := Tryz.prog) w 174 174 136 i0 (.pointer none) Tryz.underlying174 hi hz0 ⟨g, 0, none⟩ n n xs (by rw [hz1]; exact ho.1) hold ⟨vb, 0, none⟩ 1 1 [p] (by rw [hz1]; rfl) hnews (by omega) (by omega) (by rw [hz2]; exact growslice_fits (by omega) (by omega))
   have e := h1.symm.trans hr
   injection e with e1 e2
   subst e1
   intro b hb'
   cases hb'
   exact .inr (Nat.le_refl _)
set_option maxRecDepth 100000 in
set_option maxHeartbeats 2000000 in
theorem Insert_end (ho : w.ownsRow base 136 1 ev n xs) (hv : w.cell? ⟨vb, 0, none⟩ = some p) (hp : p.oneCell' = true) (hn : n ≤ 100000) (hb : base ≤ w.heap.size) :
  Calls Tryz.prog 100 #[ev, .int .i64 n, .slice (some ⟨vb, 0, none⟩) 1 1] w fun e w' => ∃ v', e = .returned v' ∧ w'.ownsRow base 136 1 v' (n + 1) (xs ++ [p]) ∧ Fr (fun b => ev.ownBlock = some b) w w' ∧ (∀ b, v'.ownBlock = some b → ev.ownBlock = some b ∨ w.heap.size ≤ b) := by
 obtain ⟨v', w1, hrun, hown, hgrow, hblk⟩ := append_blk ho hv hp hn hb
 obtain ⟨ao, cap, rfl, hc1, hc2⟩ := own_form1 ho
 obtain ⟨a2, c2, rfl, _, _⟩ := own_form1 hown
 have hcap : (cap : Int) ≤ 9223372036854775807 := by unfold maxLen at hc2; omega
 have HO : Hid (w1.ownsRow base 136 1 (.slice a2 (n + 1) c2) (n + 1) (xs ++ [p]) ∧ Fr (fun b => (Value.slice ao n cap).ownBlock = some b) w w1 ∧ (∀ b, (Value.slice a2 (n + 1) c2).ownBlock = some b → (Value.slice ao n cap).ownBlock = some b ∨ w.heap.size ≤ b)) := ⟨hown, (Fr.refl _ _).grown hgrow (fun b _ h => h), hblk⟩
 clear ho hv hown hgrow hblk
 by_cases hcn : cap = n
 ·subst hcn
  go_enter Tryz.func100, Tryz.ntmps100
  go_wp2_with (first | (at_builtin; refine Lib.wpList_append_run w rfl _ _ 174 174 rfl _ _ rfl rfl _ _ hrun ?_))
  go_ret
  exact ⟨_, rfl, HO.out.1, HO.out.2.1, HO.out.2.2⟩
 ·go_enter Tryz.func100, Tryz.ntmps100
  go_wp2_with (first | (at_builtin; refine Lib.wpList_append_run w rfl _ _ 174 174 rfl _ _ rfl rfl _ _ hrun ?_))
  go_ret
  exact ⟨_, rfl, HO.out.1, HO.out.2.1, HO.out.2.2⟩
def gr0 (xs : List Value) (i n G : Nat) : List Value := xs.take i ++ List.replicate (n + 1 - i) (.pointer none) ++ List.replicate (G - (n + 1)) (.pointer none)
def gr1 (xs : List Value) (p : Value) (i n G : Nat) : List Value := xs.take i ++ p :: List.replicate (n - i) (.pointer none) ++ List.replicate (G - (n + 1)) (.pointer none)
def gr2 (xs : List Value) (p : Value) (i n G : Nat) : List Value := xs.take i ++ p :: xs.drop i ++ List.replicate (G - (n + 1)) (.pointer none)
theorem gr01 (xs : List Value) (p : Value) (i n G : Nat) (h : xs.length = n) (hi : i < n) : (gr0 xs i n G).take i ++ ([p] ++ (gr0 xs i n G).drop (i + [p].length)) = gr1 xs p i n G := by
 have hl : (xs.take i).length = i := by rw [List.length_take]; omega
 rw [gr0, List.append_assoc, List.take_left' hl, List.drop_append, hl, List.drop_of_length_le (by omega), List.nil_append, List.length_singleton, Nat.add_sub_cancel_left, show n + 1 - i = (n - i) + 1 by omega, List.replicate_succ]
 simp [gr1]
theorem gr12 (xs : List Value) (p : Value) (i n G : Nat) (h : xs.length = n) (hi : i < n) : (gr1 xs p i n G).take (i + 1) ++ (xs.drop i ++ (gr1 xs p i n G).drop (i + 1 + (xs.drop i).length)) = gr2 xs p i n G := by
 have hl : (xs.take i ++ [p]).length = i + 1 := by simp; omega
 have e : gr1 xs p i n G = (xs.take i ++ [p]) ++ (List.replicate (n - i) (.pointer none) ++ List.replicate (G - (n + 1)) (.pointer none)) := by simp [gr1]
 have hd : (xs.drop i).length = n - i := by rw [List.length_drop, h]
 have hr : (List.replicate (n - i) (Value.pointer none)).length = n - i := List.length_replicate
 rw [hd, e, List.take_left' hl, show i + 1 + (n - i) = (xs.take i ++ [p]).length + (n - i) by omega, List.drop_length_add_append, List.drop_left' hr]
 simp [gr2]
theorem gr0_arr (xs : List Value) (i n G : Nat) : (xs.take i).toArray ++ Builtin.zeroCells (Value.pointer none).cells (n + 1 - i) ++ Builtin.zeroCells (Value.pointer none).cells (G - (n + 1)) = (gr0 xs i n G).toArray := by
 have hz : ∀ k, Builtin.zeroCells (Value.pointer none).cells k = (List.replicate k (Value.pointer none)).toArray := fun k => by
  apply Array.ext'
  simp only [Builtin.zeroCells, Value.cells]
  apply List.ext_getElem
  ·simp
  ·intro j h1 h2
   simp [Nat.mod_one]
 rw [hz, hz, gr0]
 simp
theorem own_some {w : World} {base n i : Nat} {t : TypeId} {v : Value} {xs : List Value} (h : w.ownsRow base t 1 v n xs) (hi : i < n) : ∃ g cap cur, v = .slice (some ⟨g, 0, none⟩) n cap ∧ base ≤ g ∧ w.heap[g]? = some (.cells cur t (0, 0)) ∧ n ≤ cap ∧ cap ≤ maxLen ∧ cur.size = cap ∧ cur.toList.take n = xs := by
 rcases h.2 with ⟨rfl, rfl⟩ | ⟨g, cap, cur, hv, h1, h2, h3, h4, h5, h6⟩
 ·omega
 ·exact ⟨g, cap, cur, hv, h1, h2, h3, h4, by simpa using h5, by simpa using h6⟩
theorem pentry_size : (Tryz.prog.info? 136).map (·.size) = some 1 := by kernel_rfl
set_option maxRecDepth 100000 in
set_option maxHeartbeats 2000000 in
theorem Insert_grow {i : Nat} (hi : i < n) (ho : w.ownsRow base 136 1 ev n xs) (hcap : ∃ ao, ev = .slice ao n n) (hv : w.heap[vb]? = some (.cells #[p] 136 (0, 0))) (hp : p.oneCell' = true) (hx : ∀ v ∈ xs, v.oneCell' = true) (hn : n ≤ 100000) (hb : base ≤ w.heap.size) :
  Calls Tryz.prog 100 #[ev, .int .i64 i, .slice (some ⟨vb, 0, none⟩) 1 1] w fun e w' => ∃ v', e = .returned v' ∧ w'.ownsRow base 136 1 v' (n + 1) (xs.take i ++ p :: xs.drop i) ∧ Fr (fun _ => False) w w' ∧ (∀ b, v'.ownBlock = some b → w.heap.size ≤ b) := by
 obtain ⟨g, cap, cur, rfl, hg0, hg, hc1, hc2, hc3, hc4⟩ := own_some ho hi
 obtain rfl : cap = n := by obtain ⟨ao, e⟩ := hcap; cases e; rfl
 obtain ⟨i0, hi0, hz0, hz1, hz2⟩ := info_parts pentry_info
 have hxl : xs.length = cap := by have := ho.1; omega
 have hgl := lt_of_heap hg
 have hvl := lt_of_heap hv
 have hcs : ∀ j v, xs[j]? = some v → w.cell? ⟨g, j, none⟩ = some v := fun j v hj => (cell_of_row w g j _ _ _ hg).trans (by
  rw [← hc4, List.getElem?_take] at hj
  split at hj
  ·simpa using hj
  ·cases hj)
 have hold : (Builtin.firstCells i0.size i (.slice (some ⟨g, 0, none⟩) i cap)).run Tryz.prog w.drew = .ok (xs.take i).toArray w.drew := by
  rw [hz1]
  refine run_firstCells_some w.drew 1 i ⟨g, 0, none⟩ i cap (xs.take i) (by rw [List.length_take]; omega) (fun j v hj => ?_)
  rw [Addr.add_lit, Nat.zero_add]
  rw [List.getElem?_take] at hj
  split at hj
  ·exact hcs j v hj
  ·cases hj
 have hrz : ∀ ty, (Builtin.append_ #[174, 3] ty #[.slice (some ⟨g, 0, none⟩) i cap, .int .i64 ((cap : Int) + 1 - (i : Int))]).run Tryz.prog w = .ok (.slice (some ⟨w.heap.size, 0, none⟩) (cap + 1) (grownCap w (cap + 1) cap 136)) (w.drew.alloc (.cells (gr0 xs i cap (grownCap w (cap + 1) cap 136)).toArray 136)) := fun ty => by
  have hik : i + (cap + 1 - i) = cap + 1 := by omega
  have hh := run_append_grow_zeros (P := Tryz.prog) w 174 3 ty 136 i0 (.pointer none) .i64 .i64 Tryz.underlying174 Tryz.underlying3 hi0 hz0 (some ⟨g, 0, none⟩) i cap (xs.take i) hold (cap + 1 - i) (by omega) (by omega) (by omega) (by omega) (by rw [hz2]; omega) (by rw [hz2, hik]; exact growslice_fits (by omega) (by omega))
  rw [hik, gr0_arr] at hh
  rw [show (cap : Int) + 1 - (i : Int) = ((cap + 1 - i : Nat) : Int) by omega]
  exact hh
 have hGn : cap + 1 ≤ grownCap w (cap + 1) cap 136 := grownCap_ge w _ _ _
 have hGm : grownCap w (cap + 1) cap 136 ≤ maxLen := grownCap_le_maxLen w (cap + 1) cap 136 (by unfold maxLen; omega)
 obtain ⟨G, hG⟩ : ∃ G, G = grownCap w (cap + 1) cap 136 := ⟨_, rfl⟩
 rw [← hG] at hrz hGn hGm
 have hG63 : (G : Int) ≤ 9223372036854775807 := by unfold maxLen at hGm; omega
 have hfA : Fr (fun _ => False) w (w.drew.alloc (.cells (gr0 xs i cap G).toArray 136)) := ((Fr.refl _ _).drew).alloc _
 have hrA : (w.drew.alloc (.cells (gr0 xs i cap G).toArray 136)).heap[w.heap.size]? = some (.cells (gr0 xs i cap G).toArray 136 (0, 0)) := heap_alloc_at w.drew _
 obtain ⟨W1, HW1⟩ : ∃ W1, Hid (W1 = w.drew.alloc (.cells (gr0 xs i cap G).toArray 136)) := ⟨_, rfl⟩
 rw [← HW1.out] at hrz hfA hrA
 clear HW1 hold hc4 hG ho
 have hvA := hfA.keep hv (fun h => h)
 have hgA := hfA.keep hg (fun h => h)
 have hci : ¬ cap = i := by omega
 have hGi : ¬ G = i := by omega
 have hlt' : (i : Int) < cap := by omega
 have hne : ¬ ((i : Int) = cap) := by omega
 have hw1 : IntKind.i64.wrap ((cap : Int) + 1) = (cap : Int) + 1 := by rw [IntKind.wrap_i64]; omega
 have hw2 : IntKind.i64.wrap ((cap : Int) + 1 - i) = (cap : Int) + 1 - i := by rw [IntKind.wrap_i64]; omega
 have hl1 : (gr0 xs i cap G).length = G := by simp [gr0]; omega
 have hsrcV : ∀ j v, [p][j]? = some v → W1.cell? ((⟨vb, 0, none⟩ : Addr).add j) = some v := by
  intro j u hj
  match j, hj with
  | 0, hj => simp at hj; subst hj; exact (cell_of_row W1 vb 0 _ _ _ hvA).trans rfl
 have hdl : (xs.drop i).length = cap - i := by rw [List.length_drop, hxl]
 have hl2 : (gr1 xs p i cap G).length = G := by simp [gr1]; omega
 have hw3 : IntKind.i64.wrap ((i : Int) + 1) = (i : Int) + 1 := by rw [IntKind.wrap_i64]; omega
 have hm1 : [p].length = Nat.min 1 (cap + 1 - i) := by
  show 1 = min 1 (cap + 1 - i)
  omega
 have hfit1 : i + [p].length ≤ (gr0 xs i cap G).toArray.size := by rw [List.size_toArray, hl1, List.length_singleton]; omega
 have hone1 : ∀ v ∈ [p], v.oneCell' = true := by simpa using hp
 have hm2 : (xs.drop i).length = Nat.min (cap - i) (cap - i) := by
  rw [hdl]
  show cap - i = min (cap - i) (cap - i)
  omega
 have hfit2 : i + 1 + (xs.drop i).length ≤ (gr1 xs p i cap G).toArray.size := by rw [List.size_toArray, hl2, hdl]; omega
 go_enter Tryz.func100, Tryz.ntmps100
 go_wp2_with (first
  | (at_builtin; refine Lib.wpList_append_run _ rfl _ _ _ _ rfl _ _ rfl rfl _ _ (hrz _) ?_)
  | (refine wpList_copy_to rfl (.tmp 43) (.tmp 44) 174 174 rfl 136 Tryz.underlying174 pentry_size w.heap.size i (cap + 1 - i) (G - i) ⟨vb, 0, none⟩ 1 1 rfl rfl (gr0 xs i cap G).toArray 136 hrA [p] hm1 hsrcV hfit1 hone1 (gr1 xs p i cap G) (gr01 xs p i cap G hxl hi) ?_; intro w2 HW2))
 have hf2 : Fr (fun _ => False) w w2 := by rw [HW2.out]; exact hfA.setRow _ (fun h => by omega) _
 have hr2 : w2.heap[w.heap.size]? = some (.cells (gr1 xs p i cap G).toArray 136 (0, 0)) := by rw [HW2.out]; exact setRow_heap _ _ _ _ _ _ hrA
 have hb1 : (0 : Int) ≤ (i : Int) + 1 := by omega
 have htn : ((i : Int) + 1).toNat = i + 1 := by omega
 have hGim : ¬ G = i + 1 := by omega
 have hin : i ≤ cap := by omega
 clear HW2 hrz hsrcV hvA hgA hfA hrA
 try simp only [Act.put, lsE, lsZ, lsS]
 refine wp_region_still_tail 8 (by kernel_rfl) (by kernel_rfl) (Bx.out ?_)
 simp only [List.take_succ_cons, List.take_zero, List.drop_succ_cons, List.drop_zero]
 repeat (refine bx_step (fun K hK => ?_); go_simp; refine hK _ ?_; clear hK K)
 refine bx_nil ?_
 obtain ⟨W3, HW3⟩ : ∃ W3, Hid (W3 = w2.drew) := ⟨_, rfl⟩
 have hf3 : Fr (fun _ => False) w W3 := by rw [HW3.out]; exact hf2.drew
 have hr3 : W3.heap[w.heap.size]? = some (.cells (gr1 xs p i cap G).toArray 136 (0, 0)) := by rw [HW3.out]; exact hr2
 change wpList _ _ _ _ _ w2.drew
 rw [← HW3.out]
 clear HW3 hr2 hf2
 have hsrcG : ∀ j v, (xs.drop i)[j]? = some v → W3.cell? ((⟨g, i, none⟩ : Addr).add j) = some v := by
  intro j u hj
  rw [Addr.add_lit]
  rw [List.getElem?_drop] at hj
  exact hf3.cell (hcs (i + j) u hj) (fun h => h)
 go_wp2_with (first
  | (refine wpList_copy_to rfl (.tmp 50) (.tmp 53) 174 174 rfl 136 Tryz.underlying174 pentry_size w.heap.size (i + 1) (cap - i) (G - (i + 1)) ⟨g, i, none⟩ (cap - i) (cap - i) rfl rfl (gr1 xs p i cap G).toArray 136 hr3 (xs.drop i) hm2 hsrcG hfit2 (fun v hv => hx v (List.mem_of_mem_drop hv)) (gr2 xs p i cap G) (gr12 xs p i cap G hxl hi) ?_; intro w4 HW4))
 have hf4 : Fr (fun _ => False) w w4 := by rw [HW4.out]; exact hf3.setRow _ (fun h => by omega) _
 have hr4 : w4.heap[w.heap.size]? = some (.cells (gr2 xs p i cap G).toArray 136 (0, 0)) := by rw [HW4.out]; exact setRow_heap _ _ _ _ _ _ hr3
 clear HW4 hr3 hf3 hsrcG
 go_wp2
 go_ret
 refine ⟨_, rfl, ⟨?_, .inr ⟨w.heap.size, G, _, rfl, hb, hr4, hGn, hGm, ?_, ?_⟩⟩, hf4, fun b hb' => by cases hb'; exact Nat.le_refl _⟩
 ·simp; omega
 ·simp [gr2]; omega
 ·rw [Nat.mul_one, gr2]
  exact List.take_left' (by simp; omega)
end
end Go.Proofs.YteebjgfalllbjaaGreatDoor
