import Derived.Test.YteebjgfalllbjaaGreatDoorCKpKqKc
import Derived.Test.YteebjgfalllbjaaGreatDoorCNtRoRp
import Derived.Laws.IdiomStrings
import Derived.Laws.AppendOwnNone
import Derived.Test.YteebjgfalllbjaaGreatDoorCZhZiZl
namespace Go.Proofs.YteebjgfalllbjaaGreatDoor
open Go.RowKit
def kstr (a id i : Nat) : ByteArray := ⟨#[UInt8.ofNat a, UInt8.ofNat (97 + id), UInt8.ofNat (49 + i)]⟩
def kst (id n : Nat) : List SS := (List.range n).map fun i => (kstr 100 id i, kstr 117 id i)
theorem kst_len (id n : Nat) : (kst id n).length = n := by simp [kst]
theorem kst_succ (id n : Nat) : kst id (n + 1) = kst id n ++ [(kstr 100 id n, kstr 117 id n)] := by simp [kst, List.range_succ]
theorem kst_8 (id n : Nat) : ∀ p ∈ kst id n, p.1.size = 3 ∧ p.2.size = 3 := by
 intro p hp
 obtain ⟨i, _, rfl⟩ := List.mem_map.1 hp
 exact ⟨rfl, rfl⟩
theorem conv_kstr {W : World} {g : Nat} (a id i : Nat) (ha : a < 256) (hid : 97 + id < 256) (hi : 49 + i < 256) (hg : W.heap[g]? = some (.cells #[.int .u8 a, .int .u8 (97 + id), .int .u8 (49 + i)] 5 (0, 0))) :
  (convert 85 9 (.slice (some ⟨g, 0, none⟩) 3 3)).run Tryz.prog W = .ok (.string (kstr a id i)) W := by
 have h0 : W.cell? ⟨g, 0, none⟩ = some (.int .u8 a) := (cell_of_row W g 0 _ _ _ hg).trans rfl
 have h1 : W.cell? ⟨g, 1, none⟩ = some (.int .u8 (97 + id)) := (cell_of_row W g 1 _ _ _ hg).trans rfl
 have h2 : W.cell? ⟨g, 2, none⟩ = some (.int .u8 (49 + i)) := (cell_of_row W g 2 _ _ _ hg).trans rfl
 have hc := run_convert_bytes_back W 85 9 5 ⟨g, 0, none⟩ 3 [UInt8.ofNat a, UInt8.ofNat (97 + id), UInt8.ofNat (49 + i)] Tryz.underlying85 Tryz.underlying5 Tryz.underlying9 (fun j hj => by
   have hj3 : j < 3 := hj
   have e1 : a % 256 = a := Nat.mod_eq_of_lt ha
   have e2 : (97 + id) % 256 = 97 + id := Nat.mod_eq_of_lt hid
   have e3 : (49 + i) % 256 = 49 + i := Nat.mod_eq_of_lt hi
   match j, hj3 with
   | 0, _ => simpa [Addr.add, e1] using h0
   | 1, _ => simpa [Addr.add, e2] using h1
   | 2, _ => simpa [Addr.add, e3] using h2)
 exact hc
def KsI (w : World) (id i : Nat) (lv : Value) (wr : World) : Prop := Fr (fun _ => False) w wr ∧ wr.ownsRow w.heap.size 58 2 lv i (scells (kst id i))
theorem ks_step {w wr w2 : World} {id i : Nat} {ax : Option Addr} {cx : Nat} {v2 : Value} {o1 o2 : Obj} (h : KsI w id i (.slice ax i cx) wr)
  (hown : w2.ownsRow w.heap.size 58 2 v2 (i + 1) (scells (kst id i) ++ [.string (kstr 100 id i), .string (kstr 117 id i)])) (hg : (((wr.alloc o1).alloc o2).alloc (.cells #[.string (kstr 100 id i), .string (kstr 117 id i)] 58)).grownBy w2 (Value.slice ax i cx).ownBlock) :
  KsI w id (i + 1) v2 w2 ∧ ∃ a2 c2, v2 = .slice a2 (i + 1) c2 := by
 refine ⟨⟨?_, ?_⟩, ?_⟩
 ·refine (((h.1.alloc _).alloc _).alloc _).grown hg (fun k hk hb => ?_)
  have := (h.2.lt k hb).1
  omega
 ·rw [kst_succ, scells_append]
  exact hown
 ·rcases hown.2 with ⟨rfl, h0⟩ | ⟨g, cap, cur, rfl, _⟩
  ·omega
  ·exact ⟨_, _, rfl⟩
set_option maxRecDepth 100000 in
set_option maxHeartbeats 1000000 in
theorem kSteps_ok (w : World) (id n : Nat) (hid : id ≤ 20) (hn : n ≤ 20) : Calls Tryz.prog 22 #[.int .i64 id, .int .i64 n] w fun e w' => ∃ ao cap, e = .returned (.slice ao n cap) ∧ KsI w id n (.slice ao n cap) w' := by
 go_enter Tryz.func22, Tryz.ntmps22
 go_wp2
 go_loopw [5, 6] (fun lv c wr => ∃ (i : Nat) (ax : Option Addr) (cx : Nat), i ≤ n ∧ c = .int .i64 i ∧ lv = .slice ax i cx ∧ Hid (KsI w id i lv wr)) (fun _ c _ => n - (intOf c).toNat)
 case atStart => exact ⟨0, none, 0, Nat.zero_le _, rfl, rfl, Fr.refl _ _, World.ownsRow_nil _ _ _ _⟩
 case round =>
  obtain ⟨i, ax, cx, hi, rfl, rfl, HR⟩ := hrel
  by_cases hlt : i < n
  ·have hlt' : (i : Int) < n := by omega
   have e1 : wrap64 (97 + (id : Int)) = 97 + id := by unfold wrap64; omega
   have e2 : (97 + (id : Int)) % 256 = 97 + id := by omega
   have e3 : wrap64 (49 + (i : Int)) = 49 + i := by unfold wrap64; omega
   have e4 : (49 + (i : Int)) % 256 = 49 + i := by omega
   have hc1 := conv_kstr (W := wr.alloc (.cells #[.int .u8 100, .int .u8 (97 + id), .int .u8 (49 + i)] 5)) (g := wr.heap.size) 100 id i (by decide) (by omega) (by omega) (heap_alloc_at _ _)
   have hc2 := conv_kstr (W := (wr.alloc (.cells #[.int .u8 100, .int .u8 (97 + id), .int .u8 (49 + i)] 5)).alloc (.cells #[.int .u8 117, .int .u8 (97 + id), .int .u8 (49 + i)] 5)) (g := wr.heap.size + 1) 117 id i (by decide) (by omega) (by omega) (by have := heap_alloc_at (wr.alloc (.cells #[.int .u8 100, .int .u8 (97 + id), .int .u8 (49 + i)] 5)) (.cells #[.int .u8 117, .int .u8 (97 + id), .int .u8 (49 + i)] 5); simpa using this)
   have HS : Hid (∀ w2 v2, w2.ownsRow w.heap.size 58 2 v2 (i + 1) (scells (kst id i) ++ [.string (kstr 100 id i), .string (kstr 117 id i)]) → (((wr.alloc (.cells #[.int .u8 100, .int .u8 (97 + id), .int .u8 (49 + i)] 5)).alloc (.cells #[.int .u8 117, .int .u8 (97 + id), .int .u8 (49 + i)] 5)).alloc (.cells #[.string (kstr 100 id i), .string (kstr 117 id i)] 58)).grownBy w2 (Value.slice ax i cx).ownBlock → KsI w id (i + 1) v2 w2 ∧ ∃ a2 c2, v2 = .slice a2 (i + 1) c2) := fun w2 v2 h1 h2 => ks_step HR.out h1 h2
   generalize kstr 100 id i = sa at *
   generalize kstr 117 id i = sb at *
   obtain ⟨inf, hi0, hz0, hz1, hz2⟩ := info_parts astep_info
   obtain ⟨W3, HW3⟩ : ∃ W3, Hid (W3 = ((wr.alloc (.cells #[.int .u8 100, .int .u8 (97 + id), .int .u8 (49 + i)] 5)).alloc (.cells #[.int .u8 117, .int .u8 (97 + id), .int .u8 (49 + i)] 5)).alloc (.cells #[.string sa, .string sb] 58)) := ⟨_, rfl⟩
   have HF : Hid (W3.ownsRow w.heap.size 58 2 (.slice ax i cx) i (scells (kst id i)) ∧ w.heap.size ≤ W3.heap.size ∧ (∀ j u, [Value.string sa, Value.string sb][j]? = some u → W3.cell? ((⟨wr.heap.size + 1 + 1, 0, none⟩ : Addr).add j) = some u)) := by
    refine ⟨by rw [HW3.out]; exact ((HR.out.2.alloc _).alloc _).alloc _, by rw [HW3.out]; have := HR.out.1.size; simp; omega, ?_⟩
    have : W3.heap[wr.heap.size + 1 + 1]? = some (.cells #[.string sa, .string sb] 58 (0, 0)) := ?_
    ·exact World.news_of_block (w := W3) (B := wr.heap.size + 1 + 1) this
    rw [HW3.out]
    have := heap_alloc_at ((wr.alloc (.cells #[.int .u8 100, .int .u8 (97 + id), .int .u8 (49 + i)] 5)).alloc (.cells #[.int .u8 117, .int .u8 (97 + id), .int .u8 (49 + i)] 5)) (.cells #[.string sa, .string sb] 58)
    simpa using this
   go_wp2_with (first | (at_builtin; rw [← HW3.out]; refine wpList_append_own W3 rfl (.tmp 30) (.tmp 34) 38 rfl w.heap.size 58 inf _ 2 32 Tryz.underlying38 hi0 hz0 hz1 hz2 rfl (by decide) (.slice ax i cx) i (scells (kst id i)) rfl HF.out.1 ⟨wr.heap.size + 1 + 1, 0, none⟩ 1 1 [.string sa, .string sb] rfl rfl HF.out.2.2 (by simp [Value.oneCell']) ?_ ?_ HF.out.2.1 ?_; (unfold maxLen; omega); omega; intro v2 w2 hown2 hgrow2 _; rw [HW3.out] at hgrow2; obtain ⟨hPI, a2, cx2, rfl⟩ := HS.out w2 v2 hown2 hgrow2; have HP2 : Hid (KsI w id (i + 1) (.slice a2 (i + 1) cx2) w2) := hPI; clear hown2 hgrow2 hPI))
   go_roundw
   case rel => exact ⟨i + 1, a2, cx2, by omega, by go_num, rfl, HP2⟩
   case measure => simp [intOf]; omega
  ·obtain rfl : i = n := by omega
   go_wp2
   go_ret
   exact ⟨_, _, rfl, HR.out⟩
end Go.Proofs.YteebjgfalllbjaaGreatDoor
namespace Go.Proofs.YteebjgfalllbjaaGreatDoor
open Go.RowKit
def IntsAt (w : World) (la : Option Addr) (zs : List Int) : Prop := ∀ (i : Nat) (z : Int), zs[i]? = some z → ∃ g off, la = some ⟨g, off, none⟩ ∧ w.cell? ⟨g, off + i, none⟩ = some (.int .i64 z)
def intC (zs : List Int) : List Value := zs.map fun x => Value.int .i64 x
def FwI (w : World) (zs : List Int) (i : Nat) (lv : Value) (wr : World) : Prop := Fr (fun _ => False) w wr ∧ wr.ownsRow w.heap.size 3 1 lv i (intC (zs.take i))
theorem fw_step {w wr w2 : World} {zs : List Int} {z : Int} {i : Nat} {ax : Option Addr} {cx : Nat} {v2 : Value} (h : FwI w zs i (.slice ax i cx) wr) (hz : zs[i]? = some z)
  (hown : w2.ownsRow w.heap.size 3 1 v2 (i + 1) (intC (zs.take i) ++ [.int .i64 z])) (hg : (wr.alloc (.cells #[.int .i64 z] 3)).grownBy w2 (Value.slice ax i cx).ownBlock) :
  FwI w zs (i + 1) v2 w2 ∧ ∃ a2 c2, v2 = .slice a2 (i + 1) c2 := by
 refine ⟨⟨?_, ?_⟩, ?_⟩
 ·refine (h.1.alloc _).grown hg (fun k hk hb => ?_)
  have := (h.2.lt k hb).1
  omega
 ·rw [List.take_add_one, hz]
  simpa [intC] using hown
 ·rcases hown.2 with ⟨rfl, h0⟩ | ⟨g, cap, cur, rfl, _⟩
  ·omega
  ·exact ⟨_, _, rfl⟩
set_option maxRecDepth 100000 in
set_option maxHeartbeats 1000000 in
theorem kFew_ok (w : World) {la : Option Addr} {zs : List Int} (cap : Nat) (hl : IntsAt w la zs) (n : Nat) (hn : n ≤ 100) : Calls Tryz.prog 17 #[.slice la zs.length cap, .int .i64 n] w fun e w' => ∃ ao c, e = .returned (.slice ao (min n zs.length) c) ∧ FwI w zs (min n zs.length) (.slice ao (min n zs.length) c) w' := by
 have HL : Hid (IntsAt w la zs) := hl
 obtain ⟨N, hN⟩ : ∃ N, N = zs.length := ⟨_, rfl⟩
 rw [← hN]
 have HN : Hid (N = zs.length) := hN
 clear hl hN
 go_enter Tryz.func17, Tryz.ntmps17
 go_wp2
 go_loopw [5, 6] (fun lv c wr => ∃ (i : Nat) (ax : Option Addr) (cx : Nat), i ≤ n ∧ i ≤ N ∧ c = .int .i64 i ∧ lv = .slice ax i cx ∧ Hid (FwI w zs i lv wr)) (fun _ c _ => n - (intOf c).toNat)
 case atStart => exact ⟨0, none, 0, Nat.zero_le _, Nat.zero_le _, rfl, rfl, Fr.refl _ _, World.ownsRow_nil _ _ _ _⟩
 case round =>
  obtain ⟨i, ax, cx, hi, hiN, rfl, rfl, HR⟩ := hrel
  by_cases hlt : i < N
  ·have hlt' : (i : Int) < N := by omega
   by_cases hlt2 : i < n
   ·have hlt2' : (i : Int) < n := by omega
    obtain ⟨z, hz⟩ : ∃ z, zs[i]? = some z := ⟨_, List.getElem?_eq_getElem (by rw [← HN.out]; exact hlt)⟩
    obtain ⟨g, off, rfl, hc⟩ := HL.out i z hz
    have hc' : wr.cell? ⟨g, off + i, none⟩ = some (.int .i64 z) := HR.out.1.cell hc (fun h => h)
    have HS : Hid (∀ w2 v2, w2.ownsRow w.heap.size 3 1 v2 (i + 1) (intC (zs.take i) ++ [.int .i64 z]) → (wr.alloc (.cells #[.int .i64 z] 3)).grownBy w2 (Value.slice ax i cx).ownBlock → FwI w zs (i + 1) v2 w2 ∧ ∃ a2 c2, v2 = .slice a2 (i + 1) c2) := fun w2 v2 h1 h2 => fw_step HR.out hz h1 h2
    obtain ⟨inf, hi0, hz0, hz1, hz2⟩ := info_parts int_info
    have HF : Hid ((wr.alloc (.cells #[.int .i64 z] 3)).ownsRow w.heap.size 3 1 (.slice ax i cx) i (intC (zs.take i)) ∧ w.heap.size ≤ (wr.alloc (.cells #[.int .i64 z] 3)).heap.size ∧ (∀ j u, [Value.int .i64 z][j]? = some u → (wr.alloc (.cells #[.int .i64 z] 3)).cell? ((⟨wr.heap.size, 0, none⟩ : Addr).add j) = some u)) :=
     ⟨HR.out.2.alloc _, by have := HR.out.1.size; simp; omega, World.news_of_block (w := wr.alloc (.cells #[.int .i64 z] 3)) (B := wr.heap.size) (heap_alloc_at _ _)⟩
    clear hz hc
    go_wp2_with (first | (at_builtin; refine wpList_append_own (wr.alloc (.cells #[.int .i64 z] 3)) rfl (.tmp 18) (.tmp 23) 24 rfl w.heap.size 3 inf _ 1 8 Tryz.underlying24 hi0 hz0 hz1 hz2 rfl (by decide) (.slice ax i cx) i (intC (zs.take i)) rfl HF.out.1 ⟨wr.heap.size, 0, none⟩ 1 1 [.int .i64 z] rfl rfl HF.out.2.2 (by simp [Value.oneCell']) ?_ ?_ HF.out.2.1 ?_; (unfold maxLen; omega); omega; intro v2 w2 hown2 hgrow2 _; obtain ⟨hPI, a2, cx2, rfl⟩ := HS.out w2 v2 hown2 hgrow2; have HP2 : Hid (FwI w zs (i + 1) (.slice a2 (i + 1) cx2) w2) := hPI; clear hown2 hgrow2 hPI))
    go_roundw
    case rel => exact ⟨i + 1, a2, cx2, by omega, by omega, by go_num, rfl, HP2⟩
    case measure => simp [intOf]; omega
   ·obtain rfl : i = n := by omega
    go_wp2
    go_ret
    rw [Nat.min_eq_left (by omega)]
    exact ⟨_, _, rfl, HR.out⟩
  ·obtain rfl : i = N := by omega
   go_wp2
   go_ret
   rw [Nat.min_eq_right (by omega)]
   exact ⟨_, _, rfl, HR.out⟩
end Go.Proofs.YteebjgfalllbjaaGreatDoor
namespace Go.Proofs.YteebjgfalllbjaaGreatDoor
open Go.RowKit
section
variable {w : World} {A B n : Nat} {cache : Value} {d : DP}
theorem Off_gen (h : DkAt w A B n cache d) (h0 : 0 ≤ d.calls) (h1 : d.calls < 1000000000) (k : Int) (hk : 0 ≤ k) (hk1 : k ≤ 1000) :
  Calls Tryz.prog 30 #[.pointer (some ⟨A, 0, none⟩), .int .i64 k] w fun e w' => e = .returned (.tuple #[]) ∧ DkAt w' A B n cache { d with off := d.calls + k } ∧ Fr (· = A) w w' := by
 have c2 : w.cell? ⟨A, 2, none⟩ = some (.int .i64 d.calls) := h.c rfl
 have c5 : w.cell? ⟨A, 5, none⟩ = some (.int .i64 d.off) := h.c rfl
 have f5 := h.fz 5
 have HE : Hid (DkAt (w.setCell ⟨A, 5, none⟩ (.int .i64 (d.calls + k))) A B n cache { d with off := d.calls + k } ∧ Fr (· = A) w (w.setCell ⟨A, 5, none⟩ (.int .i64 (d.calls + k)))) := ⟨h.set5 _, Fr.set1 _ _ _ _⟩
 clear h
 go_enter Tryz.func30, Tryz.ntmps30
 go_wp2
 go_end0
 exact ⟨rfl, HE.out⟩
end
theorem wpList_append_new {P : Program} {w : World} {ops : Array Oper} {rest : List Oper} {o : Oper} {a : Act} {Q : Exit → Act → World → Prop} (hgd : o.guard = none) (s x : Operand) (t : TypeId)
  (ho : o.op = .call { callee := .builtin .append, args := #[s, x], argTypes := #[t, t] })
  (e : TypeId) (i : TypeInfo) (z : Value) (size bytes : Nat) (ht : P.underlying t = some (.slice e)) (hi : P.info? e = some i) (hz : i.zero = some z) (hsize : i.size = size) (hby : i.bytes = bytes)
  (hs : a.eval s = .slice none 0 0) (ad : Addr) (m c : Nat) (news : List Value) (hx : a.eval x = .slice (some ad) m c) (hl : news.length = m * size) (hnews : ∀ j u, news[j]? = some u → w.cell? (ad.add j) = some u)
  (h0 : 0 < m) (h63 : m < 1000000) (h48 : m * bytes ≤ 281474976710656)
  (h : ∀ g cap w', m ≤ cap → Hid (g = w.heap.size) → Hid (w' = w.drew.alloc (.cells (news.toArray ++ Builtin.zeroCells z.cells (cap - m)) e)) → wpList P ops Q rest (a.put o.dst (.slice (some ⟨g, 0, none⟩) m cap)) w') : wpList P ops Q (o :: rest) a w := by
 subst hsize hby
 have hr := run_append_nil (P := P) w t o.type e i z ht hi hz ad m c news hl hnews h0 (by omega) h48
 refine wpList_plain hgd fun K hK => ?_
 unfold Oper.wp execOp
 simp only [ho, resolve, invoke, builtin, Sem.run_bind, Sem.run_pure, Result.andThen_ok, List.map_toArray, List.map_cons, List.map_nil, hs, hx, hr]
 exact hK _ _ (h _ _ _ (grownCap_ge _ _ _ _) rfl rfl)
def bitZ (z : Int) (t : Nat) : Bool := bits BinOp.and IntKind.i64 (z / 2 ^ t) 1 == 1
def cutS (b : List Value) (a : Nat) (dd : List Value) (z : Int) : Nat → List Value
 | 0 => b
 | t + 1 => if bitZ z t = true then splice (cutS b a dd z t) (a * 128 + t * 32) ((dd.drop (t * 32)).take 32) else cutS b a dd z t
theorem cutS_zero (b : List Value) (a : Nat) (dd : List Value) (z : Int) : cutS b a dd z 0 = b := rfl
def cutL (b : List Value) (l : List ((Nat × List Value) × Int)) : List Value := l.foldl (fun b p => cutS b p.1.1 p.1.2 p.2 4) b
theorem zero128 (m : Nat) : (Builtin.zeroCells (Value.agg z128).cells m).toList = List.replicate (m * 128) (.int .u8 0) := by
 have e : (Value.agg z128).cells = z128 := rfl
 rw [e]
 apply List.ext_getElem?
 intro i
 by_cases h : i < m * 128
 ·rw [List.getElem?_replicate, if_pos h, Array.getElem?_toList]
  simp [Builtin.zeroCells, z128_size, h]
  have : i % 128 < 128 := Nat.mod_lt _ (by decide)
  simp [z128, this]
 ·rw [List.getElem?_replicate, if_neg h, List.getElem?_eq_none (by rw [Array.length_toList, size_zeroCells, z128_size]; omega)]
def AfI (w : World) (A' B' n cap' base k : Nat) (cache : Value) (ents : List (Nat × List Value)) (bs : List Value) (wr : World) : Prop :=
 DkAt wr A' B' n (.slice none 0 0) ⟨0, 0, 0, -1, 0, 0, cap'⟩ ∧ RowsAt wr B' cap' bs ∧ EnqAt wr base k n cache ents ∧ Fr (fun _ => False) w wr ∧ w.heap.size ≤ A' ∧ w.heap.size ≤ B'
theorem AfI.frz {w : World} {A' B' n cap' base k : Nat} {cache : Value} {ents : List (Nat × List Value)} {bs : List Value} {wr wr' : World} (h : AfI w A' B' n cap' base k cache ents bs wr) (hf : Fr (fun _ => False) wr wr') : AfI w A' B' n cap' base k cache ents bs wr' :=
 ⟨h.1.fr hf (fun h => h), ⟨hf.keep h.2.1.1 (fun h => h), h.2.1.2⟩, h.2.2.1.fr hf (fun _ _ _ _ h => h), h.2.2.2.1.trans hf (fun _ _ h => h), h.2.2.2.2⟩
theorem cutL_take {b : List Value} {ents : List (Nat × List Value)} {zs : List Int} {j : Nat} {p : Nat × List Value} {z : Int} (hp : ents[j]? = some p) (hz : zs[j]? = some z) : cutL b ((ents.zip zs).take (j + 1)) = cutS (cutL b ((ents.zip zs).take j)) p.1 p.2 z 4 := by
 have h : (ents.zip zs)[j]? = some (p, z) := by simp [List.getElem?_zip_eq_some, hp, hz]
 rw [List.take_add_one, h]
 simp [cutL]
theorem sect_len {dd : List Value} (h : dd.length = 128) {t : Nat} (ht : t < 4) : ((dd.drop (t * 32)).take 32).length = 32 := by rw [List.length_take, List.length_drop]; omega
theorem AfI.sect {w : World} {A' B' n cap' base k a t G : Nat} {cache : Value} {ents : List (Nat × List Value)} {bs dd : List Value} {z : Int} {wr w2 : World} (h : AfI w A' B' n cap' base k cache ents (cutS bs a dd z t) wr) (hG : wr.heap[G]? = some (.cells (Value.int .i64 a :: dd).toArray 101 (0, 0))) (hc : n ≤ cap') (ha : a < n) (hd : dd.length = 128) (hdo : ∀ v ∈ dd, v.oneCell' = true) (ht : t < 4) (hb : bitZ z t = true)
  (hw : w2 = wr.setRow B' (splice (cutS bs a dd z t) (a * 128 + t * 32) ((dd.drop (t * 32)).take 32)).toArray) : AfI w A' B' n cap' base k cache ents (cutS bs a dd z (t + 1)) w2 ∧ w2.heap[G]? = some (.cells (Value.int .i64 a :: dd).toArray 101 (0, 0)) := by
 obtain ⟨h1, h2, h3, h4, h5, h6⟩ := h
 have e : cutS bs a dd z (t + 1) = splice (cutS bs a dd z t) (a * 128 + t * 32) ((dd.drop (t * 32)).take 32) := by rw [cutS, if_pos hb]
 have hsl := sect_len hd ht
 have hAB : A' ≠ B' := fun e => by have := h1; rw [e] at this; have := this.symm.trans h2.1; simp at this
 have hGB : G ≠ B' := fun e => by rw [e] at hG; have := hG.symm.trans h2.1; simp at this
 have hf : Fr (fun b => b = B') wr w2 := by rw [hw]; exact Fr.setRow (S := fun b => b = B') (Fr.refl _ _) _ (fun _ => rfl) _
 refine ⟨⟨h1.fr hf hAB, ?_, h3.fr hf (fun b c hb _ e => by rw [e, h2.1] at hb; simp at hb), h4.trans hf (fun b hb e => by omega), h5, h6⟩, hf.keep hG hGB⟩
 rw [e]
 refine ⟨by rw [hw]; exact setRow_heap _ _ _ _ _ _ h2.1, ?_, fun v hv => ?_⟩
 ·rw [splice_len (by rw [hsl, h2.2.1]; have : a + 1 ≤ cap' := (by omega); omega), h2.2.1]
 ·rcases mem_splice hv with hv | hv
  ·exact h2.2.2 v hv
  ·exact hdo v (List.mem_of_mem_drop (List.mem_of_mem_take hv))
def AftQ (w : World) (n : Nat) (s : DS) (zs : List Int) (e : Ending) (w' : World) : Prop :=
 ∃ A' B' cap', e = .returned (.pointer (some ⟨A', 0, none⟩)) ∧ DSAt w' A' B' n w.heap.size (.slice none 0 0) ⟨⟨0, 0, 0, -1, 0, 0, cap'⟩, [], cutL (s.bs.take (n * 128) ++ List.replicate ((cap' - n) * 128) (Value.int .u8 0)) (s.ents.zip zs)⟩ ∧ w.heap.size ≤ A' ∧ w.heap.size ≤ B' ∧ Fr (fun _ => False) w w'
theorem AfI.post {w : World} {A' B' n cap' base k : Nat} {cache : Value} {s : DS} {zs : List Int} {bs : List Value} {wr : World} (h : AfI w A' B' n cap' base k cache s.ents bs wr) (hc : n ≤ cap') (hb : bs = cutL (s.bs.take (n * 128) ++ List.replicate ((cap' - n) * 128) (Value.int .u8 0)) (s.ents.zip zs)) : AftQ w n s zs (.returned (.pointer (some ⟨A', 0, none⟩))) wr := by
 subst hb
 exact ⟨A', B', cap', rfl, ⟨h.1, h.2.1, ⟨World.ownsRow_nil _ _ _ _, by show (0 : Nat) < _; omega, (fun p hp => absurd hp (by simp)), (fun p hp => absurd hp (by simp)), (fun p hp => absurd hp (by simp))⟩, h.2.2.2.1.size, hc⟩, h.2.2.2.2.1, h.2.2.2.2.2, h.2.2.2.1⟩
theorem cut32 (B o t : Nat) (h : t < 4) (w : World) : (Instr.sliceAt 97 (.pointer (some ⟨B, o, none⟩)) (some (.int .i64 ((t : Int) * 32))) (some (.int .i64 (((t : Int) + 1) * 32))) none).run Tryz.prog w = .ok (.slice (some ⟨B, o + t * 32, none⟩) 32 (128 - t * 32)) w := by
 have ha : Tryz.prog.arrayLen 97 = 128 := by kernel_rfl
 have hz : (sizeOf (Tryz.prog.elem 97)).run Tryz.prog w = .ok 1 w := by kernel_rfl
 rw [run_sliceAt_array_lh w 97 ⟨B, o, none⟩ (by kernel_rfl) .i64 .i64 _ _ (by omega) (by omega) (by rw [ha]; omega), hz, ha]
 have e1 : (((t : Int) + 1) * 32).toNat = t * 32 + 32 := by omega
 have e2 : ((t : Int) * 32).toNat = t * 32 := by omega
 have e3 : ¬ 128 = t * 32 := by omega
 simp only [Result.andThen_ok, slicedAt, e1, e2, if_neg e3, Nat.add_sub_cancel_left, Nat.mul_one, Addr.add_mid]
set_option maxRecDepth 100000 in
set_option maxHeartbeats 1000000 in
theorem After_ok {w : World} {A B n base : Nat} {cache : Value} {s : DS} (h : DSAt w A B n base cache s) (hn : 0 < n) (hn4 : n ≤ 400) {la : Option Addr} {zs : List Int} {kc : Nat} (hl : IntsAt w la zs) (hz : zs.length < 1000) :
  Calls Tryz.prog 32 #[.pointer (some ⟨A, 0, none⟩), .slice la zs.length kc] w fun e w' => AftQ w n s zs e w' := by
 obtain ⟨i0, hi, hz0, hz1, hz2⟩ := info_parts arr_info
 obtain ⟨k, HK⟩ : ∃ k, Hid (k = s.ents.length) := ⟨_, rfl⟩
 obtain ⟨N, HN⟩ : ∃ N, Hid (N = zs.length) := ⟨_, rfl⟩
 obtain ⟨ao, cc, hcv⟩ : ∃ ao cc, cache = .slice ao k cc := by
  rw [HK.out]
  rcases h.q.o.2 with ⟨rfl, h0⟩ | ⟨g, cap, cur, rfl, _⟩
  ·exact ⟨none, 0, by rw [h0]⟩
  ·exact ⟨_, _, rfl⟩
 subst hcv
 have hk6 : k < 1000000 := by rw [HK.out]; exact h.q.k
 have hN : N < 1000 := by rw [HN.out]; exact hz
 have c0 := h.d.c0
 have c1 := h.d.c1
 have hcw := h.c
 have hnl : (s.bs.take (n * 128)).length = n * 128 := by rw [List.length_take, h.r.2.1]; omega
 have hsrc : ∀ j u, (s.bs.take (n * 128))[j]? = some u → w.cell? ((⟨B, 0, none⟩ : Addr).add j) = some u := by
  have := src_of_row h.r.1 0 (n * 128)
  simpa using this
 have HL : Hid (IntsAt w la zs) := hl
 have hAl := h.d.lt
 have HS : Hid (∀ B' cap' w1, n ≤ cap' → B' = w.heap.size → w1 = w.drew.alloc (.cells ((s.bs.take (n * 128)).toArray ++ Builtin.zeroCells (Value.agg z128).cells (cap' - n)) 97) →
   AfI w w1.heap.size B' n cap' base k (.slice ao k cc) s.ents (cutL (s.bs.take (n * 128) ++ List.replicate ((cap' - n) * 128) (Value.int .u8 0)) ((s.ents.zip zs).take 0)) (w1.alloc (.cells #[.slice (some ⟨B', 0, none⟩) n cap', .slice none 0 0, .int .i64 0, .int .i64 0, .int .i64 0, .int .i64 (-1), .int .i64 0, .int .i64 0] 96))) := by
  intro B' cap' w1 hcap hB' hw1
  have hfw : Fr (fun _ => False) w w1 := by rw [hw1]; exact (Fr.refl _ _).drew.alloc _
  have hB : w1.heap[B']? = some (.cells (s.bs.take (n * 128) ++ List.replicate ((cap' - n) * 128) (Value.int .u8 0)).toArray 97 (0, 0)) := by
   rw [hw1, hB']
   refine (heap_alloc_at _ _).trans ?_
   congr 2
   apply Array.ext'
   rw [Array.toList_append, zero128]
  have hf2 : Fr (fun _ => False) w1 (w1.alloc (.cells #[.slice (some ⟨B', 0, none⟩) n cap', .slice none 0 0, .int .i64 0, .int .i64 0, .int .i64 0, .int .i64 (-1), .int .i64 0, .int .i64 0] 96)) := (Fr.refl _ _).alloc _
  have hq : EnqAt w base k n (.slice ao k cc) s.ents := by rw [HK.out]; have := h.q; rw [HK.out] at this; exact this
  refine ⟨heap_alloc_at _ _, ⟨hf2.keep hB (fun h => h), ?_, fun v hv => ?_⟩, hq.fr (hfw.trans hf2 (fun _ _ h => h)) (fun _ _ _ _ h => h), hfw.trans hf2 (fun _ _ h => h), hfw.size, by omega⟩
  ·show (s.bs.take (n * 128) ++ List.replicate ((cap' - n) * 128) (Value.int .u8 0)).length = _
   rw [List.length_append, hnl, List.length_replicate]; omega
  ·have hv : v ∈ s.bs.take (n * 128) ++ List.replicate ((cap' - n) * 128) (Value.int .u8 0) := hv
   rcases List.mem_append.1 hv with hv | hv
   ·exact h.r.2.2 v (List.mem_of_mem_take hv)
   ·rw [(List.mem_replicate.1 hv).2]; rfl
 have hgo : ∀ g, ao = some g → g = ⟨g.block, 0, none⟩ := fun g hg => by
  rcases h.q.o.2 with ⟨hv, _⟩ | ⟨g', cap, cur, hv, _⟩
  ·subst hg; cases hv
  ·subst hg; cases hv; rfl
 have hao : 0 < k → ∃ g, ao = some ⟨g, 0, none⟩ := fun hk => by
  have hq := h.q.o
  obtain ⟨g, cap, hv, _⟩ := hq.form (by rw [← HK.out]; exact hk)
  cases hv; exact ⟨g, rfl⟩
 have HQ : Hid (∀ p ∈ s.ents, p.2.length = 128 ∧ (∀ v ∈ p.2, v.oneCell' = true) ∧ p.1 < n) := fun p hp => ⟨h.q.l p hp, h.q.one p hp, h.q.n p hp⟩
 rw [← HN.out]
 go_enter Tryz.func32, Tryz.ntmps32
 go_wp2_with (first | (at_builtin; refine wpList_append_new rfl (.const (.slice none 0 0)) (.tmp 12) 93 rfl 97 i0 (.agg z128) 128 128 Tryz.underlying93 hi hz0 hz1 hz2 rfl ⟨B, 0, none⟩ n s.d.cap (s.bs.take (n * 128)) rfl hnl hsrc hn ?_ ?_ ?_; omega; omega; intro B' cap' w1 hcap HB' HW1; have HA := HS.out B' cap' w1 hcap HB'.out HW1.out; have c11 : (w1.alloc (.cells #[.slice (some ⟨B', 0, none⟩) n cap', .slice none 0 0, .int .i64 0, .int .i64 0, .int .i64 0, .int .i64 (-1), .int .i64 0, .int .i64 0] 96)).cell? ⟨A, 1, none⟩ = some (.slice ao k cc) := HA.2.2.2.1.cell c1 (fun h => h)))
 generalize w1.alloc (.cells #[.slice (some ⟨B', 0, none⟩) n cap', .slice none 0 0, .int .i64 0, .int .i64 0, .int .i64 0, .int .i64 (-1), .int .i64 0, .int .i64 0] 96) = w2 at *
 generalize w1.heap.size = A' at *
 have HI : Hid (AfI w A' B' n cap' base k (.slice ao k cc) s.ents (cutL (s.bs.take (n * 128) ++ List.replicate ((cap' - n) * 128) (Value.int .u8 0)) ((s.ents.zip zs).take 0)) w2) := HA
 clear HA HW1 HB' HS hsrc hnl c0 c1 c11 h hl hgo
 obtain ⟨bs0, HB0⟩ : ∃ bs0, Hid (bs0 = s.bs.take (n * 128) ++ List.replicate ((cap' - n) * 128) (Value.int .u8 0)) := ⟨_, rfl⟩
 rw [← HB0.out] at HI
 go_loopw [21] (fun c wr => ∃ j : Nat, j ≤ k ∧ j ≤ N ∧ c = .int .i64 j ∧ Hid (AfI w A' B' n cap' base k (.slice ao k cc) s.ents (cutL bs0 ((s.ents.zip zs).take j)) wr)) (fun c _ => k - (intOf c).toNat)
 case atStart => exact ⟨0, Nat.zero_le _, Nat.zero_le _, rfl, HI⟩
 case round =>
  obtain ⟨j, hjk, hjz, rfl, HR⟩ := hrel
  by_cases hlt : j < k
  ·have hlt' : (j : Int) < k := by omega
   obtain ⟨g, rfl⟩ := hao (by omega)
   obtain ⟨p, hp⟩ : ∃ p, s.ents[j]? = some p := ⟨_, List.getElem?_eq_getElem (by rw [← HK.out]; exact hlt)⟩
   obtain ⟨hdl, hdo, han⟩ := HQ.out p (List.mem_of_getElem? hp)
   have hrg := range_own HR.out.2.2.1.o (fun p hp => (HQ.out p hp).1) hp
   obtain ⟨a, dd⟩ := p
   dsimp only at hdl hdo han hrg
   have hwl : (Value.int .i64 a :: dd).length = 129 := by simp [hdl]
   have hwo : ∀ v ∈ (Value.int .i64 a :: dd), v.oneCell' = true := fun v hv => by
    rcases List.mem_cons.1 hv with rfl | hv
    ·rfl
    ·exact hdo v hv
   obtain ⟨W, HW⟩ : ∃ W, Hid (W = wr.alloc (.cells (Value.int .i64 a :: dd).toArray 101)) := ⟨_, rfl⟩
   have hst : (Instr.storeAt 101 (.pointer (some ⟨wr.heap.size, 0, none⟩)) (.agg (Value.int .i64 a :: dd).toArray)).run Tryz.prog (wr.alloc (.cells (wz (.int .i64 0)) 101)) = .ok () W := by rw [HW.out]; exact store_write' _ hwl hwo wr
   have hfW : Fr (fun _ => False) wr W := by rw [HW.out]; exact (Fr.refl _ _).alloc _
   have hGW : W.heap[wr.heap.size]? = some (.cells (Value.int .i64 a :: dd).toArray 101 (0, 0)) := by rw [HW.out]; exact heap_alloc_at _ _
   by_cases hjl : j < N
   ·have hjl' : ¬ (N : Int) ≤ j := by omega
    go_wp2_with (first
     | (refine wpList_load_mid rfl 101 (.tmp 24) rfl g (j * 129) ?_ (Value.int .i64 a :: dd) _ hrg Tryz.underlying101 rfl ?_ ?_; rfl; (rw [write_size, hwl]))
     | (refine wpList_alloc 101 (v := .pointer (some ⟨wr.heap.size, 0, none⟩)) (w' := wr.alloc (.cells (wz (.int .i64 0)) 101)) rfl rfl ?_ ?_; exact alloc_write wr)
     | (refine wpList_store 101 (w' := W) (.tmp 7) (.tmp 25) rfl rfl ?_ ?_; exact hst))
    generalize wr.heap.size = G at *
    obtain ⟨z, hzj⟩ : ∃ z, zs[j]? = some z := ⟨_, List.getElem?_eq_getElem (by rw [← HN.out]; exact hjl)⟩
    obtain ⟨lg, off, rfl, hcz⟩ := HL.out j z hzj
    have HNX : Hid (cutL bs0 ((s.ents.zip zs).take (j + 1)) = cutS (cutL bs0 ((s.ents.zip zs).take j)) a dd z 4) := cutL_take (b := bs0) (p := (a, dd)) (z := z) hp hzj
    obtain ⟨bj, HBJ⟩ : ∃ bj, Hid (bj = cutL bs0 ((s.ents.zip zs).take j)) := ⟨_, rfl⟩
    have HJ : Hid (AfI w A' B' n cap' base k (.slice (some ⟨g, 0, none⟩) k cc) s.ents (cutS bj a dd z 0) W ∧ W.heap[G]? = some (.cells (Value.int .i64 a :: dd).toArray 101 (0, 0))) := ⟨by have := HR.out.frz hfW; rw [← HBJ.out] at this; rw [cutS_zero]; exact this, hGW⟩
    clear hrg hst hfW hGW HW HR
    go_loopw [8] (fun c wr2 => ∃ t : Nat, t ≤ 4 ∧ c = .int .i64 t ∧ Hid (AfI w A' B' n cap' base k (.slice (some ⟨g, 0, none⟩) k cc) s.ents (cutS bj a dd z t) wr2 ∧ wr2.heap[G]? = some (.cells (Value.int .i64 a :: dd).toArray 101 (0, 0)))) (fun c _ => 4 - (intOf c).toNat)
    case atStart => exact ⟨0, Nat.zero_le _, rfl, HJ⟩
    case round =>
     obtain ⟨t, ht, rfl, HT⟩ := hrel
     by_cases hlt4 : t < 4
     ·have hlt4' : (t : Int) < 4 := by omega
      have hc' := HT.out.1.2.2.2.1.cell hcz (fun h => h)
      have hcA := HT.out.1.1.c0
      have hcG : wr.cell? ⟨G, 0, none⟩ = some (.int .i64 a) := (cell_of_row _ _ 0 _ _ _ HT.out.2).trans rfl
      have hjl2 : (j : Int) < N := by omega
      by_cases hb : bitZ z t = true
      ·have hb' : (bits BinOp.and IntKind.i64 (z / 2 ^ t) 1 == 1) = true := hb
       have hai : (a : Int) < n := by omega
       have hs1 : (0 : Int) ≤ (t : Int) * 32 := by omega
       have hs2 : (t : Int) * 32 ≤ ((t : Int) + 1) * 32 := by omega
       have hs3 : ((t : Int) + 1) * 32 ≤ 128 := by omega
       have hs4 : ((t : Int) * 32).toNat = t * 32 := by omega
       have hw1 : IntKind.i64.wrap ((t : Int) * 32) = (t : Int) * 32 := by rw [IntKind.wrap_i64]; omega
       have hw2 : IntKind.i64.wrap ((t : Int) + 1) = (t : Int) + 1 := by rw [IntKind.wrap_i64]; omega
       have hw3 : IntKind.i64.wrap (((t : Int) + 1) * 32) = ((t : Int) + 1) * 32 := by rw [IntKind.wrap_i64]; omega
       have hs5 : (((t : Int) + 1) * 32).toNat = t * 32 + 32 := by omega
       have hk1 := cut32 B' (a * 128) t hlt4
       have hk2 := cut32 G 1 t hlt4
       go_wp2
       try simp only [Act.put, lsE, lsZ, lsS]
       refine wp_region_still_tail 20 (by kernel_rfl) (by kernel_rfl) (Bx.out ?_)
       simp only [List.take_succ_cons, List.take_zero, List.drop_succ_cons, List.drop_zero]
       repeat (refine bx_step (fun K hK => ?_); go_simp; refine hK _ ?_; clear hK K)
       refine bx_nil ?_
       change wpList _ _ _ _ _ wr.drew
       obtain ⟨W3, HW3⟩ : ∃ W3, Hid (W3 = wr.drew) := ⟨_, rfl⟩
       have hf3 : Fr (fun _ => False) wr W3 := by rw [HW3.out]; exact (Fr.refl _ _).drew
       rw [← HW3.out]
       clear HW3
       have hA3 := HT.out.1.frz hf3
       have hG3 := hf3.keep HT.out.2 (fun h => h)
       have hsl := sect_len hdl hlt4
       have hsrc : ∀ j v, ((dd.drop (t * 32)).take 32)[j]? = some v → W3.cell? ((⟨G, 1 + t * 32, none⟩ : Addr).add j) = some v := by
        have h1 := src_of_row hG3 (1 + t * 32) 32
        have e : (Value.int .i64 a :: dd).drop (1 + t * 32) = dd.drop (t * 32) := by rw [Nat.add_comm]; rfl
        rw [e] at h1
        exact h1
       have hone : ∀ v ∈ (dd.drop (t * 32)).take 32, v.oneCell' = true := fun v hv => hdo v (List.mem_of_mem_drop (List.mem_of_mem_take hv))
       have hbl := hA3.2.1.2.1
       have hfit : a * 128 + t * 32 + ((dd.drop (t * 32)).take 32).length ≤ (cutS bj a dd z t).toArray.size := by rw [hsl, List.size_toArray, hbl]; omega
       go_wp2_with (first | (refine wpList_copy_to rfl (.tmp 54) (.tmp 61) 85 85 rfl 5 Tryz.underlying85 u8size B' (a * 128 + t * 32) 32 (128 - t * 32) ⟨G, 1 + t * 32, none⟩ 32 (128 - t * 32) rfl rfl (cutS bj a dd z t).toArray 97 hA3.2.1.1 ((dd.drop (t * 32)).take 32) (by rw [hsl]; rfl) hsrc hfit hone (splice (cutS bj a dd z t) (a * 128 + t * 32) ((dd.drop (t * 32)).take 32)) rfl ?_; intro w4 HW4; have HN2 : Hid (AfI w A' B' n cap' base k (.slice (some ⟨g, 0, none⟩) k cc) s.ents (cutS bj a dd z (t + 1)) w4 ∧ w4.heap[G]? = some (.cells (Value.int .i64 a :: dd).toArray 101 (0, 0))) := hA3.sect hG3 hcap han hdl hdo hlt4 hb HW4.out; clear HW4 hA3 hG3 hsrc))
       go_roundw
       case rel => exact ⟨t + 1, by omega, by go_num, HN2⟩
       case measure => simp [intOf]; omega
      ·have hb' : (bits BinOp.and IntKind.i64 (z / 2 ^ t) 1 == 1) = false := by simpa [bitZ] using hb
       have e1 : cutS bj a dd z (t + 1) = cutS bj a dd z t := by rw [cutS, if_neg hb]
       have HN2 := HT
       rw [← e1] at HN2
       go_wp2
       go_roundw
       case rel => exact ⟨t + 1, by omega, by go_num, HN2⟩
       case measure => simp [intOf]; omega
     ·obtain rfl : t = 4 := by omega
      have HN2 : Hid (AfI w A' B' n cap' base k (.slice (some ⟨g, 0, none⟩) k cc) s.ents (cutL bs0 ((s.ents.zip zs).take (j + 1))) wr) := by
       have := HT.out.1
       rw [HBJ.out, ← HNX.out] at this
       exact this
      go_wp2
      go_roundw
      case rel => exact ⟨j + 1, by omega, by omega, by go_num, HN2⟩
      case measure => simp [intOf]; omega
   ·obtain rfl : j = N := by omega
    have HN2 : Hid (AftQ w n s zs (.returned (.pointer (some ⟨A', 0, none⟩))) W) := (HR.out.frz hfW).post hcap (by rw [List.take_of_length_le (by rw [List.length_zip, ← HN.out]; omega), HB0.out])
    go_wp2_with (first
     | (refine wpList_load_mid rfl 101 (.tmp 24) rfl g (j * 129) ?_ (Value.int .i64 a :: dd) _ hrg Tryz.underlying101 rfl ?_ ?_; rfl; (rw [write_size, hwl]))
     | (refine wpList_alloc 101 (v := .pointer (some ⟨wr.heap.size, 0, none⟩)) (w' := wr.alloc (.cells (wz (.int .i64 0)) 101)) rfl rfl ?_ ?_; exact alloc_write wr)
     | (refine wpList_store 101 (w' := W) (.tmp 7) (.tmp 25) rfl rfl ?_ ?_; exact hst))
    go_ret
    exact HN2.out
  ·obtain rfl : j = k := by omega
   have HN2 : Hid (AftQ w n s zs (.returned (.pointer (some ⟨A', 0, none⟩))) wr) := HR.out.post hcap (by rw [List.take_of_length_le (by rw [List.length_zip, ← HK.out]; omega), HB0.out])
   go_wp2
   go_ret
   exact HN2.out
end Go.Proofs.YteebjgfalllbjaaGreatDoor
