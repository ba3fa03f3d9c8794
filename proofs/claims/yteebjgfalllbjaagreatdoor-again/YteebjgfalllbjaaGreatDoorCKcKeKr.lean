import Derived.Test.YteebjgfalllbjaaGreatDoorCLlAsTl
import Derived.Test.YteebjgfalllbjaaGreatDoorCNsNtRo
import Derived.Laws.IdiomStrings
import Derived.Laws.AppendOwnNone
import Derived.Test.YteebjgfalllbjaaGreatDoorCKb
import Derived.Test.YteebjgfalllbjaaGreatDoorCAs2
namespace Go.Proofs.YteebjgfalllbjaaGreatDoor
open Go.RowKit
def I64 (z : Int) : Prop := -9223372036854775808 ≤ z ∧ z ≤ 9223372036854775807
theorem i64_wf {n : Int} (h : (Lit.int .i64 n).wf = true) : I64 n := by
  simp only [Lit.wf, Bool.and_eq_true, decide_eq_true_eq] at h
  exact h
/-- Which of n things a raw number speaks of. -/
def kpk (c n : Int) : Int := (if c < 0 then -(c + 1) else c) % n
theorem kpk_in (c n : Int) (hn : 0 < n) : 0 ≤ kpk c n ∧ kpk c n < n := ⟨Int.emod_nonneg _ (by omega), Int.emod_lt_of_pos _ hn⟩
theorem kPick_ok (c n : Int) (w : World) (h1 : -9223372036854775808 ≤ c) (h2 : c ≤ 9223372036854775807) (hn : 0 < n) (hn2 : n ≤ 1000000000000) :
    Calls Tryz.prog 19 #[.int .i64 c, .int .i64 n] w fun e w' => e = .returned (.int .i64 (kpk c n)) ∧ w' = w := by
  have hn0 : ¬ n = 0 := by omega
  by_cases hc : c < 0
  · have ht : kpk c n = -(c + 1).tmod n := by
      rw [← Int.neg_tmod, kpk, if_pos hc, Int.tmod_eq_emod_of_nonneg (by omega)]
    have HT : Hid (kpk c n = -(c + 1).tmod n) := ht
    clear ht
    go_enter Tryz.func19, Tryz.ntmps19
    go_wp2
    go_ret
    exact ⟨by rw [HT.out]; rfl, rfl⟩
  · have HT : Hid (kpk c n = c % n) := by show kpk c n = c % n; rw [kpk, if_neg hc]
    go_enter Tryz.func19, Tryz.ntmps19
    go_wp2
    go_ret
    exact ⟨by rw [HT.out]; rfl, rfl⟩
/-- How many steps a saga has. -/
def kmn (c id : Int) : Nat := 1 + (kpk c 1048576 / (1 + 5 * id) % 6).toNat
theorem kmn_in (c id : Int) : 1 ≤ kmn c id ∧ kmn c id ≤ 6 := by
  have h1 : kpk c 1048576 / (1 + 5 * id) % 6 < 6 := Int.emod_lt_of_pos _ (by decide)
  unfold kmn
  omega
theorem kMany_ok (c id : Int) (w : World) (h1 : -9223372036854775808 ≤ c) (h2 : c ≤ 9223372036854775807) (hi : 0 ≤ id) (hi2 : id ≤ 1000) :
    Calls Tryz.prog 27 #[.int .i64 c, .int .i64 id] w fun e w' => e = .returned (.int .i64 (kmn c id)) ∧ w' = w := by
  obtain ⟨p, hp⟩ : ∃ p, p = kpk c 1048576 := ⟨_, rfl⟩
  obtain ⟨p0, p1⟩ := kpk_in c 1048576 (by decide)
  rw [← hp] at p0 p1
  have h0 : 0 ≤ p / (1 + 5 * id) := Int.ediv_nonneg p0 (by omega)
  have h3 : p / (1 + 5 * id) < 1048576 := Int.lt_of_le_of_lt (Int.ediv_le_self _ p0) p1
  have HE : Hid ((kmn c id : Int) = 1 + p / (1 + 5 * id) % 6) := by
    show (kmn c id : Int) = _
    have h4 : 0 ≤ p / (1 + 5 * id) % 6 := Int.emod_nonneg _ (by decide)
    rw [kmn, ← hp]; push_cast; omega
  rw [HE.out]
  have hd : (p.tdiv (1 + 5 * id)).tmod 6 = p / (1 + 5 * id) % 6 := by rw [Int.tdiv_eq_ediv_of_nonneg p0, Int.tmod_eq_emod_of_nonneg h0]
  have hne : ¬ 1 + 5 * id = 0 := by omega
  have HC := (kPick_ok c 1048576 w h1 h2 (by decide) (by decide))
  rw [← hp] at HC
  clear hp HE
  go_enter Tryz.func27, Tryz.ntmps27
  go_wp2_with fail
  refine HC.mono ?_
  rintro e w' ⟨rfl, rfl⟩
  go_wp2
  go_ret
  exact ⟨by first | rfl | (rw [← hd]; rfl), rfl⟩
end Go.Proofs.YteebjgfalllbjaaGreatDoor
namespace Go.Proofs.YteebjgfalllbjaaGreatDoor
open Go.RowKit
/-- The texts of a saga's steps. -/
def kstr (a id i : Nat) : ByteArray := ⟨#[UInt8.ofNat a, UInt8.ofNat (97 + id), UInt8.ofNat (49 + i)]⟩
def kst (id n : Nat) : List SS := (List.range n).map fun i => (kstr 100 id i, kstr 117 id i)
theorem kst_len (id n : Nat) : (kst id n).length = n := by simp [kst]
theorem kst_succ (id n : Nat) : kst id (n + 1) = kst id n ++ [(kstr 100 id n, kstr 117 id n)] := by simp [kst, List.range_succ]
theorem kst_8 (id n : Nat) : ∀ p ∈ kst id n, p.1.size = 3 ∧ p.2.size = 3 := by
  intro p hp
  obtain ⟨i, _, rfl⟩ := List.mem_map.1 hp
  exact ⟨rfl, rfl⟩
theorem conv_kstr {W : World} {g : Nat} (a id i : Nat) (ha : a < 256) (hid : 97 + id < 256) (hi : 49 + i < 256) (hg : W.heap[g]? = some (.cells #[.int .u8 a, .int .u8 (97 + id), .int .u8 (49 + i)] 5 (0, 0))) :
    (convert 85 9 (.slice (some ⟨g, 0, none⟩) 3 3)).run Tryz.prog W = .ok (.string (kstr a id i)) W := by
  have h0 : W.cell? ⟨g, 0, none⟩ = some (.int .u8 a) := (cell_of_row W g 0 _ _ _ hg).trans rfl
  have h1 : W.cell? ⟨g, 1, none⟩ = some (.int .u8 (97 + id)) := (cell_of_row W g 1 _ _ _ hg).trans rfl
  have h2 : W.cell? ⟨g, 2, none⟩ = some (.int .u8 (49 + i)) := (cell_of_row W g 2 _ _ _ hg).trans rfl
  have hc := run_convert_bytes_back W 85 9 5 ⟨g, 0, none⟩ 3 [UInt8.ofNat a, UInt8.ofNat (97 + id), UInt8.ofNat (49 + i)] Tryz.underlying85 Tryz.underlying5 Tryz.underlying9 (fun j hj => by
      have hj3 : j < 3 := hj
      have e1 : a % 256 = a := Nat.mod_eq_of_lt ha
      have e2 : (97 + id) % 256 = 97 + id := Nat.mod_eq_of_lt hid
      have e3 : (49 + i) % 256 = 49 + i := Nat.mod_eq_of_lt hi
      match j, hj3 with
      | 0, _ => simpa [Addr.add, e1] using h0
      | 1, _ => simpa [Addr.add, e2] using h1
      | 2, _ => simpa [Addr.add, e3] using h2)
  exact hc
/-- Behind some steps. -/
def KsI (w : World) (id i : Nat) (lv : Value) (wr : World) : Prop := Fr (fun _ => False) w wr ∧ wr.ownsRow w.heap.size 58 2 lv i (scells (kst id i))
theorem ks_step {w wr w2 : World} {id i : Nat} {ax : Option Addr} {cx : Nat} {v2 : Value} {o1 o2 : Obj} (h : KsI w id i (.slice ax i cx) wr)
    (hown : w2.ownsRow w.heap.size 58 2 v2 (i + 1) (scells (kst id i) ++ [.string (kstr 100 id i), .string (kstr 117 id i)])) (hg : (((wr.alloc o1).alloc o2).alloc (.cells #[.string (kstr 100 id i), .string (kstr 117 id i)] 58)).grownBy w2 (Value.slice ax i cx).ownBlock) :
    KsI w id (i + 1) v2 w2 ∧ ∃ a2 c2, v2 = .slice a2 (i + 1) c2 := by
  refine ⟨⟨?_, ?_⟩, ?_⟩
  · refine (((h.1.alloc _).alloc _).alloc _).grown hg (fun k hk hb => ?_)
    have := (h.2.lt k hb).1
    omega
  · rw [kst_succ, scells_append]
    exact hown
  · rcases hown.2 with ⟨rfl, h0⟩ | ⟨g, cap, cur, rfl, _⟩
    · omega
    · exact ⟨_, _, rfl⟩
set_option maxRecDepth 100000 in
set_option maxHeartbeats 1000000 in
theorem kSteps_ok (w : World) (id n : Nat) (hid : id ≤ 20) (hn : n ≤ 20) : Calls Tryz.prog 22 #[.int .i64 id, .int .i64 n] w fun e w' => ∃ ao cap, e = .returned (.slice ao n cap) ∧ KsI w id n (.slice ao n cap) w' := by
  go_enter Tryz.func22, Tryz.ntmps22
  go_wp2
  go_loopw [5, 6] (fun lv c wr => ∃ (i : Nat) (ax : Option Addr) (cx : Nat), i ≤ n ∧ c = .int .i64 i ∧ lv = .slice ax i cx ∧ Hid (KsI w id i lv wr)) (fun _ c _ => n - (intOf c).toNat)
  case atStart => exact ⟨0, none, 0, Nat.zero_le _, rfl, rfl, Fr.refl _ _, World.ownsRow_nil _ _ _ _⟩
  case round =>
    obtain ⟨i, ax, cx, hi, rfl, rfl, HR⟩ := hrel
    by_cases hlt : i < n
    · have hlt' : (i : Int) < n := by omega
      have e1 : wrap64 (97 + (id : Int)) = 97 + id := by unfold wrap64; omega
      have e2 : (97 + (id : Int)) % 256 = 97 + id := by omega
      have e3 : wrap64 (49 + (i : Int)) = 49 + i := by unfold wrap64; omega
      have e4 : (49 + (i : Int)) % 256 = 49 + i := by omega
      have hc1 := conv_kstr (W := wr.alloc (.cells #[.int .u8 100, .int .u8 (97 + id), .int .u8 (49 + i)] 5)) (g := wr.heap.size) 100 id i (by decide) (by omega) (by omega) (heap_alloc_at _ _)
      have hc2 := conv_kstr (W := (wr.alloc (.cells #[.int .u8 100, .int .u8 (97 + id), .int .u8 (49 + i)] 5)).alloc (.cells #[.int .u8 117, .int .u8 (97 + id), .int .u8 (49 + i)] 5)) (g := wr.heap.size + 1) 117 id i (by decide) (by omega) (by omega) (by have := heap_alloc_at (wr.alloc (.cells #[.int .u8 100, .int .u8 (97 + id), .int .u8 (49 + i)] 5)) (.cells #[.int .u8 117, .int .u8 (97 + id), .int .u8 (49 + i)] 5); simpa using this)
      have HS : Hid (∀ w2 v2, w2.ownsRow w.heap.size 58 2 v2 (i + 1) (scells (kst id i) ++ [.string (kstr 100 id i), .string (kstr 117 id i)]) → (((wr.alloc (.cells #[.int .u8 100, .int .u8 (97 + id), .int .u8 (49 + i)] 5)).alloc (.cells #[.int .u8 117, .int .u8 (97 + id), .int .u8 (49 + i)] 5)).alloc (.cells #[.string (kstr 100 id i), .string (kstr 117 id i)] 58)).grownBy w2 (Value.slice ax i cx).ownBlock → KsI w id (i + 1) v2 w2 ∧ ∃ a2 c2, v2 = .slice a2 (i + 1) c2) := fun w2 v2 h1 h2 => ks_step HR.out h1 h2
      generalize kstr 100 id i = sa at *
      generalize kstr 117 id i = sb at *
      obtain ⟨inf, hi0, hz0, hz1, hz2⟩ := info_parts astep_info
      obtain ⟨W3, HW3⟩ : ∃ W3, Hid (W3 = ((wr.alloc (.cells #[.int .u8 100, .int .u8 (97 + id), .int .u8 (49 + i)] 5)).alloc (.cells #[.int .u8 117, .int .u8 (97 + id), .int .u8 (49 + i)] 5)).alloc (.cells #[.string sa, .string sb] 58)) := ⟨_, rfl⟩
      have HF : Hid (W3.ownsRow w.heap.size 58 2 (.slice ax i cx) i (scells (kst id i)) ∧ w.heap.size ≤ W3.heap.size ∧ (∀ j u, [Value.string sa, Value.string sb][j]? = some u → W3.cell? ((⟨wr.heap.size + 1 + 1, 0, none⟩ : Addr).add j) = some u)) := by
        refine ⟨by rw [HW3.out]; exact ((HR.out.2.alloc _).alloc _).alloc _, by rw [HW3.out]; have := HR.out.1.size; simp; omega, ?_⟩
        have : W3.heap[wr.heap.size + 1 + 1]? = some (.cells #[.string sa, .string sb] 58 (0, 0)) := ?_
        · exact World.news_of_block (w := W3) (B := wr.heap.size + 1 + 1) this
        rw [HW3.out]
        have := heap_alloc_at ((wr.alloc (.cells #[.int .u8 100, .int .u8 (97 + id), .int .u8 (49 + i)] 5)).alloc (.cells #[.int .u8 117, .int .u8 (97 + id), .int .u8 (49 + i)] 5)) (.cells #[.string sa, .string sb] 58)
        simpa using this
      go_wp2_with (first | (at_builtin; rw [← HW3.out]; refine wpList_append_own W3 rfl (.tmp 30) (.tmp 34) 38 rfl w.heap.size 58 inf _ 2 32 Tryz.underlying38 hi0 hz0 hz1 hz2 rfl (by decide) (.slice ax i cx) i (scells (kst id i)) rfl HF.out.1 ⟨wr.heap.size + 1 + 1, 0, none⟩ 1 1 [.string sa, .string sb] rfl rfl HF.out.2.2 (by simp [Value.oneCell']) ?_ ?_ HF.out.2.1 ?_; (unfold maxLen; omega); omega; intro v2 w2 hown2 hgrow2 _; rw [HW3.out] at hgrow2; obtain ⟨hPI, a2, cx2, rfl⟩ := HS.out w2 v2 hown2 hgrow2; have HP2 : Hid (KsI w id (i + 1) (.slice a2 (i + 1) cx2) w2) := hPI; clear hown2 hgrow2 hPI))
      go_roundw
      case rel => exact ⟨i + 1, a2, cx2, by omega, by go_num, rfl, HP2⟩
      case measure => simp [intOf]; omega
    · obtain rfl : i = n := by omega
      go_wp2
      go_ret
      exact ⟨_, _, rfl, HR.out⟩
end Go.Proofs.YteebjgfalllbjaaGreatDoor
namespace Go.Proofs.YteebjgfalllbjaaGreatDoor
open Go.RowKit
/-- A list of numbers in memory. -/
def IntsAt (w : World) (la : Option Addr) (zs : List Int) : Prop := ∀ (i : Nat) (z : Int), zs[i]? = some z → ∃ g off, la = some ⟨g, off, none⟩ ∧ w.cell? ⟨g, off + i, none⟩ = some (.int .i64 z)
def intC (zs : List Int) : List Value := zs.map fun x => Value.int .i64 x
def FwI (w : World) (zs : List Int) (i : Nat) (lv : Value) (wr : World) : Prop := Fr (fun _ => False) w wr ∧ wr.ownsRow w.heap.size 3 1 lv i (intC (zs.take i))
theorem fw_step {w wr w2 : World} {zs : List Int} {z : Int} {i : Nat} {ax : Option Addr} {cx : Nat} {v2 : Value} (h : FwI w zs i (.slice ax i cx) wr) (hz : zs[i]? = some z)
    (hown : w2.ownsRow w.heap.size 3 1 v2 (i + 1) (intC (zs.take i) ++ [.int .i64 z])) (hg : (wr.alloc (.cells #[.int .i64 z] 3)).grownBy w2 (Value.slice ax i cx).ownBlock) :
    FwI w zs (i + 1) v2 w2 ∧ ∃ a2 c2, v2 = .slice a2 (i + 1) c2 := by
  refine ⟨⟨?_, ?_⟩, ?_⟩
  · refine (h.1.alloc _).grown hg (fun k hk hb => ?_)
    have := (h.2.lt k hb).1
    omega
  · rw [List.take_add_one, hz]
    simpa [intC] using hown
  · rcases hown.2 with ⟨rfl, h0⟩ | ⟨g, cap, cur, rfl, _⟩
    · omega
    · exact ⟨_, _, rfl⟩
set_option maxRecDepth 100000 in
set_option maxHeartbeats 1000000 in
theorem kFew_ok (w : World) {la : Option Addr} {zs : List Int} (cap : Nat) (hl : IntsAt w la zs) (n : Nat) (hn : n ≤ 100) : Calls Tryz.prog 17 #[.slice la zs.length cap, .int .i64 n] w fun e w' => ∃ ao c, e = .returned (.slice ao (min n zs.length) c) ∧ FwI w zs (min n zs.length) (.slice ao (min n zs.length) c) w' := by
  have HL : Hid (IntsAt w la zs) := hl
  obtain ⟨N, hN⟩ : ∃ N, N = zs.length := ⟨_, rfl⟩
  rw [← hN]
  have HN : Hid (N = zs.length) := hN
  clear hl hN
  go_enter Tryz.func17, Tryz.ntmps17
  go_wp2
  go_loopw [5, 6] (fun lv c wr => ∃ (i : Nat) (ax : Option Addr) (cx : Nat), i ≤ n ∧ i ≤ N ∧ c = .int .i64 i ∧ lv = .slice ax i cx ∧ Hid (FwI w zs i lv wr)) (fun _ c _ => n - (intOf c).toNat)
  case atStart => exact ⟨0, none, 0, Nat.zero_le _, Nat.zero_le _, rfl, rfl, Fr.refl _ _, World.ownsRow_nil _ _ _ _⟩
  case round =>
    obtain ⟨i, ax, cx, hi, hiN, rfl, rfl, HR⟩ := hrel
    by_cases hlt : i < N
    · have hlt' : (i : Int) < N := by omega
      by_cases hlt2 : i < n
      · have hlt2' : (i : Int) < n := by omega
        obtain ⟨z, hz⟩ : ∃ z, zs[i]? = some z := ⟨_, List.getElem?_eq_getElem (by rw [← HN.out]; exact hlt)⟩
        obtain ⟨g, off, rfl, hc⟩ := HL.out i z hz
        have hc' : wr.cell? ⟨g, off + i, none⟩ = some (.int .i64 z) := HR.out.1.cell hc (fun h => h)
        have HS : Hid (∀ w2 v2, w2.ownsRow w.heap.size 3 1 v2 (i + 1) (intC (zs.take i) ++ [.int .i64 z]) → (wr.alloc (.cells #[.int .i64 z] 3)).grownBy w2 (Value.slice ax i cx).ownBlock → FwI w zs (i + 1) v2 w2 ∧ ∃ a2 c2, v2 = .slice a2 (i + 1) c2) := fun w2 v2 h1 h2 => fw_step HR.out hz h1 h2
        obtain ⟨inf, hi0, hz0, hz1, hz2⟩ := info_parts int_info
        have HF : Hid ((wr.alloc (.cells #[.int .i64 z] 3)).ownsRow w.heap.size 3 1 (.slice ax i cx) i (intC (zs.take i)) ∧ w.heap.size ≤ (wr.alloc (.cells #[.int .i64 z] 3)).heap.size ∧ (∀ j u, [Value.int .i64 z][j]? = some u → (wr.alloc (.cells #[.int .i64 z] 3)).cell? ((⟨wr.heap.size, 0, none⟩ : Addr).add j) = some u)) :=
          ⟨HR.out.2.alloc _, by have := HR.out.1.size; simp; omega, World.news_of_block (w := wr.alloc (.cells #[.int .i64 z] 3)) (B := wr.heap.size) (heap_alloc_at _ _)⟩
        clear hz hc
        go_wp2_with (first | (at_builtin; refine wpList_append_own (wr.alloc (.cells #[.int .i64 z] 3)) rfl (.tmp 18) (.tmp 23) 24 rfl w.heap.size 3 inf _ 1 8 Tryz.underlying24 hi0 hz0 hz1 hz2 rfl (by decide) (.slice ax i cx) i (intC (zs.take i)) rfl HF.out.1 ⟨wr.heap.size, 0, none⟩ 1 1 [.int .i64 z] rfl rfl HF.out.2.2 (by simp [Value.oneCell']) ?_ ?_ HF.out.2.1 ?_; (unfold maxLen; omega); omega; intro v2 w2 hown2 hgrow2 _; obtain ⟨hPI, a2, cx2, rfl⟩ := HS.out w2 v2 hown2 hgrow2; have HP2 : Hid (FwI w zs (i + 1) (.slice a2 (i + 1) cx2) w2) := hPI; clear hown2 hgrow2 hPI))
        go_roundw
        case rel => exact ⟨i + 1, a2, cx2, by omega, by omega, by go_num, rfl, HP2⟩
        case measure => simp [intOf]; omega
      · obtain rfl : i = n := by omega
        go_wp2
        go_ret
        rw [Nat.min_eq_left (by omega)]
        exact ⟨_, _, rfl, HR.out⟩
    · obtain rfl : i = N := by omega
      go_wp2
      go_ret
      rw [Nat.min_eq_right (by omega)]
      exact ⟨_, _, rfl, HR.out⟩
end Go.Proofs.YteebjgfalllbjaaGreatDoor
