import Derived.Test.YteebjgfalllbjaaGreatDoorCKpKqKc
import Derived.Test.YteebjgfalllbjaaGreatDoorCNsNtOwn
import Derived.Laws.IdiomStrings
import Derived.Laws.AppendOwnNone
namespace Go.Proofs.YteebjgfalllbjaaGreatDoor
open Go.RowKit
/-- The texts of a saga's steps. -/
def kstr (a id i : Nat) : ByteArray := ⟨#[UInt8.ofNat a, UInt8.ofNat (97 + id), UInt8.ofNat (49 + i)]⟩
def kst (id n : Nat) : List SS := (List.range n).map fun i => (kstr 100 id i, kstr 117 id i)
theorem kst_len (id n : Nat) : (kst id n).length = n := by simp [kst]
theorem kst_succ (id n : Nat) : kst id (n + 1) = kst id n ++ [(kstr 100 id n, kstr 117 id n)] := by simp [kst, List.range_succ]
theorem kst_8 (id n : Nat) : ∀ p ∈ kst id n, p.1.size = 3 ∧ p.2.size = 3 := by
  intro p hp
  obtain ⟨i, _, rfl⟩ := List.mem_map.1 hp
  exact ⟨rfl, rfl⟩
theorem conv_kstr {W : World} {g : Nat} (a id i : Nat) (ha : a < 256) (hid : 97 + id < 256) (hi : 49 + i < 256) (hg : W.heap[g]? = some (.cells #[.int .u8 a, .int .u8 (97 + id), .int .u8 (49 + i)] 5 (0, 0))) :
    (convert 85 9 (.slice (some ⟨g, 0, none⟩) 3 3)).run Tryz.prog W = .ok (.string (kstr a id i)) W := by
  have h0 : W.cell? ⟨g, 0, none⟩ = some (.int .u8 a) := (cell_of_row W g 0 _ _ _ hg).trans rfl
  have h1 : W.cell? ⟨g, 1, none⟩ = some (.int .u8 (97 + id)) := (cell_of_row W g 1 _ _ _ hg).trans rfl
  have h2 : W.cell? ⟨g, 2, none⟩ = some (.int .u8 (49 + i)) := (cell_of_row W g 2 _ _ _ hg).trans rfl
  have hc := run_convert_bytes_back W 85 9 5 ⟨g, 0, none⟩ 3 [UInt8.ofNat a, UInt8.ofNat (97 + id), UInt8.ofNat (49 + i)] Tryz.underlying85 Tryz.underlying5 Tryz.underlying9 (fun j hj => by
      have hj3 : j < 3 := hj
      have e1 : a % 256 = a := Nat.mod_eq_of_lt ha
      have e2 : (97 + id) % 256 = 97 + id := Nat.mod_eq_of_lt hid
      have e3 : (49 + i) % 256 = 49 + i := Nat.mod_eq_of_lt hi
      match j, hj3 with
      | 0, _ => simpa [Addr.add, e1] using h0
      | 1, _ => simpa [Addr.add, e2] using h1
      | 2, _ => simpa [Addr.add, e3] using h2)
  exact hc
/-- Behind some steps. -/
def KsI (w : World) (id i : Nat) (lv : Value) (wr : World) : Prop := Fr (fun _ => False) w wr ∧ wr.ownsRow w.heap.size 58 2 lv i (scells (kst id i))
theorem ks_step {w wr w2 : World} {id i : Nat} {ax : Option Addr} {cx : Nat} {v2 : Value} {o1 o2 : Obj} (h : KsI w id i (.slice ax i cx) wr)
    (hown : w2.ownsRow w.heap.size 58 2 v2 (i + 1) (scells (kst id i) ++ [.string (kstr 100 id i), .string (kstr 117 id i)])) (hg : (((wr.alloc o1).alloc o2).alloc (.cells #[.string (kstr 100 id i), .string (kstr 117 id i)] 58)).grownBy w2 (Value.slice ax i cx).ownBlock) :
    KsI w id (i + 1) v2 w2 ∧ ∃ a2 c2, v2 = .slice a2 (i + 1) c2 := by
  refine ⟨⟨?_, ?_⟩, ?_⟩
  · refine (((h.1.alloc _).alloc _).alloc _).grown hg (fun k hk hb => ?_)
    have := (h.2.lt k hb).1
    omega
  · rw [kst_succ, scells_append]
    exact hown
  · rcases hown.2 with ⟨rfl, h0⟩ | ⟨g, cap, cur, rfl, _⟩
    · omega
    · exact ⟨_, _, rfl⟩
set_option maxRecDepth 100000 in
set_option maxHeartbeats 1000000 in
theorem kSteps_ok (w : World) (id n : Nat) (hid : id ≤ 20) (hn : n ≤ 20) : Calls Tryz.prog 22 #[.int .i64 id, .int .i64 n] w fun e w' => ∃ ao cap, e = .returned (.slice ao n cap) ∧ KsI w id n (.slice ao n cap) w' := by
  go_enter Tryz.func22, Tryz.ntmps22
  go_wp2
  go_loopw [5, 6] (fun lv c wr => ∃ (i : Nat) (ax : Option Addr) (cx : Nat), i ≤ n ∧ c = .int .i64 i ∧ lv = .slice ax i cx ∧ Hid (KsI w id i lv wr)) (fun _ c _ => n - (intOf c).toNat)
  case atStart => exact ⟨0, none, 0, Nat.zero_le _, rfl, rfl, Fr.refl _ _, World.ownsRow_nil _ _ _ _⟩
  case round =>
    obtain ⟨i, ax, cx, hi, rfl, rfl, HR⟩ := hrel
    by_cases hlt : i < n
    · have hlt' : (i : Int) < n := by omega
      have e1 : wrap64 (97 + (id : Int)) = 97 + id := by unfold wrap64; omega
      have e2 : (97 + (id : Int)) % 256 = 97 + id := by omega
      have e3 : wrap64 (49 + (i : Int)) = 49 + i := by unfold wrap64; omega
      have e4 : (49 + (i : Int)) % 256 = 49 + i := by omega
      have hc1 := conv_kstr (W := wr.alloc (.cells #[.int .u8 100, .int .u8 (97 + id), .int .u8 (49 + i)] 5)) (g := wr.heap.size) 100 id i (by decide) (by omega) (by omega) (heap_alloc_at _ _)
      have hc2 := conv_kstr (W := (wr.alloc (.cells #[.int .u8 100, .int .u8 (97 + id), .int .u8 (49 + i)] 5)).alloc (.cells #[.int .u8 117, .int .u8 (97 + id), .int .u8 (49 + i)] 5)) (g := wr.heap.size + 1) 117 id i (by decide) (by omega) (by omega) (by have := heap_alloc_at (wr.alloc (.cells #[.int .u8 100, .int .u8 (97 + id), .int .u8 (49 + i)] 5)) (.cells #[.int .u8 117, .int .u8 (97 + id), .int .u8 (49 + i)] 5); simpa using this)
      have HS : Hid (∀ w2 v2, w2.ownsRow w.heap.size 58 2 v2 (i + 1) (scells (kst id i) ++ [.string (kstr 100 id i), .string (kstr 117 id i)]) → (((wr.alloc (.cells #[.int .u8 100, .int .u8 (97 + id), .int .u8 (49 + i)] 5)).alloc (.cells #[.int .u8 117, .int .u8 (97 + id), .int .u8 (49 + i)] 5)).alloc (.cells #[.string (kstr 100 id i), .string (kstr 117 id i)] 58)).grownBy w2 (Value.slice ax i cx).ownBlock → KsI w id (i + 1) v2 w2 ∧ ∃ a2 c2, v2 = .slice a2 (i + 1) c2) := fun w2 v2 h1 h2 => ks_step HR.out h1 h2
      generalize kstr 100 id i = sa at *
      generalize kstr 117 id i = sb at *
      obtain ⟨inf, hi0, hz0, hz1, hz2⟩ := info_parts astep_info
      obtain ⟨W3, HW3⟩ : ∃ W3, Hid (W3 = ((wr.alloc (.cells #[.int .u8 100, .int .u8 (97 + id), .int .u8 (49 + i)] 5)).alloc (.cells #[.int .u8 117, .int .u8 (97 + id), .int .u8 (49 + i)] 5)).alloc (.cells #[.string sa, .string sb] 58)) := ⟨_, rfl⟩
      have HF : Hid (W3.ownsRow w.heap.size 58 2 (.slice ax i cx) i (scells (kst id i)) ∧ w.heap.size ≤ W3.heap.size ∧ (∀ j u, [Value.string sa, Value.string sb][j]? = some u → W3.cell? ((⟨wr.heap.size + 1 + 1, 0, none⟩ : Addr).add j) = some u)) := by
        refine ⟨by rw [HW3.out]; exact ((HR.out.2.alloc _).alloc _).alloc _, by rw [HW3.out]; have := HR.out.1.size; simp; omega, ?_⟩
        have : W3.heap[wr.heap.size + 1 + 1]? = some (.cells #[.string sa, .string sb] 58 (0, 0)) := ?_
        · exact World.news_of_block (w := W3) (B := wr.heap.size + 1 + 1) this
        rw [HW3.out]
        have := heap_alloc_at ((wr.alloc (.cells #[.int .u8 100, .int .u8 (97 + id), .int .u8 (49 + i)] 5)).alloc (.cells #[.int .u8 117, .int .u8 (97 + id), .int .u8 (49 + i)] 5)) (.cells #[.string sa, .string sb] 58)
        simpa using this
      go_wp2_with (first | (at_builtin; rw [← HW3.out]; refine wpList_append_own W3 rfl (.tmp 30) (.tmp 34) 38 rfl w.heap.size 58 inf _ 2 32 Tryz.underlying38 hi0 hz0 hz1 hz2 rfl (by decide) (.slice ax i cx) i (scells (kst id i)) rfl HF.out.1 ⟨wr.heap.size + 1 + 1, 0, none⟩ 1 1 [.string sa, .string sb] rfl rfl HF.out.2.2 (by simp [Value.oneCell']) ?_ ?_ HF.out.2.1 ?_; (unfold maxLen; omega); omega; intro v2 w2 hown2 hgrow2 _; rw [HW3.out] at hgrow2; obtain ⟨hPI, a2, cx2, rfl⟩ := HS.out w2 v2 hown2 hgrow2; have HP2 : Hid (KsI w id (i + 1) (.slice a2 (i + 1) cx2) w2) := hPI; clear hown2 hgrow2 hPI))
      go_roundw
      case rel => exact ⟨i + 1, a2, cx2, by omega, by go_num, rfl, HP2⟩
      case measure => simp [intOf]; omega
    · obtain rfl : i = n := by omega
      go_wp2
      go_ret
      exact ⟨_, _, rfl, HR.out⟩
end Go.Proofs.YteebjgfalllbjaaGreatDoor
namespace Go.Proofs.YteebjgfalllbjaaGreatDoor
open Go.RowKit
/-- A list of numbers in memory. -/
def IntsAt (w : World) (la : Option Addr) (zs : List Int) : Prop := ∀ (i : Nat) (z : Int), zs[i]? = some z → ∃ g off, la = some ⟨g, off, none⟩ ∧ w.cell? ⟨g, off + i, none⟩ = some (.int .i64 z)
def intC (zs : List Int) : List Value := zs.map fun x => Value.int .i64 x
def FwI (w : World) (zs : List Int) (i : Nat) (lv : Value) (wr : World) : Prop := Fr (fun _ => False) w wr ∧ wr.ownsRow w.heap.size 3 1 lv i (intC (zs.take i))
theorem fw_step {w wr w2 : World} {zs : List Int} {z : Int} {i : Nat} {ax : Option Addr} {cx : Nat} {v2 : Value} (h : FwI w zs i (.slice ax i cx) wr) (hz : zs[i]? = some z)
    (hown : w2.ownsRow w.heap.size 3 1 v2 (i + 1) (intC (zs.take i) ++ [.int .i64 z])) (hg : (wr.alloc (.cells #[.int .i64 z] 3)).grownBy w2 (Value.slice ax i cx).ownBlock) :
    FwI w zs (i + 1) v2 w2 ∧ ∃ a2 c2, v2 = .slice a2 (i + 1) c2 := by
  refine ⟨⟨?_, ?_⟩, ?_⟩
  · refine (h.1.alloc _).grown hg (fun k hk hb => ?_)
    have := (h.2.lt k hb).1
    omega
  · rw [List.take_add_one, hz]
    simpa [intC] using hown
  · rcases hown.2 with ⟨rfl, h0⟩ | ⟨g, cap, cur, rfl, _⟩
    · omega
    · exact ⟨_, _, rfl⟩
set_option maxRecDepth 100000 in
set_option maxHeartbeats 1000000 in
theorem kFew_ok (w : World) {la : Option Addr} {zs : List Int} (cap : Nat) (hl : IntsAt w la zs) (n : Nat) (hn : n ≤ 100) : Calls Tryz.prog 17 #[.slice la zs.length cap, .int .i64 n] w fun e w' => ∃ ao c, e = .returned (.slice ao (min n zs.length) c) ∧ FwI w zs (min n zs.length) (.slice ao (min n zs.length) c) w' := by
  have HL : Hid (IntsAt w la zs) := hl
  obtain ⟨N, hN⟩ : ∃ N, N = zs.length := ⟨_, rfl⟩
  rw [← hN]
  have HN : Hid (N = zs.length) := hN
  clear hl hN
  go_enter Tryz.func17, Tryz.ntmps17
  go_wp2
  go_loopw [5, 6] (fun lv c wr => ∃ (i : Nat) (ax : Option Addr) (cx : Nat), i ≤ n ∧ i ≤ N ∧ c = .int .i64 i ∧ lv = .slice ax i cx ∧ Hid (FwI w zs i lv wr)) (fun _ c _ => n - (intOf c).toNat)
  case atStart => exact ⟨0, none, 0, Nat.zero_le _, Nat.zero_le _, rfl, rfl, Fr.refl _ _, World.ownsRow_nil _ _ _ _⟩
  case round =>
    obtain ⟨i, ax, cx, hi, hiN, rfl, rfl, HR⟩ := hrel
    by_cases hlt : i < N
    · have hlt' : (i : Int) < N := by omega
      by_cases hlt2 : i < n
      · have hlt2' : (i : Int) < n := by omega
        obtain ⟨z, hz⟩ : ∃ z, zs[i]? = some z := ⟨_, List.getElem?_eq_getElem (by rw [← HN.out]; exact hlt)⟩
        obtain ⟨g, off, rfl, hc⟩ := HL.out i z hz
        have hc' : wr.cell? ⟨g, off + i, none⟩ = some (.int .i64 z) := HR.out.1.cell hc (fun h => h)
        have HS : Hid (∀ w2 v2, w2.ownsRow w.heap.size 3 1 v2 (i + 1) (intC (zs.take i) ++ [.int .i64 z]) → (wr.alloc (.cells #[.int .i64 z] 3)).grownBy w2 (Value.slice ax i cx).ownBlock → FwI w zs (i + 1) v2 w2 ∧ ∃ a2 c2, v2 = .slice a2 (i + 1) c2) := fun w2 v2 h1 h2 => fw_step HR.out hz h1 h2
        obtain ⟨inf, hi0, hz0, hz1, hz2⟩ := info_parts int_info
        have HF : Hid ((wr.alloc (.cells #[.int .i64 z] 3)).ownsRow w.heap.size 3 1 (.slice ax i cx) i (intC (zs.take i)) ∧ w.heap.size ≤ (wr.alloc (.cells #[.int .i64 z] 3)).heap.size ∧ (∀ j u, [Value.int .i64 z][j]? = some u → (wr.alloc (.cells #[.int .i64 z] 3)).cell? ((⟨wr.heap.size, 0, none⟩ : Addr).add j) = some u)) :=
          ⟨HR.out.2.alloc _, by have := HR.out.1.size; simp; omega, World.news_of_block (w := wr.alloc (.cells #[.int .i64 z] 3)) (B := wr.heap.size) (heap_alloc_at _ _)⟩
        clear hz hc
        go_wp2_with (first | (at_builtin; refine wpList_append_own (wr.alloc (.cells #[.int .i64 z] 3)) rfl (.tmp 18) (.tmp 23) 24 rfl w.heap.size 3 inf _ 1 8 Tryz.underlying24 hi0 hz0 hz1 hz2 rfl (by decide) (.slice ax i cx) i (intC (zs.take i)) rfl HF.out.1 ⟨wr.heap.size, 0, none⟩ 1 1 [.int .i64 z] rfl rfl HF.out.2.2 (by simp [Value.oneCell']) ?_ ?_ HF.out.2.1 ?_; (unfold maxLen; omega); omega; intro v2 w2 hown2 hgrow2 _; obtain ⟨hPI, a2, cx2, rfl⟩ := HS.out w2 v2 hown2 hgrow2; have HP2 : Hid (FwI w zs (i + 1) (.slice a2 (i + 1) cx2) w2) := hPI; clear hown2 hgrow2 hPI))
        go_roundw
        case rel => exact ⟨i + 1, a2, cx2, by omega, by omega, by go_num, rfl, HP2⟩
        case measure => simp [intOf]; omega
      · obtain rfl : i = n := by omega
        go_wp2
        go_ret
        rw [Nat.min_eq_left (by omega)]
        exact ⟨_, _, rfl, HR.out⟩
    · obtain rfl : i = N := by omega
      go_wp2
      go_ret
      rw [Nat.min_eq_right (by omega)]
      exact ⟨_, _, rfl, HR.out⟩
end Go.Proofs.YteebjgfalllbjaaGreatDoor
namespace Go.Proofs.YteebjgfalllbjaaGreatDoor
open Go.RowKit
def cnF (m : List (Int × Bool)) : Nat := (m.filter (fun p => !p.2)).length
def cnT (m : List (Int × Bool)) : Nat := (m.filter (fun p => p.2)).length
theorem cn_snoc (m : List (Int × Bool)) (x : Int) (b : Bool) : cnF (m ++ [(x, b)]) = cnF m + (if b then 0 else 1) ∧ cnT (m ++ [(x, b)]) = cnT m + (if b then 1 else 0) := by
  cases b <;> simp [cnF, cnT]
theorem cn_le (m : List (Int × Bool)) : cnF m ≤ m.length ∧ cnT m ≤ m.length := ⟨List.length_filter_le _ _, List.length_filter_le _ _⟩
theorem mine_le (id : Int) (eff : List CL) : (mine id eff).length ≤ eff.length := by
  unfold mine
  rw [List.length_map]
  exact List.length_filter_le _ _
theorem cn_shape {m : List (Int × Bool)} {n k j : Nat} (h : Shape m n k j) : cnF m = k ∧ cnT m = k - j := by
  obtain ⟨rfl, _⟩ := h
  have u1 : ∀ k, (upL k).filter (fun p => !p.2) = upL k := fun k => List.filter_eq_self.2 fun p hp => by
    obtain ⟨x, b⟩ := p
    rw [(mem_upL.1 hp).1]; rfl
  have u2 : ∀ k, (upL k).filter (fun p => p.2) = [] := fun k => List.filter_eq_nil_iff.2 fun p hp => by
    obtain ⟨x, b⟩ := p
    rw [(mem_upL.1 hp).1]; simp
  have d1 : (dnL k j).filter (fun p => !p.2) = [] := List.filter_eq_nil_iff.2 fun p hp => by
    obtain ⟨x, b⟩ := p
    rw [(mem_dnL.1 hp).1]; simp
  have d2 : (dnL k j).filter (fun p => p.2) = dnL k j := List.filter_eq_self.2 fun p hp => by
    obtain ⟨x, b⟩ := p
    rw [(mem_dnL.1 hp).1]
  constructor
  · rw [cnF, List.filter_append, u1, d1, List.append_nil]; simp [upL]
  · rw [cnT, List.filter_append, u2, d2]; simp [dnL]
/-- What 'reached' tells. -/
def reachB (s : ST) (m : List (Int × Bool)) : Bool := if s.state = 3 then decide ((cnF m : Int) = s.steps ∧ cnT m = 0) else decide (s.state ≠ 4 ∨ (cnF m = cnT m ∧ (cnF m : Int) < s.steps))
set_option maxRecDepth 100000 in
set_option maxHeartbeats 4000000 in
theorem kReached_ok {w : World} {Pp : Nat} {lg l : Value} {ea : Option Addr} {ec : Nat} {at' : Int} {eff : List CL} (s : ST) (h : w.heap[Pp]? = some (.cells #[lg, .slice ea eff.length ec, l, .int .i64 at'] 48 (0, 0))) (hl : RowsOf w ea 4 (eff.map CL.cs)) (hn : eff.length ≤ 1000000) :
    Calls Tryz.prog 26 #[.pointer (some ⟨Pp, 0, none⟩), .agg s.cs.toArray] w fun e w' => e = .returned (.bool (reachB s (mine s.id eff))) ∧ Fr (fun _ => False) w w' := by
  obtain ⟨sid, s1, s2, sn, st, sd⟩ := s
  obtain ⟨W, HW⟩ : ∃ W, Hid (W = w.alloc (.cells #[.int .i64 sid, .int .i64 s1, .int .i64 s2, .int .i64 sn, .int .i64 st, .int .i64 sd] 42)) := ⟨_, rfl⟩
  have hfa : Fr (fun _ => False) w W := by rw [HW.out]; exact (Fr.refl _ _).alloc _
  have hbx : W.heap[w.heap.size]? = some (.cells #[.int .i64 sid, .int .i64 s1, .int .i64 s2, .int .i64 sn, .int .i64 st, .int .i64 sd] 42 (0, 0)) := by rw [HW.out]; exact heap_alloc_at _ _
  obtain ⟨N, hN⟩ : ∃ N, N = eff.length := ⟨_, rfl⟩
  rw [← hN] at h hn
  obtain ⟨B, hB⟩ : ∃ B, B = w.heap.size := ⟨_, rfl⟩
  rw [← hB] at hbx
  have HF : Hid (Fr (fun _ => False) w W ∧ W.heap[B]? = some (.cells #[.int .i64 sid, .int .i64 s1, .int .i64 s2, .int .i64 sn, .int .i64 st, .int .i64 sd] 42 (0, 0)) ∧ RowsOf w ea 4 (eff.map CL.cs) ∧ W.heap[Pp]? = some (.cells #[lg, .slice ea N ec, l, .int .i64 at'] 48 (0, 0)) ∧ N = eff.length) := ⟨hfa, hbx, hl, hfa.keep h (fun h => h), hN⟩
  have HBB : Hid (w.heap.size = B) := hB.symm
  clear hfa hbx hl h hN hB
  unfold ST.cs
  go_enter Tryz.func26, Tryz.ntmps26
  go_wp2
  rw [← HW.out, HBB.out] at *
  clear HW
  go_loopw [5, 6, 7] (fun tv bk c wr => ∃ i : Nat, i ≤ N ∧ c = .int .i64 i ∧ tv = .int .i64 (cnF (mine sid (eff.take i))) ∧ bk = .int .i64 (cnT (mine sid (eff.take i))) ∧ Hid (Fr (fun _ => False) W wr)) (fun _ _ c _ => N - (intOf c).toNat)
  case atStart => exact ⟨0, Nat.zero_le _, rfl, rfl, rfl, Fr.refl _ _⟩
  case round =>
    obtain ⟨i, hi, rfl, rfl, rfl, HR⟩ := hrel
    have p1 : wr.cell? ⟨Pp, 1, none⟩ = some (.slice ea N ec) := (cell_of_row _ Pp 1 _ _ _ (HR.out.keep HF.out.2.2.2.1 (fun h => h))).trans rfl
    have hbw := HR.out.keep HF.out.2.1 (fun h => h)
    have b0 : wr.cell? ⟨B, 0, none⟩ = some (.int .i64 sid) := (cell_of_row _ B 0 _ _ _ hbw).trans rfl
    have b1 : wr.cell? ⟨B, 1, none⟩ = some (.int .i64 s1) := (cell_of_row _ B 1 _ _ _ hbw).trans rfl
    have b3 : wr.cell? ⟨B, 3, none⟩ = some (.int .i64 sn) := (cell_of_row _ B 3 _ _ _ hbw).trans rfl
    have hcl : (cnF (mine sid (eff.take i)) : Int) ≤ 1000000 ∧ (cnT (mine sid (eff.take i)) : Int) ≤ 1000000 := by
      have h1 := cn_le (mine sid (eff.take i))
      have h2 := mine_le sid (eff.take i)
      rw [List.length_take] at h2
      omega
    clear hbw
    by_cases hlt : i < N
    · have hlt' : (i : Int) < N := by omega
      obtain ⟨c, hc⟩ : ∃ c, eff[i]? = some c := ⟨_, List.getElem?_eq_getElem (by rw [← HF.out.2.2.2.2]; exact hlt)⟩
      obtain ⟨g, off, rfl, hr⟩ := HF.out.2.2.1 i c.cs (by simp [hc])
      have hF2 := HF.out.1.trans HR.out (fun _ _ h => h)
      have c0 : wr.cell? ⟨g, off + i * 4, none⟩ = some (.int .i64 c.saga) := hF2.cell (hr 0 _ rfl) (fun h => h)
      have c2 : wr.cell? ⟨g, off + i * 4 + 2, none⟩ = some (.bool c.back) := hF2.cell (hr 2 _ rfl) (fun h => h)
      have HM : Hid (mine sid (eff.take (i + 1)) = if c.saga = sid then mine sid (eff.take i) ++ [(c.step, c.back)] else mine sid (eff.take i)) := by
        show _ = _
        rw [List.take_add_one, hc]
        exact mine_snoc _ _ _
      have HCN := cn_snoc (mine sid (eff.take i)) c.step c.back
      have HC2 : Hid (cnF (mine sid (eff.take i) ++ [(c.step, c.back)]) = cnF (mine sid (eff.take i)) + (if c.back then 0 else 1) ∧ cnT (mine sid (eff.take i) ++ [(c.step, c.back)]) = cnT (mine sid (eff.take i)) + (if c.back then 1 else 0)) := HCN
      clear hc hr hF2 HCN
      obtain ⟨nf, hnf⟩ : ∃ nf, cnF (mine sid (eff.take i)) = nf := ⟨_, rfl⟩
      obtain ⟨nt, hnt⟩ : ∃ nt, cnT (mine sid (eff.take i)) = nt := ⟨_, rfl⟩
      rw [hnf, hnt] at HC2 hcl ⊢
      have HNN : Hid (cnF (mine sid (eff.take i)) = nf ∧ cnT (mine sid (eff.take i)) = nt) := ⟨hnf, hnt⟩
      clear hnf hnt
      obtain ⟨hcl1, hcl2⟩ := hcl
      have ef : wrap64 ((nf : Int) + 1) = (nf : Int) + 1 := by unfold wrap64; omega
      have et : wrap64 ((nt : Int) + 1) = (nt : Int) + 1 := by unfold wrap64; omega
      by_cases hid : c.saga = sid
      · cases hbk : c.back
        · have HB2 : Hid (c.back = false) := hbk
          rw [hbk] at c2
          clear hbk
          have HID : Hid (c.saga = sid) := hid
          go_wp2
          refine wp_region_still_lit (by kernel_rfl) (by kernel_rfl) (Bx.out ?_)
          repeat (refine bx_step (fun K hK => ?_); go_simp; refine hK _ ?_; clear hK K)
          refine bx_nil ?_
          obtain ⟨W2, HW2⟩ : ∃ W2, Hid (W2 = wr.drew) := ⟨_, rfl⟩
          rw [show ({ heap := wr.heap, tape := wr.tape, drawn := wr.drawn + 1, os := wr.os, output := wr.output } : World) = W2 from HW2.out.symm]
          have hfW2 : Fr (fun _ => False) wr W2 := by rw [HW2.out]; exact (Fr.refl _ _).drew
          have HRW2 : Hid (Fr (fun _ => False) W W2) := HR.out.trans hfW2 (fun _ _ h => h)
          replace p1 := hfW2.cell p1 (fun h => h)
          replace b0 := hfW2.cell b0 (fun h => h)
          replace c0 := hfW2.cell c0 (fun h => h)
          clear hfW2 HW2 b1 b3 c2
          go_wp2
          refine wp_region_still_lit (by kernel_rfl) (by kernel_rfl) (Bx.out ?_)
          repeat (refine bx_step (fun K hK => ?_); go_simp; refine hK _ ?_; clear hK K)
          refine bx_nil ?_
          obtain ⟨W3, HW3⟩ : ∃ W3, Hid (W3 = W2.drew) := ⟨_, rfl⟩
          rw [show ({ heap := W2.heap, tape := W2.tape, drawn := W2.drawn + 1, os := W2.os, output := W2.output } : World) = W3 from HW3.out.symm]
          have hfW3 : Fr (fun _ => False) W2 W3 := by rw [HW3.out]; exact (Fr.refl _ _).drew
          have HRW3 : Hid (Fr (fun _ => False) W W3) := HRW2.out.trans hfW3 (fun _ _ h => h)
          clear hfW3 HW3 p1 b0 c0
          go_wp2
          go_roundw
          case rel =>
            exact ⟨i + 1, by omega, by go_num, by rw [HM.out, if_pos HID.out, HC2.out.1, HB2.out]; push_cast; rfl, by rw [HM.out, if_pos HID.out, HC2.out.2, HB2.out]; rfl, HRW3⟩
          case measure => simp [intOf]; omega
        · have HB2 : Hid (c.back = true) := hbk
          rw [hbk] at c2
          clear hbk
          have HID : Hid (c.saga = sid) := hid
          go_wp2
          refine wp_region_still_lit (by kernel_rfl) (by kernel_rfl) (Bx.out ?_)
          repeat (refine bx_step (fun K hK => ?_); go_simp; refine hK _ ?_; clear hK K)
          refine bx_nil ?_
          obtain ⟨W2, HW2⟩ : ∃ W2, Hid (W2 = wr.drew) := ⟨_, rfl⟩
          rw [show ({ heap := wr.heap, tape := wr.tape, drawn := wr.drawn + 1, os := wr.os, output := wr.output } : World) = W2 from HW2.out.symm]
          have hfW2 : Fr (fun _ => False) wr W2 := by rw [HW2.out]; exact (Fr.refl _ _).drew
          have HRW2 : Hid (Fr (fun _ => False) W W2) := HR.out.trans hfW2 (fun _ _ h => h)
          clear hfW2 HW2 p1 b0 c0 b1 b3 c2
          go_wp2
          go_roundw
          case rel =>
            exact ⟨i + 1, by omega, by go_num, by rw [HM.out, if_pos HID.out, HC2.out.1, HB2.out]; rfl, by rw [HM.out, if_pos HID.out, HC2.out.2, HB2.out]; push_cast; rfl, HRW2⟩
          case measure => simp [intOf]; omega
      · have HID : Hid (¬ c.saga = sid) := hid
        have hidb : (c.saga == sid) = false := by simpa using hid
        clear hid
        go_wp2
        refine wp_region_still_lit (by kernel_rfl) (by kernel_rfl) (Bx.out ?_)
        repeat (refine bx_step (fun K hK => ?_); go_simp; refine hK _ ?_; clear hK K)
        refine bx_nil ?_
        obtain ⟨W2, HW2⟩ : ∃ W2, Hid (W2 = wr.drew) := ⟨_, rfl⟩
        rw [show ({ heap := wr.heap, tape := wr.tape, drawn := wr.drawn + 1, os := wr.os, output := wr.output } : World) = W2 from HW2.out.symm]
        have hfW2 : Fr (fun _ => False) wr W2 := by rw [HW2.out]; exact (Fr.refl _ _).drew
        have HRW2 : Hid (Fr (fun _ => False) W W2) := HR.out.trans hfW2 (fun _ _ h => h)
        replace p1 := hfW2.cell p1 (fun h => h)
        replace b0 := hfW2.cell b0 (fun h => h)
        replace c0 := hfW2.cell c0 (fun h => h)
        clear hfW2 HW2 b1 b3 c2
        go_wp2
        refine wp_region_still_lit (by kernel_rfl) (by kernel_rfl) (Bx.out ?_)
        repeat (refine bx_step (fun K hK => ?_); go_simp; refine hK _ ?_; clear hK K)
        refine bx_nil ?_
        obtain ⟨W3, HW3⟩ : ∃ W3, Hid (W3 = W2.drew) := ⟨_, rfl⟩
        rw [show ({ heap := W2.heap, tape := W2.tape, drawn := W2.drawn + 1, os := W2.os, output := W2.output } : World) = W3 from HW3.out.symm]
        have hfW3 : Fr (fun _ => False) W2 W3 := by rw [HW3.out]; exact (Fr.refl _ _).drew
        have HRW3 : Hid (Fr (fun _ => False) W W3) := HRW2.out.trans hfW3 (fun _ _ h => h)
        clear hfW3 HW3 p1 b0 c0
        go_wp2
        go_roundw
        case rel =>
          exact ⟨i + 1, by omega, by go_num, by rw [HM.out, if_neg HID.out, HNN.out.1], by rw [HM.out, if_neg HID.out, HNN.out.2], HRW3⟩
        case measure => simp [intOf]; omega
    · have hiN : i = N := by omega
      have he : mine sid (eff.take i) = mine sid eff := by rw [hiN, HF.out.2.2.2.2, List.take_length]
      have HFF : Hid (Fr (fun _ => False) w wr) := HF.out.1.trans HR.out (fun _ _ h => h)
      rw [he] at hcl ⊢
      clear he
      obtain ⟨nf, hnf⟩ : ∃ nf, cnF (mine sid eff) = nf := ⟨_, rfl⟩
      obtain ⟨nt, hnt⟩ : ∃ nt, cnT (mine sid eff) = nt := ⟨_, rfl⟩
      rw [hnf, hnt]
      have HNN : Hid (cnF (mine sid eff) = nf ∧ cnT (mine sid eff) = nt) := ⟨hnf, hnt⟩
      clear hnf hnt hcl
      by_cases hs3 : s1 = 3
      · subst hs3
        have HRB : Hid (reachB ⟨sid, 3, s2, sn, st, sd⟩ (mine sid eff) = decide ((nf : Int) = sn ∧ nt = 0)) := by show reachB _ _ = _; rw [reachB, if_pos rfl, HNN.out.1, HNN.out.2]
        by_cases h1 : (nf : Int) = sn
        · have h1b : ((nf : Int) == sn) = true := by simpa using h1
          by_cases h2 : nt = 0
          · subst h2
            go_wp2
            go_ret
            refine ⟨?_, HFF.out⟩
            rw [HRB.out, decide_eq_true (by simp [h1])]
            rfl
          · have h2b : ((nt : Int) == 0) = false := by simpa using h2
            go_wp2
            go_ret
            refine ⟨?_, HFF.out⟩
            rw [HRB.out, decide_eq_false (fun h => h2 h.2)]
            rfl
        · have h1b : ((nf : Int) == sn) = false := by simpa using h1
          go_wp2
          go_ret
          refine ⟨?_, HFF.out⟩
          rw [HRB.out, decide_eq_false (fun h => h1 h.1)]
          rfl
      · have hs3b : (s1 == 3) = false := by simpa using hs3
        by_cases hs4 : s1 = 4
        · subst hs4
          have HRB : Hid (reachB ⟨sid, 4, s2, sn, st, sd⟩ (mine sid eff) = decide (nf = nt ∧ (nf : Int) < sn)) := by show reachB _ _ = _; rw [reachB, if_neg (show ¬ (4 : Int) = 3 by decide), HNN.out.1, HNN.out.2]; simp
          by_cases h1 : nf = nt
          · subst h1
            by_cases h2 : (nf : Int) < sn
            · go_wp2
              go_ret
              refine ⟨?_, HFF.out⟩
              rw [HRB.out, decide_eq_true (by simp [h2])]
              rfl
            · have h2b : decide ((nf : Int) < sn) = false := by simpa using h2
              go_wp2
              go_ret
              refine ⟨?_, HFF.out⟩
              rw [HRB.out, decide_eq_false (fun h => by have := h.2; omega)]
              rfl
          · have h1b : ((nf : Int) == nt) = false := by simp; omega
            go_wp2
            go_ret
            refine ⟨?_, HFF.out⟩
            rw [HRB.out, decide_eq_false (fun h => h1 h.1)]
            rfl
        · have HRB : Hid (reachB ⟨sid, s1, s2, sn, st, sd⟩ (mine sid eff) = true) := by show reachB _ _ = _; rw [reachB, if_neg hs3]; exact decide_eq_true (.inl hs4)
          have hs4b : (s1 == 4) = false := by simpa using hs4
          go_wp2
          go_ret
          refine ⟨?_, HFF.out⟩
          rw [HRB.out]
          rfl
end Go.Proofs.YteebjgfalllbjaaGreatDoor
