import Derived.Test.YteebjgfalllbjaaGreatDoorCKtKfKg
import Derived.Lib.AppendZerosOnto
namespace Go.Proofs.YteebjgfalllbjaaGreatDoor
open Go.RowKit
theorem err0 {w : World} {v : Value} (h : ErrAt w v 0) : v = .nilIface := by
  rcases h with ⟨rfl, _⟩ | ⟨_, _, _, _, h⟩
  · rfl
  · exact absurd rfl h
theorem scells_at (st : List SS) (i : Nat) (p : SS) (h : st[i]? = some p) (j : Nat) (v : Value) (hv : (stv p)[j]? = some v) : (scells st)[i * 2 + j]? = some v := by
  induction st generalizing i with
  | nil => simp at h
  | cons a st ih =>
    have hj : j < 2 := (List.getElem?_eq_some_iff.1 hv).1
    have e : scells (a :: st) = stv a ++ scells st := rfl
    have e2 : (stv a).length = 2 := rfl
    rw [e]
    cases i with
    | zero =>
      obtain rfl : a = p := by simpa using h
      rw [List.getElem?_append_left (by rw [e2]; omega), Nat.zero_mul, Nat.zero_add]
      exact hv
    | succ i =>
      rw [List.getElem?_append_right (by rw [e2]; omega), e2, show (i + 1) * 2 + j - 2 = i * 2 + j by omega]
      exact ih i (by simpa using h)
theorem own_rowsS {W : World} {b0 : Nat} {ao : Option Addr} {n cap : Nat} {st : List SS} (h : W.ownsRow b0 58 2 (.slice ao n cap) n (scells st)) : RowsOf W ao 2 (st.map stv) := by
  intro i r hr
  rw [List.getElem?_map] at hr
  obtain ⟨c, hc, rfl⟩ := Option.map_eq_some_iff.1 hr
  have hi := (List.getElem?_eq_some_iff.1 hc).1
  have hlen := h.1
  rcases h.2 with ⟨hv, hn⟩ | ⟨g, cap', cur, hv, _, hg, _, _, _, hx⟩
  · rw [scells_len, hn] at hlen; omega
  · cases hv
    refine ⟨g, 0, rfl, fun j v hj => ?_⟩
    refine (cell_of_row W g _ _ _ _ hg).trans ?_
    have h1 := scells_at st i c hc j v hj
    rw [← hx, List.getElem?_take] at h1
    split at h1
    · rw [Nat.zero_add]; simpa using h1
    · cases h1
theorem own_someS {W : World} {b0 : Nat} {ao : Option Addr} {n cap size : Nat} {t : TypeId} {xs : List Value} (h : W.ownsRow b0 t size (.slice ao n cap) n xs) (hn : 1 ≤ n) : ∃ g, ao = some ⟨g, 0, none⟩ := by
  rcases h.2 with ⟨_, h0⟩ | ⟨g, cap', cur, hv, _⟩
  · omega
  · cases hv; exact ⟨g, rfl⟩
theorem kst_ok {id n : Nat} {k : Int} (h1 : 1 ≤ n) (h6 : n ≤ 6) (hk1 : 1 ≤ k) (hk2 : k ≤ 1000) : sagaOk k (kst id n) = true := by
  refine decide_eq_true ⟨hk1, hk2, by rw [kst_len]; exact h1, by rw [kst_len]; exact h6, fun p hp => ?_⟩
  have := kst_8 id n p hp
  omega
/-- A disk with an empty journal and an engine on it. -/
def BegunQ (w : World) (n Pp : Nat) (pause : Int) (e : Ending) (w' : World) : Prop := ∃ X A B F, e = .returned (.tuple #[.pointer (some ⟨A, 0, none⟩), .pointer (some ⟨X, 0, none⟩)]) ∧ EN w' 1 X A B n 0 pause (askV Pp) [] [] F ∧ FU w' F ∧ (∀ b, F b → w.heap.size ≤ b) ∧ w.heap.size ≤ A ∧ w.heap.size ≤ B ∧ Fr (fun _ => False) w w'
/-- What a saga of one step makes of a partner that does all. -/
theorem one_tick {Pq b0 : Nat} (pause : Int) : tickL (ptn (ask_nil_ok (Pp := Pq) (b0 := b0))) 1 pause [newA 5 (kst 5 1)] ⟨[], [], 0⟩ = ([⟨5, kst 5 1, (3, 0), 0, 0⟩], ⟨[((newA 5 (kst 5 1)).asks, 0)], [(newA 5 (kst 5 1)).asks], 0⟩, [(5, 0)]) := by
  have ho : (newA 5 (kst 5 1)).open ∧ (newA 5 (kst 5 1)).due ≤ 1 := ⟨.inl rfl, by decide⟩
  have ha : (ptn (ask_nil_ok (Pp := Pq) (b0 := b0))).ask ⟨[], [], 0⟩ (newA 5 (kst 5 1)).asks = (0, ⟨[((newA 5 (kst 5 1)).asks, 0)], [(newA 5 (kst 5 1)).asks], 0⟩) := rfl
  have hm : (newA 5 (kst 5 1)).moves (0 : Nat) = true := by simp [AS.moves]
  have hg : (newA 5 (kst 5 1)).go (0 : Nat) = ⟨5, kst 5 1, (3, 0), 0, 0⟩ := by simp [AS.go, AS.next, newA, kst_len]
  simp only [tickL, tickOne, if_pos ho, ha, AS.after, hm, if_true, hg]
  rfl
set_option maxRecDepth 100000 in
set_option maxHeartbeats 4000000 in
theorem kBegun_ok (w : World) (n Pp : Nat) (pause : Int) (n8 : 8 ≤ n) (n4 : n ≤ 400) (hp1 : 1 ≤ pause) (hp2 : pause ≤ 64) : Calls Tryz.prog 20 #[.int .i64 n, .pointer (some ⟨Pp, 0, none⟩), .int .i64 pause] w fun e w' => BegunQ w n Pp pause e w' := by
  go_enter Tryz.func20, Tryz.ntmps20
  go_wp2_with fail
  refine (NewDisk_ok 20 w).mono ?_
  rintro e w1 ⟨A, B, rfl, hA, hB, hd, hr, hf1⟩
  have e20 : nblk 20 = 20 := by decide
  rw [e20] at hd hr
  go_wp2_with fail
  refine (NewPartner_rows (rl := []) (World.ownsRow_nil w1 0 _ _) (by decide)).mono ?_
  rintro e w2 ⟨Pq, lv, rfl, hPq, hpr, hlv, hf2⟩
  have hF2 : Fr (fun _ => False) w w2 := hf1.trans hf2 (fun _ _ h => h)
  have hd2 := hd.fr hf2 id
  have hr2 : RowsAt w2 B 20 _ := ⟨hf2.keep hr.1 id, hr.2⟩
  have hz1 := hf1.size
  have hz2 := hf2.size
  clear hd hr hf1 hf2 e20
  go_wp2_with fail
  refine (pFormat_ok hd2 hr2 (by omega) (by omega) (by omega) (by omega) (by decide) (by decide)).mono ?_
  rintro e w3 ⟨v3, rfl, hv3, bs3, hd3, hr3, rfl, hf3⟩
  obtain rfl := err0 hv3
  have nPA : Pq ≠ A := fun e => by have := hpr.p; rw [e] at this; have := this.symm.trans hd2; simp [dcells] at this
  have nPB : Pq ≠ B := fun e => by have := hpr.p; rw [e] at this; have := this.symm.trans hr2.1; simp at this
  have hF3 : Fr (fun _ => False) w w3 := hF2.trans hf3 (fun b _ h => by omega)
  have hfo : ∀ b, PartF Pq (.slice none 0 0) (.slice none 0 0) lv b → b ≠ A ∧ b ≠ B := fun b hb => by
    obtain ⟨c, t, hc, ht⟩ := hpr.ty hb
    unfold PT at ht
    refine ⟨fun e => ?_, fun e => ?_⟩
    · rw [e] at hc; have := hc.symm.trans hd2; simp [dcells] at this; rw [this.2] at ht; revert ht; decide
    · rw [e] at hc; have := hc.symm.trans hr2.1; simp at this; rw [this.2] at ht; revert ht; decide
  have hpr3 := hpr.fr hf3 (fun b hb h => by have := hfo b hb; omega)
  have hsz2 := hf3.size
  clear hd2 hr2 hf3 hv3 hF2
  go_wp2_with fail
  refine (open0 (Pp := Pq) 1 (by decide) (by decide) hd3 hr3 (by omega) (by decide) (by omega) (by decide) (by decide) (by decide)).mono ?_
  rintro e w4 ⟨X1, F1, rfl, hE4, hU4, hFn4, hf4⟩
  have hF4 : Fr (fun _ => False) w w4 := hF3.trans hf4 (fun b _ h => by omega)
  have hpr4 := hpr3.fr hf4 (fun b hb h => by have := hfo b hb; omega)
  have hsz3 := hF3.size
  have hsz34 := hf4.size
  clear hd3 hr3 hf4 hF3 hpr hpr3
  go_wp2_with fail
  refine (kSteps_ok w4 5 1 (by decide) (by decide)).mono ?_
  rintro e w5 ⟨ao, cap, rfl, hks⟩
  obtain ⟨g, rfl⟩ := own_someS hks.2 (Nat.le_refl _)
  have hE5 := hE4.fr hks.1 id id (fun _ _ => id)
  have hU5 : FU w5 F1 := fun b hb => by obtain ⟨c, t, hc, ht⟩ := hU4 b hb; exact ⟨c, t, hks.1.keep hc id, ht⟩
  have hpr5 := hpr4.fr hks.1 (fun _ _ => id)
  have hF5 := hF4.trans hks.1 (fun _ _ h => h)
  have hrows := own_rowsS hks.2
  have hsz4 := hks.1.size
  clear hks hE4 hU4 hpr4
  go_wp2_with fail
  have HS := hE5.sub (by decide) 5 (kst 5 1) cap hrows (fun _ => ⟨g, rfl⟩)
  rw [kst_len] at HS
  refine HS.mono ?_
  rintro e w6 ⟨v6, k6, L6, rs6, F6, rfl, hv6, hS6, hn6, hU6, hE6, hf6⟩
  obtain ⟨rfl, rfl, rfl⟩ : k6 = 0 ∧ L6 = [newA 5 (kst 5 1)] ∧ rs6 = [Rec.take 5 (kst 5 1)] := by
    rcases hS6 with ⟨h, _⟩ | ⟨_, a, ha, _⟩ | ⟨_, _, ⟨h1, h2, h3⟩ | ⟨_, h, _⟩⟩
    · rw [kst_ok (by decide) (by decide) (by decide) (by decide)] at h; cases h
    · cases ha
    · exact ⟨h1, h2, h3⟩
    · rw [kst_len] at h; simp at h
  obtain rfl := err0 hv6
  have hpF6 : ∀ b, PartF Pq (.slice none 0 0) (.slice none 0 0) lv b → ¬ (b = A ∨ b = B ∨ F1 b) := fun b hb h => by
    have h1 := hfo b hb
    rcases h with h | h | h
    · exact h1.1 h
    · exact h1.2 h
    · obtain ⟨c, t, hc, ht⟩ := hpr5.ty hb
      exact hU5.ne hc (by intro hu; unfold EngU at hu; unfold PT at ht; rcases ht with rfl | rfl | rfl | rfl <;> revert hu <;> decide) h
  have hpr6 := hpr5.fr hf6 hpF6
  have hF6 : Fr (fun _ => False) w w6 := hF5.trans hf6 (fun b hb h => by
    rcases h with h | h | h
    · omega
    · omega
    · have := hFn4 b h; have := hF4.size; omega)
  have hn6' : ∀ b, F6 b → w.heap.size ≤ b := fun b hb => by
    rcases hn6 b hb with h | h
    · have := hFn4 b h; have := hF4.size; omega
    · have := hF5.size; omega
  have hP6 : PrtI Pq w1.heap.size [] ⟨[], [], 0⟩ (PartF Pq (.slice none 0 0) (.slice none 0 0) lv) w6 := ⟨by have := hf6.size; omega, _, _, _, hpr6, fun _ => Iff.rfl⟩
  have HT := hE6.tick (ptn ask_nil_ok) (s0 := (⟨[], [], 0⟩ : PSt)) (by decide) (by decide) (by decide) (by decide) hP6 (by show max (max 0 0) 0 + 1 ≤ 1000000; decide)
  clear HS hS6 hv6 hf6 hpr5 hpr6 hE5 hU5 hF5 hrows hn6 hpF6
  go_wp2_with fail
  refine HT.mono ?_
  rintro e w7 ⟨rfl, F7, hn7, hU7, hE7, ⟨F0', hP7, hn07⟩, hf7⟩
  rw [show (0 : Int) + 1 = 1 from rfl, one_tick] at hE7 hP7
  have hF7 : Fr (fun _ => False) w w7 := hF6.trans hf7 (fun b hb h => by
    rcases h with h | h | h | h
    · omega
    · omega
    · have := hn6' b h; omega
    · rcases h with h | h | h | h
      · omega
      · cases h
      · cases h
      · have := hlv b h; omega)
  obtain ⟨_, lg7, ef7, l7, hpr7, _⟩ := hP7
  clear HT hE6 hf7 hF6 hP6 hn7 hn07
  go_wp2_with fail
  refine (hE7.sta 5).mono ?_
  rintro e w8 ⟨s8, v8, rfl, hf8, hc8⟩
  obtain ⟨rfl, hv8⟩ : s8 = ⟨5, 3, 0, 1, 0, 0⟩ ∧ ErrAt w8 v8 0 := by
    rcases hc8 with ⟨a, ha, _, rfl, h⟩ | ⟨h, _⟩
    · obtain rfl := List.mem_singleton.1 ha
      exact ⟨rfl, h⟩
    · exact absurd rfl (h _ (List.mem_singleton.2 rfl))
  obtain rfl := err0 hv8
  obtain ⟨ae, ce, rfl⟩ : ∃ ae ce, ef7 = .slice ae 1 ce := by
    rcases hpr7.eo.2 with ⟨_, h⟩ | ⟨g', cap', cur, h, _⟩
    · cases h
    · exact ⟨_, _, h⟩
  have hq8 : (w8.alloc (.cells #[.int .i64 5, .int .i64 3, .int .i64 0, .int .i64 1, .int .i64 0, .int .i64 0] 42)).cell? ⟨Pq, 1, none⟩ = some (.slice ae 1 ce) := (cell_of_row _ Pq 1 _ _ _ (((Fr.refl (fun _ => False) w8).alloc _).keep (hf8.keep hpr7.p id) id)).trans rfl
  have hF8 : Fr (fun _ => False) w w8 := hF7.trans hf8 (fun _ _ h => h)
  have hF9 : Fr (fun _ => False) w (w8.alloc (.cells #[.int .i64 5, .int .i64 3, .int .i64 0, .int .i64 1, .int .i64 0, .int .i64 0] 42)) := hF8.alloc _
  clear hc8 hv8 hf8 hF7 hE7 hU7 hpr7 hF8 hF4 hFn4 hfo hU6 hn6' hlv hPq
  unfold ST.cs
  go_wp2_with fail
  clear hq8
  generalize w8.alloc (.cells #[.int .i64 5, .int .i64 3, .int .i64 0, .int .i64 1, .int .i64 0, .int .i64 0] 42) = w9 at *
  refine (NewDisk_ok n w9).mono ?_
  rintro e w10 ⟨A2, B2, rfl, hA2, hB2, hd, hr, hf10⟩
  have en : nblk n = n := by unfold nblk; rw [if_neg (by omega)]; omega
  rw [en] at hd hr
  have hz9 := hF9.size
  have hF10 := hF9.trans hf10 (fun _ _ h => h)
  clear hf10
  go_wp2_with fail
  refine (pFormat_ok hd hr (by omega) (by omega) (by omega) (by omega) n8 n4).mono ?_
  rintro e w11 ⟨v11, rfl, hv11, bs11, hd11, hr11, rfl, hf11⟩
  obtain rfl := err0 hv11
  have hF11 : Fr (fun _ => False) w w11 := hF10.trans hf11 (fun b _ h => by omega)
  clear hf11 hd hr hF10
  go_wp2_with fail
  refine (open0 (Pp := Pp) pause hp1 hp2 hd11 hr11 (by omega) (by omega) (by omega) (by omega) n8 n4).mono ?_
  rintro e w12 ⟨X2, F2, rfl, hE12, hU12, hFn12, hf12⟩
  have HQ : Hid (BegunQ w n Pp pause (.returned (.tuple #[.pointer (some ⟨A2, 0, none⟩), .pointer (some ⟨X2, 0, none⟩)])) w12) := ⟨X2, A2, B2, F2, rfl, hE12, hU12, fun b hb => Nat.le_trans hF11.size (hFn12 b hb), by omega, by omega, hF11.trans hf12 (fun b _ h => by omega)⟩
  clear hE12 hU12 hFn12 hf12 hd11 hr11 hF11
  go_wp2
  go_ret2
  exact HQ.out
end Go.Proofs.YteebjgfalllbjaaGreatDoor
namespace Go.Proofs.YteebjgfalllbjaaGreatDoor
open Go.RowKit
theorem zeros_list (k : Nat) : (Builtin.zeroCells (Value.int .i64 0).cells k).toList = List.replicate k (Value.int .i64 0) := by
  apply List.ext_getElem?
  intro i
  have hs : (Builtin.zeroCells (Value.int .i64 0).cells k).size = k := by rw [size_zeroCells]; simp [Value.cells]
  by_cases h : i < k
  · rw [List.getElem?_replicate, if_pos h, Array.getElem?_toList, Array.getElem?_eq_getElem (by omega)]
    simp [Builtin.zeroCells, Value.cells, Nat.mod_one]
  · rw [List.getElem?_replicate, if_neg h, List.getElem?_eq_none (by rw [Array.length_toList]; omega)]
/-- 'append(s, make([]int, k)...)' on a row that is owned. -/
theorem run_own_zeros {w : World} {base : Nat} {i : TypeInfo} (hi : Tryz.prog.info? 3 = some i) (hz : i.zero = some (.int .i64 0)) (hs1 : i.size = 1) (hb8 : i.bytes = 8) {v : Value} {n k : Nat} {xs : List Value} (hown : w.ownsRow base 3 1 v n xs) (hk : 0 < k) (hn : n ≤ 1000) (hk2 : k ≤ 1000) (hbase : base ≤ w.heap.size) (ty : TypeId) :
    ∃ v' w', (Builtin.append_ #[24, 3] ty #[v, .int .i64 k]).run Tryz.prog w = .ok v' w' ∧ w'.ownsRow base 3 1 v' (n + k) (xs ++ List.replicate k (.int .i64 0)) ∧ w.grownBy w' v.ownBlock ∧ (∃ a c, v' = .slice a (n + k) c) := by
  have hlen : (xs ++ List.replicate k (Value.int .i64 0)).length = (n + k) * 1 := by rw [List.length_append, hown.1, List.length_replicate]; omega
  have hzl : ∀ k, (Builtin.zeroCells (Value.int .i64 0).cells k).toList = List.replicate k (Value.int .i64 0) := zeros_list
  have hzs : ∀ k, (Builtin.zeroCells (Value.int .i64 0).cells k).size = k := fun k => by rw [size_zeroCells]; simp [Value.cells]
  have grown : ∀ (old : Nat) (row : Option Nat),
      (w.drew.alloc (.cells (xs.toArray ++ Builtin.zeroCells (Value.int .i64 0).cells k ++ Builtin.zeroCells (Value.int .i64 0).cells (grownCap w (n + k) old 3 - (n + k))) 3)).ownsRow base 3 1
        (.slice (some ⟨w.heap.size, 0, none⟩) (n + k) (grownCap w (n + k) old 3)) (n + k) (xs ++ List.replicate k (.int .i64 0)) ∧
      w.grownBy (w.drew.alloc (.cells (xs.toArray ++ Builtin.zeroCells (Value.int .i64 0).cells k ++ Builtin.zeroCells (Value.int .i64 0).cells (grownCap w (n + k) old 3 - (n + k))) 3)) row := by
    intro old row
    have hge := grownCap_ge w (n + k) old 3
    have hcm : grownCap w (n + k) old 3 ≤ maxLen := grownCap_le_maxLen w (n + k) old 3 (by simp only [maxLen]; omega)
    have hx1 := hown.1
    refine ⟨⟨hlen, .inr ⟨w.heap.size, _, _, rfl, hbase, heap_alloc_new w.drew _, hge, hcm, ?_, ?_⟩⟩, ⟨rfl, rfl, rfl, by simp, fun k hk _ => heap_alloc_old w.drew _ hk⟩⟩
    · simp only [Array.size_append, List.size_toArray, hzs]
      omega
    · simp only [Array.toList_append, hzl, List.append_assoc]
      rw [← List.append_assoc, ← hlen]
      exact List.take_left
  have h48 : k * i.bytes ≤ 281474976710656 := by rw [hb8]; omega
  rcases hown.2 with ⟨rfl, rfl⟩ | ⟨g, cap, cur, rfl, hbg, hg, hnc, hcm, hcs, htake⟩
  · have hx : xs = [] := List.eq_nil_of_length_eq_zero (by simpa using hown.1)
    subst hx
    have hr := Lib.run_append_nil_zeros (P := Tryz.prog) w 24 3 ty 3 i (.int .i64 0) .i64 .i64 Tryz.underlying24 Tryz.underlying3 hi hz k hk (by omega) (by omega) h48
    have hgr := grown 0 (Value.ownBlock (.slice none 0 0))
    simp only [Nat.zero_add, List.nil_append, Array.empty_append] at hgr ⊢
    exact ⟨_, _, hr, hgr.1, hgr.2, _, _, rfl⟩
  · by_cases hroom : n + k ≤ cap
    · have hst := run_storeCells_at Tryz.prog g (n * i.size) 3 (Builtin.zeroCells (Value.int .i64 0).cells k).toList 0 cur w hg (by rw [hzl, List.length_replicate, hs1, hcs]; omega) (by rw [hzl]; intro u hu; rw [(List.mem_replicate.1 hu).2]; rfl)
      have hw : IntKind.i64.wrap (k : Int) = k := by rw [IntKind.wrap_i64]; omega
      have hneg : ¬ ((k : Int) < 0) := by omega
      have h48i : ¬ (281474976710656 < (k : Int) * (i.bytes : Int)) := by rw [hb8]; omega
      have hns : ¬ k * i.size = 0 := by rw [hs1]; omega
      simp only [Nat.add_zero] at hst
      have hr : (Builtin.append_ #[24, 3] ty #[.slice (some ⟨g, 0, none⟩) n cap, .int .i64 k]).run Tryz.prog w = .ok (.slice (some ⟨g, 0, none⟩) (n + k) cap) (w.setRow g (cur.toList.take (n * i.size) ++ (Builtin.zeroCells (Value.int .i64 0).cells k).toList ++ cur.toList.drop (n * i.size + (Builtin.zeroCells (Value.int .i64 0).cells k).toList.length)).toArray) := by
        simp [Builtin.append_, run_underlying Tryz.underlying24, run_underlying Tryz.underlying3, sizeOf, typeInfo, zeroValue, hi, hz, asInt, asIntOf, hw, hneg, h48i, hroom, hns, Addr.add_lit, hst]
      refine ⟨_, _, hr, ⟨hlen, .inr ⟨g, cap, _, rfl, hbg, setRow_heap w g cur _ 3 _ hg, hroom, hcm, ?_, ?_⟩⟩, ⟨rfl, rfl, rfl, by simp, fun k _ hk => setRow_other w g k _ (fun e => hk (by simp [Value.ownBlock, e]))⟩, _, _, rfl⟩
      · simp only [List.size_toArray, List.length_append, List.length_take, List.length_drop, Array.length_toList, hzl, List.length_replicate, hs1]
        omega
      · rw [hs1, htake, hzl, ← hlen]
        exact List.take_left
    · have holds : (Builtin.firstCells i.size n (.slice (some ⟨g, 0, none⟩) n cap)).run Tryz.prog w.drew = .ok xs.toArray w.drew := run_firstCells_some (P := Tryz.prog) w.drew i.size n ⟨g, 0, none⟩ n cap xs (by rw [hs1]; exact hown.1) (hown.cells (g := g) rfl)
      have hr := Lib.run_append_grow_zeros (P := Tryz.prog) w 24 3 ty 3 i (.int .i64 0) .i64 .i64 Tryz.underlying24 Tryz.underlying3 hi hz (some ⟨g, 0, none⟩) n cap xs holds k hk (by omega) (by omega) (by omega) h48 (growslice_fits (by omega) (by rw [hb8]; omega))
      have hgr := grown cap (Value.ownBlock (.slice (some ⟨g, 0, none⟩) n cap))
      exact ⟨_, _, hr, hgr.1, hgr.2, _, _, rfl⟩
end Go.Proofs.YteebjgfalllbjaaGreatDoor
namespace Go.Proofs.YteebjgfalllbjaaGreatDoor
open Go.RowKit
def nvr (log : List (CL × Nat)) : Bool := log.any (fun p => decide (p.2 = 2))
theorem logC_get (l : List (CL × Nat)) (i : Nat) (p : CL × Nat) (h : l[i]? = some p) : (logC l)[i * 5 + 4]? = some (.int .i64 p.2) := by
  induction l generalizing i with
  | nil => simp at h
  | cons a l ih =>
    have e : logC (a :: l) = (a.1.cs ++ [Value.int .i64 a.2]) ++ logC l := rfl
    have e5 : (a.1.cs ++ [Value.int .i64 a.2]).length = 5 := rfl
    rw [e]
    cases i with
    | zero =>
      obtain rfl : a = p := by simpa using h
      rw [List.getElem?_append_left (by rw [e5]; omega)]
      rfl
    | succ i =>
      rw [List.getElem?_append_right (by rw [e5]; omega), e5, show (i + 1) * 5 + 4 - 5 = i * 5 + 4 by omega]
      exact ih i (by simpa using h)
/-- While a saga's ticks are made. -/
structure EndI (w0 : World) (Pp b0 X A B Z : Nat) (r : List Int) (pause : Int) (k t : Nat) (a : AS) (s : PSt) (W : World) : Prop where
  e : ∃ rs F, EN W (t + 3) X A B 60 t pause (askV Pp) [a] rs F ∧ FU W F ∧ ∀ b, F b → w0.heap.size ≤ b
  p : ∃ F0, PrtI Pp b0 (rlOf r Z) s F0 W ∧ ∀ b, F0 b → w0.heap.size ≤ b
  ab : w0.heap.size ≤ A ∧ w0.heap.size ≤ B
  f : Fr (fun _ => False) w0 W
  i : a.id = 9 ∧ a.st = kst 9 k
  ef : EffI a (mine 9 s.eff) (nvr s.log)
  po : a.open → pot r.length pause t a s.at' + t ≤ 2 * k - 1 + r.length * pause
  lf : a.left ≤ 2 * k - 1 ∧ s.at' + a.left ≤ r.length + (2 * k - 1)
  sz : max (max s.log.length s.eff.length) s.at' ≤ t
theorem EndI.tick {w0 W : World} {Pp b0 X A B Z : Nat} {r : List Int} {pause : Int} {k t : Nat} {a : AS} {s : PSt} (H : AskOk Pp b0 (rlOf r Z)) (h : EndI w0 Pp b0 X A B Z r pause k t a s W) (hp1 : 1 ≤ pause) (hp2 : pause ≤ 64) (ht : t < 50000) (hZ : 100 ≤ Z) (hk : k ≤ 6) :
    Calls Tryz.prog 23 #[.pointer (some ⟨X, 0, none⟩)] W fun e w' => e = .returned .nilIface ∧ ∃ a' s', EndI w0 Pp b0 X A B Z r pause k (t + 1) a' s' w' := by
  obtain ⟨⟨rs, F, hE, hU, hFn⟩, ⟨F0, hP, hFn0⟩, hAB, hf, hi, hef, hpo, hlf, hsz⟩ := h
  have hmem : a ∈ [a] := by simp
  have haok := (hE.1.mem hmem).1
  have hl1 : ([a] : List AS).length = 1 := rfl
  refine (hE.tick (ptn H) (s0 := s) (by omega) hp1 hp2 (by omega) hP (by show max (max s.log.length s.eff.length) s.at' + 1 ≤ 1000000; omega)).mono ?_
  rintro e w' ⟨rfl, F', hn', hU', hE', ⟨F0', hP', hn0'⟩, hfr⟩
  obtain ⟨T, hT⟩ : ∃ T, T = tickOne (ptn H) ((t : Int) + 1) pause a s := ⟨_, rfl⟩
  have eT : tickL (ptn H) ((t : Int) + 1) pause [a] s = ([T.1], T.2.1, T.2.2 ++ []) := by rw [hT]; rfl
  have hpt := tickOne_pot H (s := s) (ck := (t : Int) + 1) (pause := pause) (a := a) (by simpa using haok) (by omega) hp1 (by omega)
  have hid9 : a.id = 9 := hi.1
  have hef2 : EffI a (mine a.id s.eff) (nvr s.log) := by rw [hid9]; exact hef
  have het := tickOne_eff H (ck := (t : Int) + 1) (pause := pause) hef2
  have hids := tickOne_id (ptn H) ((t : Int) + 1) pause a s
  have hsz2 := tickL_sz (ptn H) ((t : Int) + 1) pause [a] s
  rw [eT] at hE' hP' hsz2
  rw [← hT] at hpt het hids
  obtain ⟨t1, t2, t3, t4⟩ := hpt
  obtain ⟨⟨nv', v1, v2⟩, _, x, hx⟩ := het
  refine ⟨rfl, T.1, T.2.1, ⟨⟨_, F', by have := hE'; push_cast at this ⊢; exact this, hU', fun b hb => ?_⟩, ⟨F0', hP', fun b hb => ?_⟩, hAB, ?_, ⟨hids.1.trans hi.1, hids.2.trans hi.2⟩, ?_, fun ho => ?_, ⟨by omega, ?_⟩, ?_⟩⟩
  · rcases hn' b hb with h | h
    · exact hFn b h
    · exact Nat.le_trans hf.size h
  · rcases hn0' b hb with h | h
    · exact hFn0 b h
    · exact Nat.le_trans hf.size h
  · refine hf.trans hfr (fun b hb h => ?_)
    rcases h with h | h | h | h
    · omega
    · omega
    · have := hFn b h; omega
    · have := hFn0 b h; omega
  · have e : nv' = nvr (PSt.log T.2.1) := by
      rw [Bool.eq_iff_iff, v2, hx, List.drop_left]
      unfold nvr
      rw [List.any_append, Bool.or_eq_true, List.any_eq_true (l := x)]
      simp
    rw [← e, ← hid9]
    exact v1
  · obtain ⟨o1, o2⟩ := t4 ho
    have h1 := hpo o1
    have e1 : (t : Int) + 1 - 1 = t := by omega
    rw [e1] at o2
    push_cast
    omega
  · rcases t2 with h | h <;> omega
  · have : max (max (PSt.log T.2.1).length (PSt.eff T.2.1).length) (PSt.at' T.2.1) ≤ max (max s.log.length s.eff.length) s.at' + 1 := hsz2
    omega
/-- Where all ticks are made the saga is over. -/
theorem EndI.over {w0 W : World} {Pp b0 X A B Z : Nat} {r : List Int} {pause : Int} {k t : Nat} {a : AS} {s : PSt} (h : EndI w0 Pp b0 X A B Z r pause k t a s W) (hr : r.length ≤ 20) (hp1 : 1 ≤ pause) (hk : k ≤ 6) (ht : (22 + 2 * k) * (pause + 1) ≤ t) : (a.S.1 = 3 ∧ nvr s.log = false) ∨ (a.S.1 = 4 ∧ nvr s.log = true) := by
  have hno : ¬ a.open := fun ho => by
    obtain ⟨rs, F, hE, _⟩ := h.e
    have h1 := h.po ho
    have h2 := (hE.1.mem (a := a) (by simp)).1.left1 ho
    have h3 : (0 : Int) ≤ ((r.length - s.at' : Nat) : Int) * pause := Int.mul_nonneg (by omega) (by omega)
    have h4 : (r.length : Int) * pause ≤ 20 * pause := Int.mul_le_mul_of_nonneg_right (by omega) (by omega)
    have h5 : (22 + 2 * (k : Int)) * (pause + 1) = 22 * pause + 2 * (k * pause) + 22 + 2 * k := by
      rw [Int.add_mul, Int.mul_add, Int.mul_add, Int.mul_assoc]; omega
    have h6 : (0 : Int) ≤ k * pause := Int.mul_nonneg (by omega) (by omega)
    unfold pot at h1
    omega
  rcases h.ef with ⟨h1, _⟩ | ⟨h1, h2, _⟩ | ⟨h1, _⟩ | ⟨h1, h2, _⟩
  · exact absurd (.inl h1) hno
  · exact .inl ⟨h1, h2⟩
  · exact absurd (.inr h1) hno
  · exact .inr ⟨h1, h2⟩
end Go.Proofs.YteebjgfalllbjaaGreatDoor
