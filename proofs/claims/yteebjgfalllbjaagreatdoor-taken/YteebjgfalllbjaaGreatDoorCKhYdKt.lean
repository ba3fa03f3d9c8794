import Derived.Test.YteebjgfalllbjaaGreatDoorCNaNbKg
import Derived.Test.YteebjgfalllbjaaGreatDoorCYaYbYc
import Derived.Test.YteebjgfalllbjaaGreatDoorCKcKeKr
namespace Go.Proofs.YteebjgfalllbjaaGreatDoor
open Go.RowKit
theorem err0 {w : World} {v : Value} (h : ErrAt w v 0) : v = .nilIface := by
  rcases h with ⟨rfl, _⟩ | ⟨_, _, _, _, h⟩
  · rfl
  · exact absurd rfl h
theorem scells_at (st : List SS) (i : Nat) (p : SS) (h : st[i]? = some p) (j : Nat) (v : Value) (hv : (stv p)[j]? = some v) : (scells st)[i * 2 + j]? = some v := by
  induction st generalizing i with
  | nil => simp at h
  | cons a st ih =>
    have hj : j < 2 := (List.getElem?_eq_some_iff.1 hv).1
    have e : scells (a :: st) = stv a ++ scells st := rfl
    have e2 : (stv a).length = 2 := rfl
    rw [e]
    cases i with
    | zero =>
      obtain rfl : a = p := by simpa using h
      rw [List.getElem?_append_left (by rw [e2]; omega), Nat.zero_mul, Nat.zero_add]
      exact hv
    | succ i =>
      rw [List.getElem?_append_right (by rw [e2]; omega), e2, show (i + 1) * 2 + j - 2 = i * 2 + j by omega]
      exact ih i (by simpa using h)
theorem own_rowsS {W : World} {b0 : Nat} {ao : Option Addr} {n cap : Nat} {st : List SS} (h : W.ownsRow b0 58 2 (.slice ao n cap) n (scells st)) : RowsOf W ao 2 (st.map stv) := by
  intro i r hr
  rw [List.getElem?_map] at hr
  obtain ⟨c, hc, rfl⟩ := Option.map_eq_some_iff.1 hr
  have hi := (List.getElem?_eq_some_iff.1 hc).1
  have hlen := h.1
  rcases h.2 with ⟨hv, hn⟩ | ⟨g, cap', cur, hv, _, hg, _, _, _, hx⟩
  · rw [scells_len, hn] at hlen; omega
  · cases hv
    refine ⟨g, 0, rfl, fun j v hj => ?_⟩
    refine (cell_of_row W g _ _ _ _ hg).trans ?_
    have h1 := scells_at st i c hc j v hj
    rw [← hx, List.getElem?_take] at h1
    split at h1
    · rw [Nat.zero_add]; simpa using h1
    · cases h1
theorem own_someS {W : World} {b0 : Nat} {ao : Option Addr} {n cap size : Nat} {t : TypeId} {xs : List Value} (h : W.ownsRow b0 t size (.slice ao n cap) n xs) (hn : 1 ≤ n) : ∃ g, ao = some ⟨g, 0, none⟩ := by
  rcases h.2 with ⟨_, h0⟩ | ⟨g, cap', cur, hv, _⟩
  · omega
  · cases hv; exact ⟨g, rfl⟩
theorem kst_ok {id n : Nat} {k : Int} (h1 : 1 ≤ n) (h6 : n ≤ 6) (hk1 : 1 ≤ k) (hk2 : k ≤ 1000) : sagaOk k (kst id n) = true := by
  refine decide_eq_true ⟨hk1, hk2, by rw [kst_len]; exact h1, by rw [kst_len]; exact h6, fun p hp => ?_⟩
  have := kst_8 id n p hp
  omega
/-- A disk with an empty journal and an engine on it. -/
def BegunQ (w : World) (n Pp : Nat) (pause : Int) (e : Ending) (w' : World) : Prop := ∃ X A B F, e = .returned (.tuple #[.pointer (some ⟨A, 0, none⟩), .pointer (some ⟨X, 0, none⟩)]) ∧ EN w' 1 X A B n 0 pause (askV Pp) [] [] F ∧ FU w' F ∧ (∀ b, F b → w.heap.size ≤ b) ∧ w.heap.size ≤ A ∧ w.heap.size ≤ B ∧ Fr (fun _ => False) w w'
/-- What a saga of one step makes of a partner that does all. -/
theorem one_tick {Pq b0 : Nat} (pause : Int) : tickL (ptn (ask_nil_ok (Pp := Pq) (b0 := b0))) 1 pause [newA 5 (kst 5 1)] ⟨[], [], 0⟩ = ([⟨5, kst 5 1, (3, 0), 0, 0⟩], ⟨[((newA 5 (kst 5 1)).asks, 0)], [(newA 5 (kst 5 1)).asks], 0⟩, [(5, 0)]) := by
  have ho : (newA 5 (kst 5 1)).open ∧ (newA 5 (kst 5 1)).due ≤ 1 := ⟨.inl rfl, by decide⟩
  have ha : (ptn (ask_nil_ok (Pp := Pq) (b0 := b0))).ask ⟨[], [], 0⟩ (newA 5 (kst 5 1)).asks = (0, ⟨[((newA 5 (kst 5 1)).asks, 0)], [(newA 5 (kst 5 1)).asks], 0⟩) := rfl
  have hm : (newA 5 (kst 5 1)).moves (0 : Nat) = true := by simp [AS.moves]
  have hg : (newA 5 (kst 5 1)).go (0 : Nat) = ⟨5, kst 5 1, (3, 0), 0, 0⟩ := by simp [AS.go, AS.next, newA, kst_len]
  simp only [tickL, tickOne, if_pos ho, ha, AS.after, hm, if_true, hg]
  rfl
set_option maxRecDepth 100000 in
set_option maxHeartbeats 4000000 in
theorem kBegun_ok (w : World) (n Pp : Nat) (pause : Int) (n8 : 8 ≤ n) (n4 : n ≤ 400) (hp1 : 1 ≤ pause) (hp2 : pause ≤ 64) : Calls Tryz.prog 20 #[.int .i64 n, .pointer (some ⟨Pp, 0, none⟩), .int .i64 pause] w fun e w' => BegunQ w n Pp pause e w' := by
  go_enter Tryz.func20, Tryz.ntmps20
  go_wp2_with fail
  refine (NewDisk_ok 20 w).mono ?_
  rintro e w1 ⟨A, B, rfl, hA, hB, hd, hr, hf1⟩
  have e20 : nblk 20 = 20 := by decide
  rw [e20] at hd hr
  go_wp2_with fail
  refine (NewPartner_rows (rl := []) (World.ownsRow_nil w1 0 _ _) (by decide)).mono ?_
  rintro e w2 ⟨Pq, lv, rfl, hPq, hpr, hlv, hf2⟩
  have hF2 : Fr (fun _ => False) w w2 := hf1.trans hf2 (fun _ _ h => h)
  have hd2 := hd.fr hf2 id
  have hr2 : RowsAt w2 B 20 _ := ⟨hf2.keep hr.1 id, hr.2⟩
  have hz1 := hf1.size
  have hz2 := hf2.size
  clear hd hr hf1 hf2 e20
  go_wp2_with fail
  refine (pFormat_ok hd2 hr2 (by omega) (by omega) (by omega) (by omega) (by decide) (by decide)).mono ?_
  rintro e w3 ⟨v3, rfl, hv3, bs3, hd3, hr3, rfl, hf3⟩
  obtain rfl := err0 hv3
  have nPA : Pq ≠ A := fun e => by have := hpr.p; rw [e] at this; have := this.symm.trans hd2; simp [dcells] at this
  have nPB : Pq ≠ B := fun e => by have := hpr.p; rw [e] at this; have := this.symm.trans hr2.1; simp at this
  have hF3 : Fr (fun _ => False) w w3 := hF2.trans hf3 (fun b _ h => by omega)
  have hfo : ∀ b, PartF Pq (.slice none 0 0) (.slice none 0 0) lv b → b ≠ A ∧ b ≠ B := fun b hb => by
    obtain ⟨c, t, hc, ht⟩ := hpr.ty hb
    unfold PT at ht
    refine ⟨fun e => ?_, fun e => ?_⟩
    · rw [e] at hc; have := hc.symm.trans hd2; simp [dcells] at this; rw [this.2] at ht; revert ht; decide
    · rw [e] at hc; have := hc.symm.trans hr2.1; simp at this; rw [this.2] at ht; revert ht; decide
  have hpr3 := hpr.fr hf3 (fun b hb h => by have := hfo b hb; omega)
  have hsz2 := hf3.size
  clear hd2 hr2 hf3 hv3 hF2
  go_wp2_with fail
  refine (open0 (Pp := Pq) 1 (by decide) (by decide) hd3 hr3 (by omega) (by decide) (by omega) (by decide) (by decide) (by decide)).mono ?_
  rintro e w4 ⟨X1, F1, rfl, hE4, hU4, hFn4, hf4⟩
  have hF4 : Fr (fun _ => False) w w4 := hF3.trans hf4 (fun b _ h => by omega)
  have hpr4 := hpr3.fr hf4 (fun b hb h => by have := hfo b hb; omega)
  have hsz3 := hF3.size
  have hsz34 := hf4.size
  clear hd3 hr3 hf4 hF3 hpr hpr3
  go_wp2_with fail
  refine (kSteps_ok w4 5 1 (by decide) (by decide)).mono ?_
  rintro e w5 ⟨ao, cap, rfl, hks⟩
  obtain ⟨g, rfl⟩ := own_someS hks.2 (Nat.le_refl _)
  have hE5 := hE4.fr hks.1 id id (fun _ _ => id)
  have hU5 : FU w5 F1 := fun b hb => by obtain ⟨c, t, hc, ht⟩ := hU4 b hb; exact ⟨c, t, hks.1.keep hc id, ht⟩
  have hpr5 := hpr4.fr hks.1 (fun _ _ => id)
  have hF5 := hF4.trans hks.1 (fun _ _ h => h)
  have hrows := own_rowsS hks.2
  have hsz4 := hks.1.size
  clear hks hE4 hU4 hpr4
  go_wp2_with fail
  have HS := hE5.sub (by decide) 5 (kst 5 1) cap hrows (fun _ => ⟨g, rfl⟩)
  rw [kst_len] at HS
  refine HS.mono ?_
  rintro e w6 ⟨v6, k6, L6, rs6, F6, rfl, hv6, hS6, hn6, hU6, hE6, hf6⟩
  obtain ⟨rfl, rfl, rfl⟩ : k6 = 0 ∧ L6 = [newA 5 (kst 5 1)] ∧ rs6 = [Rec.take 5 (kst 5 1)] := by
    rcases hS6 with ⟨h, _⟩ | ⟨_, a, ha, _⟩ | ⟨_, _, ⟨h1, h2, h3⟩ | ⟨_, h, _⟩⟩
    · rw [kst_ok (by decide) (by decide) (by decide) (by decide)] at h; cases h
    · cases ha
    · exact ⟨h1, h2, h3⟩
    · rw [kst_len] at h; simp at h
  obtain rfl := err0 hv6
  have hpF6 : ∀ b, PartF Pq (.slice none 0 0) (.slice none 0 0) lv b → ¬ (b = A ∨ b = B ∨ F1 b) := fun b hb h => by
    have h1 := hfo b hb
    rcases h with h | h | h
    · exact h1.1 h
    · exact h1.2 h
    · obtain ⟨c, t, hc, ht⟩ := hpr5.ty hb
      exact hU5.ne hc (by intro hu; unfold EngU at hu; unfold PT at ht; rcases ht with rfl | rfl | rfl | rfl <;> revert hu <;> decide) h
  have hpr6 := hpr5.fr hf6 hpF6
  have hF6 : Fr (fun _ => False) w w6 := hF5.trans hf6 (fun b hb h => by
    rcases h with h | h | h
    · omega
    · omega
    · have := hFn4 b h; have := hF4.size; omega)
  have hn6' : ∀ b, F6 b → w.heap.size ≤ b := fun b hb => by
    rcases hn6 b hb with h | h
    · have := hFn4 b h; have := hF4.size; omega
    · have := hF5.size; omega
  have hP6 : PrtI Pq w1.heap.size [] ⟨[], [], 0⟩ (PartF Pq (.slice none 0 0) (.slice none 0 0) lv) w6 := ⟨by have := hf6.size; omega, _, _, _, hpr6, fun _ => Iff.rfl⟩
  have HT := hE6.tick (ptn ask_nil_ok) (s0 := (⟨[], [], 0⟩ : PSt)) (by decide) (by decide) (by decide) (by decide) hP6 (by show max (max 0 0) 0 + 1 ≤ 20000000; decide)
  clear HS hS6 hv6 hf6 hpr5 hpr6 hE5 hU5 hF5 hrows hn6 hpF6
  go_wp2_with fail
  refine HT.mono ?_
  rintro e w7 ⟨rfl, F7, hn7, hU7, hE7, ⟨F0', hP7, hn07⟩, hf7⟩
  rw [show (0 : Int) + 1 = 1 from rfl, one_tick] at hE7 hP7
  have hF7 : Fr (fun _ => False) w w7 := hF6.trans hf7 (fun b hb h => by
    rcases h with h | h | h | h
    · omega
    · omega
    · have := hn6' b h; omega
    · rcases h with h | h | h | h
      · omega
      · cases h
      · cases h
      · have := hlv b h; omega)
  obtain ⟨_, lg7, ef7, l7, hpr7, _⟩ := hP7
  clear HT hE6 hf7 hF6 hP6 hn7 hn07
  go_wp2_with fail
  refine (hE7.sta 5).mono ?_
  rintro e w8 ⟨s8, v8, rfl, hf8, hc8⟩
  obtain ⟨rfl, hv8⟩ : s8 = ⟨5, 3, 0, 1, 0, 0⟩ ∧ ErrAt w8 v8 0 := by
    rcases hc8 with ⟨a, ha, _, rfl, h⟩ | ⟨h, _⟩
    · obtain rfl := List.mem_singleton.1 ha
      exact ⟨rfl, h⟩
    · exact absurd rfl (h _ (List.mem_singleton.2 rfl))
  obtain rfl := err0 hv8
  obtain ⟨ae, ce, rfl⟩ : ∃ ae ce, ef7 = .slice ae 1 ce := by
    rcases hpr7.eo.2 with ⟨_, h⟩ | ⟨g', cap', cur, h, _⟩
    · cases h
    · exact ⟨_, _, h⟩
  have hq8 : (w8.alloc (.cells #[.int .i64 5, .int .i64 3, .int .i64 0, .int .i64 1, .int .i64 0, .int .i64 0] 42)).cell? ⟨Pq, 1, none⟩ = some (.slice ae 1 ce) := (cell_of_row _ Pq 1 _ _ _ (((Fr.refl (fun _ => False) w8).alloc _).keep (hf8.keep hpr7.p id) id)).trans rfl
  have hF8 : Fr (fun _ => False) w w8 := hF7.trans hf8 (fun _ _ h => h)
  have hF9 : Fr (fun _ => False) w (w8.alloc (.cells #[.int .i64 5, .int .i64 3, .int .i64 0, .int .i64 1, .int .i64 0, .int .i64 0] 42)) := hF8.alloc _
  clear hc8 hv8 hf8 hF7 hE7 hU7 hpr7 hF8 hF4 hFn4 hfo hU6 hn6' hlv hPq
  unfold ST.cs
  go_wp2_with fail
  clear hq8
  generalize w8.alloc (.cells #[.int .i64 5, .int .i64 3, .int .i64 0, .int .i64 1, .int .i64 0, .int .i64 0] 42) = w9 at *
  refine (NewDisk_ok n w9).mono ?_
  rintro e w10 ⟨A2, B2, rfl, hA2, hB2, hd, hr, hf10⟩
  have en : nblk n = n := by unfold nblk; rw [if_neg (by omega)]; omega
  rw [en] at hd hr
  have hz9 := hF9.size
  have hF10 := hF9.trans hf10 (fun _ _ h => h)
  clear hf10
  go_wp2_with fail
  refine (pFormat_ok hd hr (by omega) (by omega) (by omega) (by omega) n8 n4).mono ?_
  rintro e w11 ⟨v11, rfl, hv11, bs11, hd11, hr11, rfl, hf11⟩
  obtain rfl := err0 hv11
  have hF11 : Fr (fun _ => False) w w11 := hF10.trans hf11 (fun b _ h => by omega)
  clear hf11 hd hr hF10
  go_wp2_with fail
  refine (open0 (Pp := Pp) pause hp1 hp2 hd11 hr11 (by omega) (by omega) (by omega) (by omega) n8 n4).mono ?_
  rintro e w12 ⟨X2, F2, rfl, hE12, hU12, hFn12, hf12⟩
  have HQ : Hid (BegunQ w n Pp pause (.returned (.tuple #[.pointer (some ⟨A2, 0, none⟩), .pointer (some ⟨X2, 0, none⟩)])) w12) := ⟨X2, A2, B2, F2, rfl, hE12, hU12, fun b hb => Nat.le_trans hF11.size (hFn12 b hb), by omega, by omega, hF11.trans hf12 (fun b _ h => by omega)⟩
  clear hE12 hU12 hFn12 hf12 hd11 hr11 hF11
  go_wp2
  go_ret2
  exact HQ.out
end Go.Proofs.YteebjgfalllbjaaGreatDoor
namespace Go.Proofs.YteebjgfalllbjaaGreatDoor
open Go.RowKit
theorem layJ_of {n : Nat} {recs : List (List Value)} (hl : ∀ r ∈ recs, RecOk r) (hlen : (layB n recs).length = n * 128) (hone : ∀ v ∈ layB n recs, v.oneCell' = true) : LayJ n n (layB n recs) recs zB := by
  have hl' : ∀ r ∈ recs, r.length = 128 := fun r hr => (hl r hr).1
  refine ⟨Nat.le_refl _, hlen, hone, ?_, fun i r hr => layB_get n recs i r hr hl', fun h => ⟨layB_zero n recs hl' _ (by omega) h, torn_zB⟩, fun i h1 h2 => layB_zero n recs hl' i (by omega) h2⟩
  have := layB_head n recs
  unfold blkOf
  rw [Nat.zero_mul, List.drop_zero]
  exact this
section
variable {w w' : World} {k X A B n : Nat} {clock pause : Int} {cv : Value} {L : List AS} {rs : List Rec} {s : DS} {C F : Nat → Prop}
/-- An engine over a disk that was not touched yet. -/
theorem EN.eg (h : EN w k X A B n clock pause cv L rs F) (b0 : Nat) (hG : 0 < b0) (hA : b0 ≤ A) (hB : b0 ≤ B) (hF : ∀ b, F b → b0 ≤ b) : ∃ s, EG w k X A B n clock pause cv L rs s (fun _ => False) F ∧ s.d.good ∧ s.ents = [] ∧ JZ n s (rs.map Rec.bytes) := by
  obtain ⟨hp, J, R, V, base, room, ev, es, sb, calls, writes, ⟨h3, h4, h5, h6⟩, gd⟩ := h
  have hJ : b0 ≤ J := hF _ (gd.f _ (.inr (.inl rfl)))
  have hAl := lt_of_heap gd.E.jn.d
  have hd : DSAt w A B n b0 (.slice none 0 0) ⟨⟨calls, writes, 0, -1, 0, 0, n⟩, [], layB n (rs.map Rec.bytes)⟩ :=
    ⟨DkAt.of gd.E.jn.d, gd.E.jn.r, ⟨World.ownsRow_nil _ _ _ _, by show (0 : Nat) < _; omega, (fun p hp => absurd hp (by simp)), (fun p hp => absurd hp (by simp)), (fun p hp => absurd hp (by simp))⟩, by omega, Nat.le_refl _⟩
  have hS : JSet n ⟨⟨calls, writes, 0, -1, 0, 0, n⟩, [], layB n (rs.map Rec.bytes)⟩ (rs.map Rec.bytes) := ⟨layJ_of (recs_bytes hp.ok) gd.E.jn.r.2.1 gd.E.jn.r.2.2, rfl⟩
  refine ⟨_, ⟨hp, ⟨h3, h4, h5, h6, Int.le_refl _, by show (0 : Int) ≤ _; omega, Nat.zero_le _⟩, hS.jd, J, R, V, base, b0, room, ev, .slice none 0 0, es, sb, fun _ => hS, ⟨gd.E.eng, gd.E.roll, ⟨gd.E.jn.v, hd, ?_⟩, ⟨hG, hA, hB, hJ⟩, gd.m, gd.rm, gd.b, gd.f⟩, fun b hb => by cases hb⟩, ⟨by show (-1 : Int) < 0; omega, by show (0 : Int) ≤ 0; omega⟩, rfl, hS.jz⟩
  have := gd.E.jn.j
  push_cast at this ⊢
  exact this
/-- The power fails behind so many calls. -/
theorem EG.off (h : EG w k X A B n clock pause cv L rs s C F) (hk : k < 80000) (j : Int) (hj : 0 ≤ j) (hj1 : j ≤ 1000) :
    Calls Tryz.prog 30 #[.pointer (some ⟨A, 0, none⟩), .int .i64 j] w fun e w' => e = .returned (.tuple #[]) ∧ EG w' k X A B n clock pause cv L rs ⟨{ s.d with off := s.d.calls + j }, s.ents, s.bs⟩ C F ∧ Fr (· = A) w w' := by
  obtain ⟨hp, hb, hjd, J, R, V, base, dbase, room, ev, cache, es, sb, hs, g, hc⟩ := h
  have hb1 := hb.c1
  refine (Off_gen g.jn.d.d hb.c0 (by omega) j hj hj1).mono ?_
  rintro e w' ⟨rfl, hd, hf⟩
  have hd' : DSAt w' A B n dbase cache ⟨{ s.d with off := s.d.calls + j }, s.ents, s.bs⟩ :=
    ⟨hd, ⟨hf.keep g.jn.d.r.1 (fun e => g.jn.d.ne.1 e.symm), g.jn.d.r.2⟩, g.jn.d.q.fr hf (fun b c hb _ e => by rw [e, g.jn.d.d] at hb; simp at hb), Nat.le_trans g.jn.d.b hf.size, g.jn.d.c⟩
  have nX : X ≠ A := fun e => by have := g.eng; rw [e] at this; have := this.symm.trans g.jn.d.d; simp at this
  have nV : V ≠ A := g.jn.v.neK g.jn.d.d
  have nJ : J ≠ A := fun e => by have := g.jn.j; rw [e] at this; have := this.symm.trans g.jn.d.d; simp at this
  refine ⟨rfl, ⟨hp, ⟨hb.c0, hb.c1, hb.w0, hb.w1, hb.t0, hb.t1, hb.e⟩, hjd.keep rfl rfl rfl, J, R, V, base, dbase, room, ev, cache, es, sb, hs, ⟨hf.keep g.eng nX, g.roll.fr hf (fun b hb e => (g.dis b hb).1 (.inl (.inl e))), ⟨g.jn.v.fr hf nV, hd', g.jn.j.fr hf nJ⟩, g.hi, g.m, g.rm, Nat.le_trans g.b hf.size, g.f⟩, hc⟩, hf⟩
/-- What is there behind a failure of power. -/
theorem DG.cut {recs : List (List Value)} (h : DG w k A B n s C) (hj : JD n s recs) (hl : recs.length < n) (hn4 : n ≤ 400) {la : Option Addr} {zs : List Int} {kc : Nat} (hz : IntsAt w la zs) (hz1 : zs.length < 1000) :
    Calls Tryz.prog 32 #[.pointer (some ⟨A, 0, none⟩), .slice la zs.length kc] w fun e w' => ∃ A' B' s' recs', e = .returned (.pointer (some ⟨A', 0, none⟩)) ∧ DG w' 1 A' B' n s' (fun _ => False) ∧ s'.d.good ∧ s'.ents = [] ∧ JZ n s' recs' ∧ (recs' = recs ∨ (¬ JZ n s recs ∧ ∃ r, recs = recs' ++ [r])) ∧ w.heap.size ≤ A' ∧ w.heap.size ≤ B' ∧ Fr (fun _ => False) w w' ∧ s'.d.writes = 0 := by
  obtain ⟨hb, base, cache, hd, hc, h1, h2, h3⟩ := h
  have hAl := hd.d.lt
  refine (After_ok hd (by omega) hn4 hz hz1).mono ?_
  rintro e w' ⟨A', B', cap', rfl, hd', hA', hB', hf⟩
  have hc' := hd'.c
  by_cases hJZ : JZ n s recs
  · obtain ⟨tl', hL⟩ := hJZ.crash hl hc' zs
    exact ⟨A', B', _, recs, rfl, ⟨⟨Int.le_refl _, by show (0 : Int) ≤ _; omega, Int.le_refl _, by show (0 : Int) ≤ _; omega, Int.le_refl _, by show (0 : Int) ≤ _; omega, Nat.zero_le _⟩, w.heap.size, _, hd', (fun b hb => by cases hb), by omega, hA', hB'⟩, ⟨by show (-1 : Int) < 0; omega, by show (0 : Int) ≤ 0; omega⟩, rfl, ⟨tl', hL, fun p hp => absurd hp (by simp)⟩, .inl rfl, hA', hB', hf, rfl⟩
  · obtain ⟨recs', tl', hL, hr⟩ := hj.crash hl hc' zs
    exact ⟨A', B', _, recs', rfl, ⟨⟨Int.le_refl _, by show (0 : Int) ≤ _; omega, Int.le_refl _, by show (0 : Int) ≤ _; omega, Int.le_refl _, by show (0 : Int) ≤ _; omega, Nat.zero_le _⟩, w.heap.size, _, hd', (fun b hb => by cases hb), by omega, hA', hB'⟩, ⟨by show (-1 : Int) < 0; omega, by show (0 : Int) ≤ 0; omega⟩, rfl, ⟨tl', hL, fun p hp => absurd hp (by simp)⟩, hr.imp_right (fun h => ⟨hJZ, h.2⟩), hA', hB', hf, rfl⟩
/-- plain.Open of a good disk. -/
theorem DG.open {Pp : Nat} (h : DG w k A B n s C) (hj : JD n s (rs.map Rec.bytes)) (hk : k < 60000) (p : Int) (hp1 : 1 ≤ p) (hp2 : p ≤ 64) (n8 : 8 ≤ n) (n4 : n ≤ 400) (hok : RecsOk rs) (hnd : needC rs ≤ n - 1) (hg : s.d.good) (hG : GOk w) :
    Calls Tryz.prog 33 #[.pointer (some ⟨A, 0, none⟩), .int .i64 p, .pointer (some ⟨Pp, 0, none⟩)] w fun e w' => ∃ X F c, e = .returned (.tuple #[.pointer (some ⟨X, 0, none⟩), .nilIface]) ∧ EG w' (k + 1) X A B n 0 p (askV Pp) (recL rs) rs (s.after c) C F ∧ FU w' F ∧ (∀ b, F b → w.heap.size ≤ b) ∧ Fr (fun b => b = A) w w' := by
  refine pOpen_any ((sOpenG h hj hk p hp1 hp2 n8 n4 hok hnd (fun h => absurd hg h) hG).mono ?_)
  rintro e w' ⟨hf, ⟨X, F, c, rfl, hc, h1, h2, h3⟩ | ⟨v, c, rfl, hc, h1, h2, h3⟩⟩
  · exact ⟨_, _, rfl, X, F, c, rfl, h1, h2, h3, hf⟩
  · exact absurd hg h2
end
end Go.Proofs.YteebjgfalllbjaaGreatDoor
namespace Go.Proofs.YteebjgfalllbjaaGreatDoor
open Go.RowKit
def ofS (id : Int) (eff : List CL) : List CL := eff.filter (fun c => decide (c.saga = id))
theorem mine_of (id : Int) (eff : List CL) : mine id eff = (ofS id eff).map (fun c => (c.step, c.back)) := rfl
theorem ofS_next {eff : List CL} {i : Nat} {c : CL} (id : Int) (h : eff[i]? = some c) : ofS id (eff.take (i + 1)) = if c.saga = id then ofS id (eff.take i) ++ [c] else ofS id (eff.take i) := by
  rw [List.take_add_one, h]
  unfold ofS
  rw [List.filter_append]
  by_cases hc : c.saga = id
  · rw [if_pos hc]; simp [hc]
  · rw [if_neg hc]; simp [hc]
def StI (w : World) (id : Int) (eff : List CL) (i : Nat) (lv : Value) (wr : World) : Prop := Fr (fun _ => False) w wr ∧ wr.ownsRow w.heap.size 50 4 lv (ofS id (eff.take i)).length (effC (ofS id (eff.take i)))
theorem st_step {w wr w2 : World} {id : Int} {eff : List CL} {c : CL} {i : Nat} {ax : Option Addr} {cx : Nat} {v2 : Value} (h : StI w id eff i (.slice ax (ofS id (eff.take i)).length cx) wr) (hc : eff[i]? = some c) (hid : c.saga = id)
    (hown : w2.ownsRow w.heap.size 50 4 v2 ((ofS id (eff.take i)).length + 1) (effC (ofS id (eff.take i)) ++ c.cs)) (hg : (wr.alloc (.cells c.cs.toArray 50)).grownBy w2 (Value.slice ax (ofS id (eff.take i)).length cx).ownBlock) :
    StI w id eff (i + 1) v2 w2 ∧ ∃ a2 c2, v2 = .slice a2 (ofS id (eff.take (i + 1))).length c2 := by
  have e : ofS id (eff.take (i + 1)) = ofS id (eff.take i) ++ [c] := by rw [ofS_next id hc, if_pos hid]
  refine ⟨⟨?_, ?_⟩, ?_⟩
  · refine (h.1.alloc _).grown hg (fun k hk hb => ?_)
    have := (h.2.lt k hb).1
    omega
  · rw [e, effC_snoc, List.length_append, List.length_singleton]
    exact hown
  · rw [e, List.length_append, List.length_singleton]
    rcases hown.2 with ⟨rfl, h0⟩ | ⟨g, cap, cur, rfl, _⟩
    · omega
    · exact ⟨_, _, rfl⟩
theorem CL.one (c : CL) : ∀ v ∈ c.cs, v.oneCell' = true := by
  intro v hv
  simp [CL.cs] at hv
  rcases hv with rfl | rfl | rfl | rfl <;> rfl
/-- What lies in such a list. -/
theorem shape_get {M : List CL} {n k j : Nat} (h : Shape (M.map fun c => (c.step, c.back)) n k j) : M.length = k + (k - j) ∧ (∀ i c, M[i]? = some c → (i < k → c.step = (i : Int) + 1 ∧ c.back = false) ∧ (k ≤ i → c.back = true ∧ c.step = (k : Int) - (i - k : Nat))) := by
  obtain ⟨h1, h2, _⟩ := h
  have hl : M.length = k + (k - j) := by
    have := congrArg List.length h1
    simpa [upL, dnL] using this
  refine ⟨hl, fun i c hc => ⟨fun hi => ?_, fun hi => ?_⟩⟩
  · have h3 : (M.map fun c => (c.step, c.back))[i]? = some (c.step, c.back) := by simp [hc]
    rw [h1, List.getElem?_append_left (by simpa [upL] using hi)] at h3
    have h4 : (upL k)[i]? = some ((i : Int) + 1, false) := by simp [upL, hi]
    rw [h4] at h3
    simp at h3
    exact ⟨h3.1.symm, h3.2⟩
  · have h3 : (M.map fun c => (c.step, c.back))[i]? = some (c.step, c.back) := by simp [hc]
    have hil := (List.getElem?_eq_some_iff.1 hc).1
    have hu : (upL k).length = k := by simp [upL]
    rw [h1, List.getElem?_append_right (by omega), hu] at h3
    have h4 : (dnL k j)[i - k]? = some ((k : Int) - (i - k : Nat), true) := by
      simp only [dnL, List.getElem?_map, List.getElem?_range (show i - k < k - j by omega)]
      rfl
    rw [h4] at h3
    simp at h3
    exact ⟨h3.2, h3.1.symm⟩
set_option maxRecDepth 100000 in
set_option maxHeartbeats 4000000 in
theorem kStraight_ok {w : World} {Pp : Nat} {lg l : Value} {ea : Option Addr} {ec : Nat} {at' : Int} {eff : List CL} (id : Int) (n k j : Nat) (h : w.heap[Pp]? = some (.cells #[lg, .slice ea eff.length ec, l, .int .i64 at'] 48 (0, 0))) (hl : RowsOf w ea 4 (eff.map CL.cs)) (hn : eff.length ≤ 1000000) (hS : Shape (mine id eff) n k j) :
    Calls Tryz.prog 25 #[.pointer (some ⟨Pp, 0, none⟩), .int .i64 id, .int .i64 n] w fun e w' => e = .returned (.bool true) ∧ Fr (fun _ => False) w w' := by
  obtain ⟨N, hN⟩ : ∃ N, N = eff.length := ⟨_, rfl⟩
  rw [← hN] at h hn
  have HF : Hid (RowsOf w ea 4 (eff.map CL.cs) ∧ w.heap[Pp]? = some (.cells #[lg, .slice ea N ec, l, .int .i64 at'] 48 (0, 0)) ∧ N = eff.length ∧ Shape (mine id eff) n k j) := ⟨hl, h, hN, hS⟩
  clear hl h hN hS
  go_enter Tryz.func25, Tryz.ntmps25
  go_wp2
  go_loopw [7, 8] (fun lv c wr => ∃ (i : Nat) (ax : Option Addr) (cx : Nat), i ≤ N ∧ c = .int .i64 i ∧ lv = .slice ax (ofS id (eff.take i)).length cx ∧ Hid (StI w id eff i lv wr)) (fun _ c _ => N - (intOf c).toNat)
  case atStart => exact ⟨0, none, 0, Nat.zero_le _, rfl, rfl, Fr.refl _ _, World.ownsRow_nil _ _ _ _⟩
  case round =>
    obtain ⟨i, ax, cx, hi, rfl, rfl, HR⟩ := hrel
    have p1 : wr.cell? ⟨Pp, 1, none⟩ = some (.slice ea N ec) := (cell_of_row _ Pp 1 _ _ _ (HR.out.1.keep HF.out.2.1 (fun h => h))).trans rfl
    have hml : (ofS id (eff.take i)).length ≤ 1000000 := by
      have h1 : (ofS id (eff.take i)).length ≤ (eff.take i).length := List.length_filter_le _ _
      rw [List.length_take] at h1
      omega
    by_cases hlt : i < N
    · have hlt' : (i : Int) < N := by omega
      obtain ⟨c, hc⟩ : ∃ c, eff[i]? = some c := ⟨_, List.getElem?_eq_getElem (by rw [← HF.out.2.2.1]; exact hlt)⟩
      obtain ⟨g, off, rfl, hr⟩ := HF.out.1 i c.cs (by simp [hc])
      obtain ⟨c1, cst, cb, cd⟩ := c
      have hrg : wr.rangeAt g (off + i * 4) (CL.cs ⟨c1, cst, cb, cd⟩) := fun j v hv => HR.out.1.cell (hr j v hv) (fun h => h)
      have c0 : wr.cell? ⟨g, off + i * 4, none⟩ = some (.int .i64 c1) := hrg 0 _ rfl
      have hid0 : ∀ h : c1 = id, (⟨c1, cst, cb, cd⟩ : CL).saga = id := fun h => h
      by_cases hid : c1 = id
      · subst hid
        have HS : Hid (∀ w2 v2, w2.ownsRow w.heap.size 50 4 v2 ((ofS c1 (eff.take i)).length + 1) (effC (ofS c1 (eff.take i)) ++ [.int .i64 c1, .int .i64 cst, .bool cb, .string cd]) → (wr.alloc (.cells #[.int .i64 c1, .int .i64 cst, .bool cb, .string cd] 50)).grownBy w2 (Value.slice ax (ofS c1 (eff.take i)).length cx).ownBlock → StI w c1 eff (i + 1) v2 w2 ∧ ∃ a2 c2, v2 = .slice a2 (ofS c1 (eff.take (i + 1))).length c2) := fun w2 v2 h1 h2 => st_step HR.out hc rfl h1 h2
        obtain ⟨inf, hi0, hz0, hz1, hz2⟩ := info_parts call_info
        have HF2 : Hid ((wr.alloc (.cells #[.int .i64 c1, .int .i64 cst, .bool cb, .string cd] 50)).ownsRow w.heap.size 50 4 (.slice ax (ofS c1 (eff.take i)).length cx) (ofS c1 (eff.take i)).length (effC (ofS c1 (eff.take i))) ∧ w.heap.size ≤ (wr.alloc (.cells #[.int .i64 c1, .int .i64 cst, .bool cb, .string cd] 50)).heap.size ∧ (∀ j u, [Value.int .i64 c1, .int .i64 cst, .bool cb, .string cd][j]? = some u → (wr.alloc (.cells #[.int .i64 c1, .int .i64 cst, .bool cb, .string cd] 50)).cell? ((⟨wr.heap.size, 0, none⟩ : Addr).add j) = some u)) :=
          ⟨HR.out.2.alloc _, by have := HR.out.1.size; simp; omega, World.news_of_block (w := wr.alloc (.cells #[.int .i64 c1, .int .i64 cst, .bool cb, .string cd] 50)) (B := wr.heap.size) (heap_alloc_at _ _)⟩
        have c2' : wr.cell? ⟨g, off + i * 4 + 1, none⟩ = some (.int .i64 cst) := hrg 1 _ rfl
        have c3' : wr.cell? ⟨g, off + i * 4 + 2, none⟩ = some (.bool cb) := hrg 2 _ rfl
        have c4' : wr.cell? ⟨g, off + i * 4 + 3, none⟩ = some (.string cd) := hrg 3 _ rfl
        clear hc hr hrg hid0
        generalize (ofS c1 (eff.take i)).length = ML at *
        go_wp2_with (first | (at_builtin; refine wpList_append_own (wr.alloc (.cells #[.int .i64 c1, .int .i64 cst, .bool cb, .string cd] 50)) rfl (.tmp 30) (.tmp 38) 46 rfl w.heap.size 50 inf _ 4 40 Tryz.underlying46 hi0 hz0 hz1 hz2 rfl (by decide) (.slice ax ML cx) ML (effC (ofS c1 (eff.take i))) rfl HF2.out.1 ⟨wr.heap.size, 0, none⟩ 1 1 [.int .i64 c1, .int .i64 cst, .bool cb, .string cd] rfl rfl HF2.out.2.2 (CL.one ⟨c1, cst, cb, cd⟩) ?_ ?_ HF2.out.2.1 ?_; (unfold maxLen; omega); omega; intro v2 w2 hown2 hgrow2 _; obtain ⟨hPI, a2, cx2, rfl⟩ := HS.out w2 v2 hown2 hgrow2; have HP2 : Hid (StI w c1 eff (i + 1) (.slice a2 (ofS c1 (eff.take (i + 1))).length cx2) w2) := hPI; clear hown2 hgrow2 hPI))
        go_roundw
        case rel => exact ⟨i + 1, a2, cx2, by omega, by go_num, rfl, HP2⟩
        case measure => simp [intOf]; omega
      · have hidb : (c1 == id) = false := by simpa using hid
        have HX : Hid (StI w id eff (i + 1) (.slice ax (ofS id (eff.take i)).length cx) wr ∧ ofS id (eff.take (i + 1)) = ofS id (eff.take i)) := by
          have e : ofS id (eff.take (i + 1)) = ofS id (eff.take i) := by rw [ofS_next id hc, if_neg (show ¬ (⟨c1, cst, cb, cd⟩ : CL).saga = id from hid)]
          refine ⟨⟨HR.out.1, ?_⟩, e⟩
          rw [e]; exact HR.out.2
        clear hc hr hrg hid hid0
        go_wp2
        go_roundw
        case rel => exact ⟨i + 1, ax, cx, by omega, by go_num, by rw [HX.out.2], HX.out.1⟩
        case measure => simp [intOf]; omega
    · have hiN : i = N := by omega
      have het : eff.take i = eff := by rw [hiN, HF.out.2.2.1, List.take_length]
      rw [het] at hml ⊢
      have hown := HR.out.2
      rw [het] at hown
      clear het
      obtain ⟨M, hM⟩ : ∃ M, M = ofS id eff := ⟨_, rfl⟩
      have hsh := HF.out.2.2.2
      rw [mine_of, ← hM] at hsh
      rw [← hM] at hml hown ⊢
      obtain ⟨hkj, hk3, hk4⟩ := hsh.2
      obtain ⟨hlen, hget⟩ := shape_get hsh
      have hrows := own_rowsC hown
      have HM : Hid (RowsOf wr ax 4 (M.map CL.cs) ∧ (∀ i c, M[i]? = some c → (i < k → c.step = (i : Int) + 1 ∧ c.back = false) ∧ (k ≤ i → c.back = true ∧ c.step = (k : Int) - (i - k : Nat))) ∧ Fr (fun _ => False) w wr) := ⟨hrows, hget, HR.out.1⟩
      obtain ⟨ML, hML⟩ : ∃ ML, M.length = ML := ⟨_, rfl⟩
      rw [hML] at hlen hml ⊢
      have HML : Hid (M.length = ML) := hML
      clear hsh hget hrows hown hM hML HR
      have hk6 : (k : Int) ≤ 1000000 := by omega
      have HLEN : Hid (ML = k + (k - j)) := hlen
      clear hlen
      go_wp2
      clear HF p1 hi hlt hiN
      go_loopw [9] (fun kv wx => ∃ q : Nat, q ≤ k ∧ kv = .int .i64 q ∧ wx = wr) (fun kv _ => k - (intOf kv).toNat)
      case atStart => exact ⟨0, Nat.zero_le _, rfl, rfl⟩
      case round =>
        obtain ⟨q, hq, rfl, rfl⟩ := hrel
        by_cases hqk : q < k
        · have hqm : (q : Int) < ML := by have := HLEN.out; omega
          obtain ⟨c, hc⟩ : ∃ c, M[q]? = some c := ⟨_, List.getElem?_eq_getElem (by have := HLEN.out; rw [HML.out]; omega)⟩
          obtain ⟨g, off, rfl, hr⟩ := HM.out.1 q c.cs (by simp [hc])
          obtain ⟨hs, hb⟩ := (HM.out.2.1 q c hc).1 hqk
          obtain ⟨c1, cst, cb, cd⟩ := c
          obtain rfl : cst = (q : Int) + 1 := hs
          obtain rfl : cb = false := hb
          have d1 : wr.cell? ⟨g, off + q * 4 + 1, none⟩ = some (.int .i64 ((q : Int) + 1)) := hr 1 _ rfl
          have d2 : wr.cell? ⟨g, off + q * 4 + 2, none⟩ = some (.bool false) := hr 2 _ rfl
          have eq1 : wrap64 ((q : Int) + 1) = (q : Int) + 1 := by unfold wrap64; omega
          have hqn : ¬ (n : Int) ≤ q := by omega
          clear hc hr
          go_wp2
          go_roundw
          case rel => exact ⟨q + 1, by omega, by push_cast; rfl, trivial⟩
          case measure => simp [intOf]; omega
        · obtain rfl : q = k := by omega
          by_cases hkm : q < ML
          · have hkm' : (q : Int) < ML := by omega
            obtain ⟨c, hc⟩ : ∃ c, M[q]? = some c := ⟨_, List.getElem?_eq_getElem (by have := HLEN.out; rw [HML.out]; omega)⟩
            obtain ⟨g, off, rfl, hr⟩ := HM.out.1 q c.cs (by simp [hc])
            obtain ⟨hb, _⟩ := (HM.out.2.1 q c hc).2 (Nat.le_refl _)
            obtain ⟨c1, cst, cb, cd⟩ := c
            obtain rfl : cb = true := hb
            have d2 : wr.cell? ⟨g, off + q * 4 + 2, none⟩ = some (.bool true) := hr 2 _ rfl
            have hqn : ¬ q = n := by have := HLEN.out; omega
            have hqnb : ((q : Int) == n) = false := by simp; omega
            clear hc hr
            go_wp2
            go_loopw [10] (fun kv wx => ∃ p : Nat, q ≤ p ∧ p ≤ ML ∧ kv = .int .i64 p ∧ wx = wr) (fun kv _ => ML - (intOf kv).toNat)
            case atStart => exact ⟨q, Nat.le_refl _, by omega, rfl, rfl⟩
            case round =>
              obtain ⟨p, hp1, hp2, rfl, rfl⟩ := hrel
              by_cases hpm : p < ML
              · have hpm' : (p : Int) < ML := by omega
                obtain ⟨c, hc⟩ : ∃ c, M[p]? = some c := ⟨_, List.getElem?_eq_getElem (by have := HLEN.out; rw [HML.out]; omega)⟩
                obtain ⟨g', off', e', hr⟩ := HM.out.1 p c.cs (by simp [hc])
                cases e'
                obtain ⟨hb, hs⟩ := (HM.out.2.1 p c hc).2 hp1
                obtain ⟨c1, cst, cb, cd⟩ := c
                obtain rfl : cb = true := hb
                have hs' : cst = (q : Int) - ((p : Int) - q) := by have : cst = (q : Int) - (p - q : Nat) := hs; omega
                subst hs'
                have d1 : wr.cell? ⟨g, off + p * 4 + 1, none⟩ = some (.int .i64 ((q : Int) - ((p : Int) - q))) := hr 1 _ rfl
                have d2 : wr.cell? ⟨g, off + p * 4 + 2, none⟩ = some (.bool true) := hr 2 _ rfl
                have w1 : wrap64 ((p : Int) - q) = (p : Int) - q := by unfold wrap64; omega
                have w2 : wrap64 ((q : Int) - ((p : Int) - q)) = (q : Int) - ((p : Int) - q) := by unfold wrap64; omega
                clear hc hr
                go_wp2
                go_roundw
                case rel => exact ⟨p + 1, by omega, by omega, by go_num, trivial⟩
                case measure => simp [intOf]; omega
              · obtain rfl : p = ML := by omega
                have hfin : (p : Int) ≤ 2 * q := by have := HLEN.out; omega
                have w3 : wrap64 (2 * (q : Int)) = 2 * q := by unfold wrap64; omega
                go_wp2
                go_ret
                exact ⟨rfl, HM.out.2.2⟩
          · obtain rfl : q = ML := by have := HLEN.out; omega
            have hnl : ¬ (q : Int) < q := by omega
            go_wp2
            go_loopw [10] (fun kv wx => kv = .int .i64 q ∧ wx = wr) (fun _ _ => 0)
            case atStart => exact ⟨rfl, rfl⟩
            case round =>
              obtain ⟨rfl, rfl⟩ := hrel
              have hfin : (q : Int) ≤ 2 * q := by omega
              have w3 : wrap64 (2 * (q : Int)) = 2 * q := by unfold wrap64; omega
              go_wp2
              go_ret
              exact ⟨rfl, HM.out.2.2⟩
end Go.Proofs.YteebjgfalllbjaaGreatDoor
