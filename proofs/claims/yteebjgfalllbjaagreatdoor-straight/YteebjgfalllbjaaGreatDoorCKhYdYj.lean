import Derived.Test.YteebjgfalllbjaaGreatDoorCKfKgZv
import Derived.Test.YteebjgfalllbjaaGreatDoorCYaYbYc
namespace Go.Proofs.YteebjgfalllbjaaGreatDoor
open Go.RowKit
theorem err0 {w : World} {v : Value} (h : ErrAt w v 0) : v = .nilIface := by
 rcases h with ⟨rfl, _⟩ | ⟨_, _, _, _, h⟩
 ·rfl
 ·exact absurd rfl h
theorem scells_at (st : List SS) (i : Nat) (p : SS) (h : st[i]? = some p) (j : Nat) (v : Value) (hv : (stv p)[j]? = some v) : (scells st)[i * 2 + j]? = some v := by
 induction st generalizing i with
 | nil => simp at h
 | cons a st ih =>
  have hj : j < 2 := (List.getElem?_eq_some_iff.1 hv).1
  have e : scells (a :: st) = stv a ++ scells st := rfl
  have e2 : (stv a).length = 2 := rfl
  rw [e]
  cases i with
  | zero =>
   obtain rfl : a = p := by simpa using h
   rw [List.getElem?_append_left (by rw [e2]; omega), Nat.zero_mul, Nat.zero_add]
   exact hv
  | succ i =>
   rw [List.getElem?_append_right (by rw [e2]; omega), e2, show (i + 1) * 2 + j - 2 = i * 2 + j by omega]
   exact ih i (by simpa using h)
theorem own_rowsS {W : World} {b0 : Nat} {ao : Option Addr} {n cap : Nat} {st : List SS} (h : W.ownsRow b0 58 2 (.slice ao n cap) n (scells st)) : RowsOf W ao 2 (st.map stv) := by
 intro i r hr
 rw [List.getElem?_map] at hr
 obtain ⟨c, hc, rfl⟩ := Option.map_eq_some_iff.1 hr
 have hi := (List.getElem?_eq_some_iff.1 hc).1
 have hlen := h.1
 rcases h.2 with ⟨hv, hn⟩ | ⟨g, cap', cur, hv, _, hg, _, _, _, hx⟩
 ·rw [scells_len, hn] at hlen; omega
 ·cases hv
  refine ⟨g, 0, rfl, fun j v hj => ?_⟩
  refine (cell_of_row W g _ _ _ _ hg).trans ?_
  have h1 := scells_at st i c hc j v hj
  rw [← hx, List.getElem?_take] at h1
  split at h1
  ·rw [Nat.zero_add]; simpa using h1
  ·cases h1
theorem own_someS {W : World} {b0 : Nat} {ao : Option Addr} {n cap size : Nat} {t : TypeId} {xs : List Value} (h : W.ownsRow b0 t size (.slice ao n cap) n xs) (hn : 1 ≤ n) : ∃ g, ao = some ⟨g, 0, none⟩ := by
 rcases h.2 with ⟨_, h0⟩ | ⟨g, cap', cur, hv, _⟩
 ·omega
 ·cases hv; exact ⟨g, rfl⟩
theorem kst_ok {id n : Nat} {k : Int} (h1 : 1 ≤ n) (h6 : n ≤ 6) (hk1 : 1 ≤ k) (hk2 : k ≤ 1000) : sagaOk k (kst id n) = true := by
 refine decide_eq_true ⟨hk1, hk2, by rw [kst_len]; exact h1, by rw [kst_len]; exact h6, fun p hp => ?_⟩
 have := kst_8 id n p hp
 omega
def BegunQ (w : World) (n Pp : Nat) (pause : Int) (e : Ending) (w' : World) : Prop := ∃ X A B F, e = .returned (.tuple #[.pointer (some ⟨A, 0, none⟩), .pointer (some ⟨X, 0, none⟩)]) ∧ EN w' 1 X A B n 0 pause (askV Pp) [] [] F ∧ FU w' F ∧ (∀ b, F b → w.heap.size ≤ b) ∧ w.heap.size ≤ A ∧ w.heap.size ≤ B ∧ Fr (fun _ => False) w w'
theorem one_tick {Pq b0 : Nat} (pause : Int) : tickL (ptn (ask_nil_ok (Pp := Pq) (b0 := b0))) 1 pause [newA 5 (kst 5 1)] ⟨[], [], 0⟩ = ([⟨5, kst 5 1, (3, 0), 0, 0⟩], ⟨[((newA 5 (kst 5 1)).asks, 0)], [(newA 5 (kst 5 1)).asks], 0⟩, [(5, 0)]) := by
 have ho : (newA 5 (kst 5 1)).open ∧ (newA 5 (kst 5 1)).due ≤ 1 := ⟨.inl rfl, by decide⟩
 have ha : (ptn (ask_nil_ok (Pp := Pq) (b0 := b0))).ask ⟨[], [], 0⟩ (newA 5 (kst 5 1)).asks = (0, ⟨[((newA 5 (kst 5 1)).asks, 0)], [(newA 5 (kst 5 1)).asks], 0⟩) := rfl
 have hm : (newA 5 (kst 5 1)).moves (0 : Nat) = true := by simp [AS.moves]
 have hg : (newA 5 (kst 5 1)).go (0 : Nat) = ⟨5, kst 5 1, (3, 0), 0, 0⟩ := by simp [AS.go, AS.next, newA, kst_len]
 simp only [tickL, tickOne, if_pos ho, ha, AS.after, hm, if_true, hg]
 rfl
set_option maxRecDepth 100000 in
set_option maxHeartbeats 4000000 in
theorem kBegun_ok (w : World) (n Pp : Nat) (pause : Int) (n8 : 8 ≤ n) (n4 : n ≤ 400) (hp1 : 1 ≤ pause) (hp2 : pause ≤ 64) : Calls Tryz.prog 20 #[.int .i64 n, .pointer (some ⟨Pp, 0, none⟩), .int .i64 pause] w fun e w' => BegunQ w n Pp pause e w' := by
 go_enter Tryz.func20, Tryz.ntmps20
 go_wp2_with fail
 refine (NewDisk_ok 20 w).mono ?_
 rintro e w1 ⟨A, B, rfl, hA, hB, hd, hr, hf1⟩
 have e20 : nblk 20 = 20 := by decide
 rw [e20] at hd hr
 go_wp2_with fail
 refine (NewPartner_rows (rl := []) (World.ownsRow_nil w1 0 _ _) (by decide)).mono ?_
 rintro e w2 ⟨Pq, lv, rfl, hPq, hpr, hlv, hf2⟩
 have hF2 : Fr (fun _ => False) w w2 := hf1.trans hf2 (fun _ _ h => h)
 have hd2 := hd.fr hf2 id
 have hr2 : RowsAt w2 B 20 _ := ⟨hf2.keep hr.1 id, hr.2⟩
 have hz1 := hf1.size
 have hz2 := hf2.size
 clear hd hr hf1 hf2 e20
 go_wp2_with fail
 refine (pFormat_ok hd2 hr2 (by omega) (by omega) (by omega) (by omega) (by decide) (by decide)).mono ?_
 rintro e w3 ⟨v3, rfl, hv3, bs3, hd3, hr3, rfl, hf3⟩
 obtain rfl := err0 hv3
 have nPA : Pq ≠ A := fun e => by have := hpr.p; rw [e] at this; have := this.symm.trans hd2; simp [dcells] at this
 have nPB : Pq ≠ B := fun e => by have := hpr.p; rw [e] at this; have := this.symm.trans hr2.1; simp at this
 have hF3 : Fr (fun _ => False) w w3 := hF2.trans hf3 (fun b _ h => by omega)
 have hfo : ∀ b, PartF Pq (.slice none 0 0) (.slice none 0 0) lv b → b ≠ A ∧ b ≠ B := fun b hb => by
  obtain ⟨c, t, hc, ht⟩ := hpr.ty hb
  unfold PT at ht
  refine ⟨fun e => ?_, fun e => ?_⟩
  ·rw [e] at hc; have := hc.symm.trans hd2; simp [dcells] at this; rw [this.2] at ht; revert ht; decide
  ·rw [e] at hc; have := hc.symm.trans hr2.1; simp at this; rw [this.2] at ht; revert ht; decide
 have hpr3 := hpr.fr hf3 (fun b hb h => by have := hfo b hb; omega)
 have hsz2 := hf3.size
 clear hd2 hr2 hf3 hv3 hF2
 go_wp2_with fail
 refine (open0 (Pp := Pq) 1 (by decide) (by decide) hd3 hr3 (by omega) (by decide) (by omega) (by decide) (by decide) (by decide)).mono ?_
 rintro e w4 ⟨X1, F1, rfl, hE4, hU4, hFn4, hf4⟩
 have hF4 : Fr (fun _ => False) w w4 := hF3.trans hf4 (fun b _ h => by omega)
 have hpr4 := hpr3.fr hf4 (fun b hb h => by have := hfo b hb; omega)
 have hsz3 := hF3.size
 have hsz34 := hf4.size
 clear hd3 hr3 hf4 hF3 hpr hpr3
 go_wp2_with fail
 refine (kSteps_ok w4 5 1 (by decide) (by decide)).mono ?_
 rintro e w5 ⟨ao, cap, rfl, hks⟩
 obtain ⟨g, rfl⟩ := own_someS hks.2 (Nat.le_refl _)
 have hE5 := hE4.fr hks.1 id id (fun _ _ => id)
 have hU5 : FU w5 F1 := fun b hb => by obtain ⟨c, t, hc, ht⟩ := hU4 b hb; exact ⟨c, t, hks.1.keep hc id, ht⟩
 have hpr5 := hpr4.fr hks.1 (fun _ _ => id)
 have hF5 := hF4.trans hks.1 (fun _ _ h => h)
 have hrows := own_rowsS hks.2
 have hsz4 := hks.1.size
 clear hks hE4 hU4 hpr4
 go_wp2_with fail
 have HS := hE5.sub (by decide) 5 (kst 5 1) cap hrows (fun _ => ⟨g, rfl⟩)
 rw [kst_len] at HS
 refine HS.mono ?_
 rintro e w6 ⟨v6, k6, L6, rs6, F6, rfl, hv6, hS6, hn6, hU6, hE6, hf6⟩
 obtain ⟨rfl, rfl, rfl⟩ : k6 = 0 ∧ L6 = [newA 5 (kst 5 1)] ∧ rs6 = [Rec.take 5 (kst 5 1)] := by
  rcases hS6 with ⟨h, _⟩ | ⟨_, a, ha, _⟩ | ⟨_, _, ⟨h1, h2, h3⟩ | ⟨_, h, _⟩⟩
  ·rw [kst_ok (by decide) (by decide) (by decide) (by decide)] at h; cases h
  ·cases ha
  ·exact ⟨h1, h2, h3⟩
  ·rw [kst_len] at h; simp at h
 obtain rfl := err0 hv6
 have hpF6 : ∀ b, PartF Pq (.slice none 0 0) (.slice none 0 0) lv b → ¬ (b = A ∨ b = B ∨ F1 b) := fun b hb h => by
  have h1 := hfo b hb
  rcases h with h | h | h
  ·exact h1.1 h
  ·exact h1.2 h
  ·obtain ⟨c, t, hc, ht⟩ := hpr5.ty hb
   exact hU5.ne hc (by intro hu; unfold EngU at hu; unfold PT at ht; rcases ht with rfl | rfl | rfl | rfl <;> revert hu <;> decide) h
 have hpr6 := hpr5.fr hf6 hpF6
 have hF6 : Fr (fun _ => False) w w6 := hF5.trans hf6 (fun b hb h => by
  rcases h with h | h | h
  ·omega
  ·omega
  ·have := hFn4 b h; have := hF4.size; omega)
 have hn6' : ∀ b, F6 b → w.heap.size ≤ b := fun b hb => by
  rcases hn6 b hb with h | h
  ·have := hFn4 b h; have := hF4.size; omega
  ·have := hF5.size; omega
 have hP6 : PrtI Pq w1.heap.size [] ⟨[], [], 0⟩ (PartF Pq (.slice none 0 0) (.slice none 0 0) lv) w6 := ⟨by have := hf6.size; omega, _, _, _, hpr6, fun _ => Iff.rfl⟩
 have HT := hE6.tick (ptn ask_nil_ok) (s0 := (⟨[], [], 0⟩ : PSt)) (by decide) (by decide) (by decide) (by decide) hP6 (by show max (max 0 0) 0 + 1 ≤ 20000000; decide)
 clear HS hS6 hv6 hf6 hpr5 hpr6 hE5 hU5 hF5 hrows hn6 hpF6
 go_wp2_with fail
 refine HT.mono ?_
 rintro e w7 ⟨rfl, F7, hn7, hU7, hE7, ⟨F0', hP7, hn07⟩, hf7⟩
 rw [show (0 : Int) + 1 = 1 from rfl, one_tick] at hE7 hP7
 have hF7 : Fr (fun _ => False) w w7 := hF6.trans hf7 (fun b hb h => by
  rcases h with h | h | h | h
  ·omega
  ·omega
  ·have := hn6' b h; omega
  ·rcases h with h | h | h | h
   ·omega
   ·cases h
   ·cases h
   ·have := hlv b h; omega)
 obtain ⟨_, lg7, ef7, l7, hpr7, _⟩ := hP7
 clear HT hE6 hf7 hF6 hP6 hn7 hn07
 go_wp2_with fail
 refine (hE7.sta 5).mono ?_
 rintro e w8 ⟨s8, v8, rfl, hf8, hc8⟩
 obtain ⟨rfl, hv8⟩ : s8 = ⟨5, 3, 0, 1, 0, 0⟩ ∧ ErrAt w8 v8 0 := by
  rcases hc8 with ⟨a, ha, _, rfl, h⟩ | ⟨h, _⟩
  ·obtain rfl := List.mem_singleton.1 ha
   exact ⟨rfl, h⟩
  ·exact absurd rfl (h _ (List.mem_singleton.2 rfl))
 obtain rfl := err0 hv8
 obtain ⟨ae, ce, rfl⟩ : ∃ ae ce, ef7 = .slice ae 1 ce := by
  rcases hpr7.eo.2 with ⟨_, h⟩ | ⟨g', cap', cur, h, _⟩
  ·cases h
  ·exact ⟨_, _, h⟩
 have hq8 : (w8.alloc (.cells #[.int .i64 5, .int .i64 3, .int .i64 0, .int .i64 1, .int .i64 0, .int .i64 0] 42)).cell? ⟨Pq, 1, none⟩ = some (.slice ae 1 ce) := (cell_of_row _ Pq 1 _ _ _ (((Fr.refl (fun _ => False) w8).alloc _).keep (hf8.keep hpr7.p id) id)).trans rfl
 have hF8 : Fr (fun _ => False) w w8 := hF7.trans hf8 (fun _ _ h => h)
 have hF9 : Fr (fun _ => False) w (w8.alloc (.cells #[.int .i64 5, .int .i64 3, .int .i64 0, .int .i64 1, .int .i64 0, .int .i64 0] 42)) := hF8.alloc _
 clear hc8 hv8 hf8 hF7 hE7 hU7 hpr7 hF8 hF4 hFn4 hfo hU6 hn6' hlv hPq
 unfold ST.cs
 go_wp2_with fail
 clear hq8
 generalize w8.alloc (.cells #[.int .i64 5, .int .i64 3, .int .i64 0, .int .i64 1, .int .i64 0, .int .i64 0] 42) = w9 at *
 refine (NewDisk_ok n w9).mono ?_
 rintro e w10 ⟨A2, B2, rfl, hA2, hB2, hd, hr, hf10⟩
 have en : nblk n = n := by unfold nblk; rw [if_neg (by omega)]; omega
 rw [en] at hd hr
 have hz9 := hF9.size
 have hF10 := hF9.trans hf10 (fun _ _ h => h)
 clear hf10
 go_wp2_with fail
 refine (pFormat_ok hd hr (by omega) (by omega) (by omega) (by omega) n8 n4).mono ?_
 rintro e w11 ⟨v11, rfl, hv11, bs11, hd11, hr11, rfl, hf11⟩
 obtain rfl := err0 hv11
 have hF11 : Fr (fun _ => False) w w11 := hF10.trans hf11 (fun b _ h => by omega)
 clear hf11 hd hr hF10
 go_wp2_with fail
 refine (open0 (Pp := Pp) pause hp1 hp2 hd11 hr11 (by omega) (by omega) (by omega) (by omega) n8 n4).mono ?_
 rintro e w12 ⟨X2, F2, rfl, hE12, hU12, hFn12, hf12⟩
 have HQ : Hid (BegunQ w n Pp pause (.returned (.tuple #[.pointer (some ⟨A2, 0, none⟩), .pointer (some ⟨X2, 0, none⟩)])) w12) := ⟨X2, A2, B2, F2, rfl, hE12, hU12, fun b hb => Nat.le_trans hF11.size (hFn12 b hb), by omega, by omega, hF11.trans hf12 (fun b _ h => by omega)⟩
 clear hE12 hU12 hFn12 hf12 hd11 hr11 hF11
 go_wp2
 go_ret2
 exact HQ.out
end Go.Proofs.YteebjgfalllbjaaGreatDoor
namespace Go.Proofs.YteebjgfalllbjaaGreatDoor
open Go.RowKit
theorem layJ_of {n : Nat} {recs : List (List Value)} (hl : ∀ r ∈ recs, RecOk r) (hlen : (layB n recs).length = n * 128) (hone : U8s (layB n recs)) : LayJ n n (layB n recs) recs zB := by
 have hl' : ∀ r ∈ recs, r.length = 128 := fun r hr => (hl r hr).1
 refine ⟨Nat.le_refl _, hlen, hone, ?_, fun i r hr => layB_get n recs i r hr hl', fun h => ⟨layB_zero n recs hl' _ (by omega) h, torn_zB⟩, fun i h1 h2 => layB_zero n recs hl' i (by omega) h2⟩
 have := layB_head n recs
 unfold blkOf
 rw [Nat.zero_mul, List.drop_zero]
 exact this
section
variable {w w' : World} {k X A B n : Nat} {clock pause : Int} {cv : Value} {L : List AS} {rs : List Rec} {s : DS} {C F : Nat → Prop}
theorem EN.eg (h : EN w k X A B n clock pause cv L rs F) (b0 : Nat) (hG : 0 < b0) (hA : b0 ≤ A) (hB : b0 ≤ B) (hF : ∀ b, F b → b0 ≤ b) : ∃ s, EG w k X A B n clock pause cv L rs s (fun _ => False) F ∧ s.d.good ∧ s.ents = [] ∧ JZ n s (rs.map Rec.bytes) := by
 obtain ⟨hp, J, R, V, base, room, ev, es, sb, calls, writes, ⟨h3, h4, h5, h6⟩, gd⟩ := h
 have hJ : b0 ≤ J := hF _ (gd.f _ (.inr (.inl rfl)))
 have hAl := lt_of_heap gd.E.jn.d
 have hd : DSAt w A B n b0 (.slice none 0 0) ⟨⟨calls, writes, 0, -1, 0, 0, n⟩, [], layB n (rs.map Rec.bytes)⟩ :=
  ⟨DkAt.of gd.E.jn.d, gd.E.jn.r, ⟨World.ownsRow_nil _ _ _ _, by show (0 : Nat) < _; omega, (fun p hp => absurd hp (by simp)), (fun p hp => absurd hp (by simp)), (fun p hp => absurd hp (by simp))⟩, by omega, Nat.le_refl _⟩
 have hS : JSet n ⟨⟨calls, writes, 0, -1, 0, 0, n⟩, [], layB n (rs.map Rec.bytes)⟩ (rs.map Rec.bytes) := ⟨layJ_of (recs_bytes hp.ok) gd.E.jn.r.2.1 (lay_u8 hp.n4 hp.ok), rfl⟩
 refine ⟨_, ⟨hp, ⟨h3, h4, h5, h6, Int.le_refl _, by show (0 : Int) ≤ _; omega, Nat.zero_le _⟩, hS.jd, J, R, V, base, b0, room, ev, .slice none 0 0, es, sb, fun _ => hS, ⟨gd.E.eng, gd.E.roll, ⟨gd.E.jn.v, hd, ?_⟩, ⟨hG, hA, hB, hJ⟩, gd.m, gd.rm, gd.b, gd.f⟩, fun b hb => by cases hb⟩, ⟨by show (-1 : Int) < 0; omega, by show (0 : Int) ≤ 0; omega⟩, rfl, hS.jz⟩
 have := gd.E.jn.j
 push_cast at this ⊢
 exact this
theorem EG.off (h : EG w k X A B n clock pause cv L rs s C F) (hk : k < 80000) (j : Int) (hj : 0 ≤ j) (hj1 : j ≤ 1000) :
  Calls Tryz.prog 30 #[.pointer (some ⟨A, 0, none⟩), .int .i64 j] w fun e w' => e = .returned (.tuple #[]) ∧ EG w' k X A B n clock pause cv L rs ⟨{ s.d with off := s.d.calls + j }, s.ents, s.bs⟩ C F ∧ Fr (· = A) w w' := by
 obtain ⟨hp, hb, hjd, J, R, V, base, dbase, room, ev, cache, es, sb, hs, g, hc⟩ := h
 have hb1 := hb.c1
 refine (Off_gen g.jn.d.d hb.c0 (by omega) j hj hj1).mono ?_
 rintro e w' ⟨rfl, hd, hf⟩
 have hd' : DSAt w' A B n dbase cache ⟨{ s.d with off := s.d.calls + j }, s.ents, s.bs⟩ :=
  ⟨hd, ⟨hf.keep g.jn.d.r.1 (fun e => g.jn.d.ne.1 e.symm), g.jn.d.r.2⟩, g.jn.d.q.fr hf (fun b c hb _ e => by rw [e, g.jn.d.d] at hb; simp at hb), Nat.le_trans g.jn.d.b hf.size, g.jn.d.c⟩
 have nX : X ≠ A := fun e => by have := g.eng; rw [e] at this; have := this.symm.trans g.jn.d.d; simp at this
 have nV : V ≠ A := g.jn.v.neK g.jn.d.d
 have nJ : J ≠ A := fun e => by have := g.jn.j; rw [e] at this; have := this.symm.trans g.jn.d.d; simp at this
 refine ⟨rfl, ⟨hp, ⟨hb.c0, hb.c1, hb.w0, hb.w1, hb.t0, hb.t1, hb.e⟩, hjd.keep rfl rfl rfl, J, R, V, base, dbase, room, ev, cache, es, sb, hs, ⟨hf.keep g.eng nX, g.roll.fr hf (fun b hb e => (g.dis b hb).1 (.inl (.inl e))), ⟨g.jn.v.fr hf nV, hd', g.jn.j.fr hf nJ⟩, g.hi, g.m, g.rm, Nat.le_trans g.b hf.size, g.f⟩, hc⟩, hf⟩
theorem DG.cut {recs : List (List Value)} (h : DG w k A B n s C) (hj : JD n s recs) (hl : recs.length < n) (hn4 : n ≤ 400) {la : Option Addr} {zs : List Int} {kc : Nat} (hz : IntsAt w la zs) (hz1 : zs.length < 1000) :
  Calls Tryz.prog 32 #[.pointer (some ⟨A, 0, none⟩), .slice la zs.length kc] w fun e w' => ∃ A' B' s' recs', e = .returned (.pointer (some ⟨A', 0, none⟩)) ∧ DG w' 1 A' B' n s' (fun _ => False) ∧ s'.d.good ∧ s'.ents = [] ∧ JZ n s' recs' ∧ (recs' = recs ∨ (¬ JZ n s recs ∧ ∃ r, recs = recs' ++ [r])) ∧ w.heap.size ≤ A' ∧ w.heap.size ≤ B' ∧ Fr (fun _ => False) w w' ∧ s'.d.writes = 0 := by
 obtain ⟨hb, base, cache, hd, hc, h1, h2, h3⟩ := h
 have hAl := hd.d.lt
 refine (After_ok hd (by omega) hn4 hz hz1).mono ?_
 rintro e w' ⟨A', B', cap', rfl, hd', hA', hB', hf⟩
 have hc' := hd'.c
 by_cases hJZ : JZ n s recs
 ·obtain ⟨tl', hL⟩ := hJZ.crash hl hc' zs
  exact ⟨A', B', _, recs, rfl, ⟨⟨Int.le_refl _, by show (0 : Int) ≤ _; omega, Int.le_refl _, by show (0 : Int) ≤ _; omega, Int.le_refl _, by show (0 : Int) ≤ _; omega, Nat.zero_le _⟩, w.heap.size, _, hd', (fun b hb => by cases hb), by omega, hA', hB'⟩, ⟨by show (-1 : Int) < 0; omega, by show (0 : Int) ≤ 0; omega⟩, rfl, ⟨tl', hL, fun p hp => absurd hp (by simp)⟩, .inl rfl, hA', hB', hf, rfl⟩
 ·obtain ⟨recs', tl', hL, hr⟩ := hj.crash hl hc' zs
  exact ⟨A', B', _, recs', rfl, ⟨⟨Int.le_refl _, by show (0 : Int) ≤ _; omega, Int.le_refl _, by show (0 : Int) ≤ _; omega, Int.le_refl _, by show (0 : Int) ≤ _; omega, Nat.zero_le _⟩, w.heap.size, _, hd', (fun b hb => by cases hb), by omega, hA', hB'⟩, ⟨by show (-1 : Int) < 0; omega, by show (0 : Int) ≤ 0; omega⟩, rfl, ⟨tl', hL, fun p hp => absurd hp (by simp)⟩, hr.imp_right (fun h => ⟨hJZ, h.2⟩), hA', hB', hf, rfl⟩
theorem DG.open {Pp : Nat} (h : DG w k A B n s C) (hj : JD n s (rs.map Rec.bytes)) (hk : k < 60000) (p : Int) (hp1 : 1 ≤ p) (hp2 : p ≤ 64) (n8 : 8 ≤ n) (n4 : n ≤ 400) (hok : RecsOk rs) (hnd : needC rs ≤ n - 1) (hg : s.d.good) (hG : GOk w) :
  Calls Tryz.prog 33 #[.pointer (some ⟨A, 0, none⟩), .int .i64 p, .pointer (some ⟨Pp, 0, none⟩)] w fun e w' => ∃ X F c, e = .returned (.tuple #[.pointer (some ⟨X, 0, none⟩), .nilIface]) ∧ EG w' (k + 1) X A B n 0 p (askV Pp) (recL rs) rs (s.after c) C F ∧ FU w' F ∧ (∀ b, F b → w.heap.size ≤ b) ∧ Fr (fun b => b = A) w w' := by
 refine pOpen_any ((sOpenG h hj hk p hp1 hp2 n8 n4 hok hnd (fun h => absurd hg h) hG).mono ?_)
 rintro e w' ⟨hf, ⟨X, F, c, rfl, hc, h1, h2, h3⟩ | ⟨v, c, rfl, hc, h1, h2, h3⟩⟩
 ·exact ⟨_, _, rfl, X, F, c, rfl, h1, h2, h3, hf⟩
 ·exact absurd hg h2
end
end Go.Proofs.YteebjgfalllbjaaGreatDoor
namespace Go.Proofs.YteebjgfalllbjaaGreatDoor
open Go.RowKit
section
variable {w : World} {X J R : Nat} {clock pause : Int} {cv : Value}
set_option maxRecDepth 100000 in
theorem submit_failed (he : EngB w X J R true clock pause cv) (id : Int) {ao : Option Addr} (n m : Nat) :
  Calls Tryz.prog 42 #[.pointer (some ⟨X, 0, none⟩), .int .i64 id, .slice ao n m] w fun e w' => e = .returned (errE 4) ∧ w' = w := by
 have c2 : w.cell? ⟨X, 2, none⟩ = some (.bool true) := (cell_of_row _ X 2 _ _ _ he).trans rfl
 unfold errE
 go_enter Tryz.func42, Tryz.ntmps42
 go_wp2
 go_ret
 exact ⟨rfl, rfl⟩
set_option maxRecDepth 100000 in
theorem tick_failed (he : EngB w X J R true clock pause cv) : Calls Tryz.prog 43 #[.pointer (some ⟨X, 0, none⟩)] w fun e w' => e = .returned (errE 4) ∧ w' = w := by
 have c2 : w.cell? ⟨X, 2, none⟩ = some (.bool true) := (cell_of_row _ X 2 _ _ _ he).trans rfl
 unfold errE
 go_enter Tryz.func43, Tryz.ntmps43
 go_wp2
 go_ret
 exact ⟨rfl, rfl⟩
set_option maxRecDepth 100000 in
theorem eTick_err {Q : World → Prop} {k : Int} (hk : k ≠ 0) (h : Calls Tryz.prog 43 #[.pointer (some ⟨X, 0, none⟩)] w fun e w' => e = .returned (errE k) ∧ Q w') :
  Calls Tryz.prog 23 #[.pointer (some ⟨X, 0, none⟩)] w fun e w' => ∃ v w2, e = .returned v ∧ ErrAt w' v k ∧ Q w2 ∧ Fr (fun _ => False) w2 w' := by
 go_enter Tryz.func23, Tryz.ntmps23
 go_wp2_with fail
 refine h.mono ?_
 rintro e w2 ⟨rfl, hQ⟩
 unfold errE
 go_wp2_with fail
 refine (wrapped_err _ k _).mono ?_
 rintro e w3 ⟨rfl, rfl⟩
 have HQ : Hid (Q w2) := hQ
 clear hQ
 go_wp2
 go_ret
 exact ⟨_, w2, rfl, Or.inr ⟨_, _, rfl, heap_alloc_at _ _, hk⟩, HQ.out, (Fr.refl _ _).alloc _⟩
end
section
variable {w : World} {X n : Nat} {clock pause : Int} {cv : Value} {L : List AS} {rs : List Rec} {F : Nat → Prop}
theorem ED.sub (h : ED w X n clock pause cv L rs F) (id : Int) {ao : Option Addr} (k m : Nat) : Calls Tryz.prog 21 #[.pointer (some ⟨X, 0, none⟩), .int .i64 id, .slice ao k m] w fun e w' => ∃ v, e = .returned v ∧ ErrAt w' v 4 ∧ Fr (fun _ => False) w w' := by
 obtain ⟨_, J, R, base, room, ev, es, he, _⟩ := h
 refine (eSubmit_err (k := 4) (by decide) (submit_failed he id k m)).mono ?_
 rintro e w' ⟨v, w2, rfl, hv, rfl, hf⟩
 exact ⟨v, rfl, hv, hf⟩
theorem ED.tick (h : ED w X n clock pause cv L rs F) : Calls Tryz.prog 23 #[.pointer (some ⟨X, 0, none⟩)] w fun e w' => ∃ v, e = .returned v ∧ ErrAt w' v 4 ∧ Fr (fun _ => False) w w' := by
 obtain ⟨_, J, R, base, room, ev, es, he, _⟩ := h
 refine (eTick_err (k := 4) (by decide) (tick_failed he)).mono ?_
 rintro e w' ⟨v, w2, rfl, hv, rfl, hf⟩
 exact ⟨v, rfl, hv, hf⟩
theorem ED.fr {S : Nat → Prop} {w' : World} (h : ED w X n clock pause cv L rs F) (hf : Fr S w w') (hF : ∀ b, F b → ¬ S b) : ED w' X n clock pause cv L rs F := by
 obtain ⟨hp, J, R, base, room, ev, es, he, hr, hm, hX, hR⟩ := h
 exact ⟨hp, J, R, base, room, ev, es, hf.keep he (hF X hX), hr.fr hf (fun b hb => hF b (hR b hb)), hm, hX, hR⟩
end
end Go.Proofs.YteebjgfalllbjaaGreatDoor
