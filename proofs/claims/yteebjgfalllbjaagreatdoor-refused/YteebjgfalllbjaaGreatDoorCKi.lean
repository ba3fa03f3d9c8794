import Derived.Test.YteebjgfalllbjaaGreatDoorCKfKgKh
namespace Go.Proofs.YteebjgfalllbjaaGreatDoor
open Go.RowKit
/-- While sagas are submitted to an engine on a new disk, with a partner that is asked for nothing. -/
structure RfI (w0 : World) (s X A B Pp : Nat) (L : List AS) (rs : List Rec) (w : World) : Prop where
  e : ∃ F, EN w s X A B 120 0 2 (askV Pp) L rs F ∧ FU w F ∧ ∀ b, F b → w0.heap.size ≤ b
  ab : w0.heap.size ≤ A ∧ w0.heap.size ≤ B ∧ w0.heap.size ≤ Pp
  f : Fr (fun _ => False) w0 w
  p : ∃ ef l, w.heap[Pp]? = some (.cells #[.slice none 0 0, ef, l, .int .i64 0] 48 (0, 0))
section
variable {w0 w w' : World} {s X A B Pp : Nat} {L : List AS} {rs : List Rec}
theorem RfI.frz (h : RfI w0 s X A B Pp L rs w) (hf : Fr (fun _ => False) w w') : RfI w0 s X A B Pp L rs w' := by
  obtain ⟨⟨F, h1, h2, h3⟩, h4, h5, ef, l, h6⟩ := h
  exact ⟨⟨F, h1.fr hf id id (fun _ _ => id), fun b hb => by obtain ⟨c, t, hc, ht⟩ := h2 b hb; exact ⟨c, t, hf.keep hc id, ht⟩, h3⟩, h4, h5.trans hf (fun _ _ h => h), ef, l, hf.keep h6 id⟩
theorem RfI.sta (h : RfI w0 s X A B Pp L rs w) (id : Int) : Calls Tryz.prog 24 #[.pointer (some ⟨X, 0, none⟩), .int .i64 id] w fun e w' => StatA L id w e w' := by
  obtain ⟨⟨F, h1, h2, h3⟩, _⟩ := h
  exact h1.sta id
theorem RfI.bytes (h : RfI w0 s X A B Pp L rs w) : Calls Tryz.prog 28 #[.pointer (some ⟨A, 0, none⟩)] w fun e w' => e = .returned (.string (bytesT (layB 120 (rs.map Rec.bytes)))) ∧ Fr (fun _ => False) w w' := by
  obtain ⟨⟨F, h1, h2, h3⟩, _⟩ := h
  obtain ⟨calls, writes, hd, hr⟩ := h1.disk
  exact Bytes_ok w hd hr (by decide) (by decide) (lay_u8 (by decide) h1.1.ok)
theorem RfI.sub (h : RfI w0 s X A B Pp L rs w) (hs : s < 60000) (id : Int) (st : List SS) {ao : Option Addr} (cap : Nat) (hrows : RowsOf w ao 2 (st.map stv)) (hao : sagaOk id st = true → ∃ g, ao = some ⟨g, 0, none⟩) :
    Calls Tryz.prog 21 #[.pointer (some ⟨X, 0, none⟩), .int .i64 id, .slice ao st.length cap] w fun e w' => ∃ v kk L' rs', e = .returned v ∧ ErrAt w' v kk ∧ SubC L rs id st 120 kk L' rs' ∧ RfI w0 (s + 1) X A B Pp L' rs' w' ∧ (∀ v' k', ErrAt w v' k' → ErrAt w' v' k') ∧ ∀ (b : Nat) (c : Array Value), w.heap[b]? = some (.cells c 42 (0, 0)) → w'.heap[b]? = some (.cells c 42 (0, 0)) := by
  obtain ⟨⟨F, h1, h2, h3⟩, h4, h5, ef, l, h6⟩ := h
  obtain ⟨calls, writes, hd, hr⟩ := h1.disk
  refine (h1.sub hs id st cap hrows hao).mono ?_
  rintro e w' ⟨v, kk, L', rs', F', rfl, hv, hS, hn, hU, hE, hf⟩
  have ne : ∀ b c t, w.heap[b]? = some (.cells c t (0, 0)) → ¬ EngU t → t ≠ 96 → t ≠ 97 → ¬ (b = A ∨ b = B ∨ F b) := by
    intro b c t hb ht t1 t2 h
    rcases h with h | h | h
    · rw [h] at hb; have := hb.symm.trans hd; simp [dcells] at this; exact t1 this.2
    · rw [h] at hb; have := hb.symm.trans hr.1; simp at this; exact t2 this.2
    · exact h2.ne hb ht h
  refine ⟨v, kk, L', rs', rfl, hv, hS, ⟨⟨F', hE, hU, fun b hb => ?_⟩, h4, ?_, ef, l, hf.keep h6 (ne _ _ _ h6 (by unfold EngU; decide) (by decide) (by decide))⟩, fun v' k' hk => hk.fr hf (fun b c hb => ne b c _ hb (by unfold EngU; decide) (by decide) (by decide)), fun b c hb => hf.keep hb (ne b c _ hb (by unfold EngU; decide) (by decide) (by decide))⟩
  · rcases hn b hb with h | h
    · exact h3 b h
    · exact Nat.le_trans h5.size h
  · refine h5.trans hf (fun b hb h => ?_)
    rcases h with h | h | h
    · omega
    · omega
    · have := h3 b h; omega
end
theorem kst_ne {n : Nat} (h : 1 ≤ n) : kst 1 n ≠ kst 2 n := by
  intro e
  obtain ⟨m, rfl⟩ : ∃ m, n = m + 1 := ⟨n - 1, by omega⟩
  have h0 : (kst 1 (m + 1))[0]? = (kst 2 (m + 1))[0]? := by rw [e]
  have h1 : ∀ a, (kst a (m + 1))[0]? = some (kstr 100 a 0, kstr 117 a 0) := fun a => by simp [kst]
  rw [h1, h1] at h0
  have h2 : kstr 100 1 0 = kstr 100 2 0 := by simp at h0; exact h0.1
  have h3 : (kstr 100 1 0).data = (kstr 100 2 0).data := by rw [h2]
  revert h3
  decide
theorem frz_err {w w' : World} {v : Value} {k : Int} (h : ErrAt w v k) (hf : Fr (fun _ => False) w w') : ErrAt w' v k := h.fr hf (fun _ _ _ => id)
theorem sta_one {w w' : World} {K : Nat} {s : ST} {v : Value} (h : (∃ a ∈ [newA 7 (kst 1 K)], a.id = 7 ∧ s = a.told ∧ ErrAt w v 0) ∨ ((∀ a ∈ [newA 7 (kst 1 K)], a.id ≠ 7) ∧ s = zST ∧ ErrAt w' v 9)) : s = ⟨7, 1, 1, K, 0, 0⟩ ∧ v = .nilIface := by
  rcases h with ⟨a, ha, _, rfl, h⟩ | ⟨h, _⟩
  · obtain rfl := List.mem_singleton.1 ha
    exact ⟨by simp [AS.told, newA, kst_len], err0 h⟩
  · exact absurd rfl (h _ (List.mem_singleton.2 rfl))
theorem sub_bad {L L' : List AS} {rs rs' : List Rec} {id : Int} {st : List SS} {n : Nat} {k : Int} (hb : sagaOk id st = false) (h : SubC L rs id st n k L' rs') : k = 1 ∧ L' = L ∧ rs' = rs := by
  rcases h with ⟨_, h⟩ | ⟨h, _⟩ | ⟨h, _⟩
  · exact h
  · rw [hb] at h; cases h
  · rw [hb] at h; cases h
theorem err_some {w : World} {v : Value} {k : Int} (h : ErrAt w v k) (hk : k ≠ 0) : ∃ g, v = .iface 117 (.pointer (some ⟨g, 0, none⟩)) := by
  rcases h with ⟨_, h⟩ | ⟨g, _, h, _⟩
  · exact absurd h hk
  · exact ⟨g, h⟩
theorem six6 {w : World} {g : Nat} {v0 v1 v2 v3 v4 v5 : Value} {t : TypeId} (h : w.heap[g]? = some (.cells #[v0, v1, v2, v3, v4, v5] t (0, 0))) : w.cell? ⟨g, 0, none⟩ = some v0 ∧ w.cell? ⟨g, 1, none⟩ = some v1 ∧ w.cell? ⟨g, 2, none⟩ = some v2 ∧ w.cell? ⟨g, 3, none⟩ = some v3 ∧ w.cell? ⟨g, 4, none⟩ = some v4 ∧ w.cell? ⟨g, 5, none⟩ = some v5 :=
  ⟨(cell_of_row w g 0 _ _ _ h).trans rfl, (cell_of_row w g 1 _ _ _ h).trans rfl, (cell_of_row w g 2 _ _ _ h).trans rfl, (cell_of_row w g 3 _ _ _ h).trans rfl, (cell_of_row w g 4 _ _ _ h).trans rfl, (cell_of_row w g 5 _ _ _ h).trans rfl⟩
theorem RfI.frS {w0 w w' : World} {s X A B Pp g : Nat} {L : List AS} {rs : List Rec} {c : Array Value} (h : RfI w0 s X A B Pp L rs w) (hf : Fr (fun b => b = g) w w') (hg : w.heap[g]? = some (.cells c 58 (0, 0))) (hlo : w0.heap.size ≤ g) : RfI w0 s X A B Pp L rs w' := by
  obtain ⟨⟨F, h1, h2, h3⟩, h4, h5, ef, l, h6⟩ := h
  obtain ⟨calls, writes, hd, hr⟩ := h1.disk
  have hA : ¬ A = g := fun e => by have := hd; rw [e] at this; have := this.symm.trans hg; simp [dcells] at this
  have hB : ¬ B = g := fun e => by have := hr.1; rw [e] at this; have := this.symm.trans hg; simp at this
  have hP : ¬ Pp = g := fun e => by have := h6; rw [e] at this; have := this.symm.trans hg; simp at this
  have hF : ∀ b, F b → ¬ b = g := fun b hb e => h2.ne hg (by unfold EngU; decide) (e ▸ hb)
  exact ⟨⟨F, h1.fr hf hA hB hF, fun b hb => by obtain ⟨c, t, hc, ht⟩ := h2 b hb; exact ⟨c, t, hf.keep hc (hF b hb), ht⟩, h3⟩, h4, h5.trans hf (fun b hb h => by omega), ef, l, hf.keep h6 hP⟩
theorem kst_cons {id n : Nat} (h : 1 ≤ n) : ∃ r, kst id n = (kstr 100 id 0, kstr 117 id 0) :: r ∧ r.length + 1 = n ∧ ∀ p ∈ r, p.1.size = 3 ∧ p.2.size = 3 := by
  obtain ⟨m, rfl⟩ : ∃ m, n = m + 1 := ⟨n - 1, by omega⟩
  have h8 := kst_8 id (m + 1)
  have hl := kst_len id (m + 1)
  have h0 : (kst id (m + 1))[0]? = some (kstr 100 id 0, kstr 117 id 0) := by simp [kst]
  generalize kst id (m + 1) = l at *
  cases l with
  | nil => simp at h0
  | cons a r =>
    obtain rfl : a = _ := by simpa using h0
    exact ⟨r, rfl, by simpa using hl, fun p hp => h8 p (by simp [hp])⟩
theorem own_first {W : World} {b0 g cap M : Nat} {p : SS} {st : List SS} (h : W.ownsRow b0 58 2 (.slice (some ⟨g, 0, none⟩) M cap) M (scells (p :: st))) :
    W.cell? ⟨g, 1, none⟩ = some (.string p.2) ∧ W.frozen? ⟨g, 1, none⟩ = false ∧ b0 ≤ g ∧ (∃ c, W.heap[g]? = some (.cells c 58 (0, 0))) ∧ ∀ u, (W.setCell ⟨g, 1, none⟩ (.string u)).ownsRow b0 58 2 (.slice (some ⟨g, 0, none⟩) M cap) M (scells ((p.1, u) :: st)) := by
  have hlen := h.1
  rcases h.2 with ⟨hv, _⟩ | ⟨g', cap', cur, hv, hb, hg, hn, hm, hs, hx⟩
  · cases hv
  cases hv
  have hl2 : (scells (p :: st)).length = 2 + (scells st).length := by simp [scells, stv]; omega
  have hc1 : cur[1]? = some (.string p.2) := by
    have h1 : (scells (p :: st))[1]? = some (.string p.2) := by simp [scells, stv]
    rw [← hx, List.getElem?_take] at h1
    split at h1
    · simpa using h1
    · cases h1
  refine ⟨(cell_of_row W g 1 _ _ _ hg).trans hc1, frozen_of_row W g 1 _ _ hg, hb, ⟨_, hg⟩, fun u => ⟨by rw [← hlen]; simp [scells, stv], .inr ⟨g, cap, _, rfl, hb, heap_setCell_at W g 1 _ _ _ hg, hn, hm, by simpa using hs, ?_⟩⟩⟩
  have e : (cur.setIfInBounds 1 (.string u)).toList = cur.toList.set 1 (.string u) := by simp
  rw [e, List.take_set, hx]
  simp [scells, stv]
set_option maxRecDepth 100000 in
set_option maxHeartbeats 8000000 in
theorem refused_ok (w : World) (c id n long : Int) (hc : I64 c) (hn : I64 n) (hlg : I64 long) (hG : GOk w) : Calls Tryz.prog 9 #[.int .i64 c, .int .i64 id, .int .i64 n, .int .i64 long] w fun e w' => e = .returned (.bool true) ∧ Fr (fun _ => False) w w' := by
  obtain ⟨hc1, hc2⟩ := hc
  obtain ⟨hn1, hn2⟩ := hn
  obtain ⟨hl1, hl2⟩ := hlg
  obtain ⟨K, hK⟩ : ∃ K, K = kmn c 1 := ⟨_, rfl⟩
  have hKi := kmn_in c 1
  rw [← hK] at hKi
  go_enter Tryz.func9, Tryz.ntmps9
  go_wp2_with fail
  refine (NewPartner_rows (rl := []) (World.ownsRow_nil w 0 _ _) (by decide)).mono ?_
  rintro e w1 ⟨Pp, lv, rfl, hPp, hpr, hlv, hf1⟩
  have hz1 := hf1.size
  go_wp2_with fail
  refine (kBegun_ok w1 120 Pp 2 (by decide) (by decide) (by decide) (by decide)).mono ?_
  rintro e w2 ⟨X, A, B, F, rfl, hE, hU, hFn, hA, hB, hf2⟩
  have HI : RfI w 1 X A B Pp [] [] w2 := ⟨⟨F, hE, hU, fun b hb => Nat.le_trans hz1 (hFn b hb)⟩, ⟨Nat.le_trans hz1 hA, Nat.le_trans hz1 hB, hPp⟩, hf1.trans hf2 (fun _ _ h => h), _, _, hf2.keep hpr.p (fun h => h)⟩
  clear hE hU hFn hA hB hf2 hpr hlv hf1 hPp hz1
  go_wp2_with fail
  refine (kMany_ok c 1 w2 hc1 hc2 (by decide) (by decide)).mono ?_
  rw [← hK]
  rintro e w' ⟨rfl, rfl⟩
  clear hK
  go_wp2_with fail
  refine (kSteps_ok w' 1 K (by decide) (by omega)).mono ?_
  rintro e w3 ⟨ao, cap, rfl, hks⟩
  obtain ⟨g, rfl⟩ := own_someS hks.2 hKi.1
  have HI3 := HI.frz hks.1
  have HS := HI3.sub (by decide) 7 (kst 1 K) cap (own_rowsS hks.2) (fun _ => ⟨g, rfl⟩)
  rw [kst_len] at HS
  clear HI HI3 hks
  go_wp2_with fail
  refine HS.mono ?_
  rintro e w4 ⟨v4, k4, L4, rs4, rfl, hv4, hS4, HI4, _, _⟩
  obtain ⟨rfl, rfl⟩ : k4 = 0 ∧ L4 = [newA 7 (kst 1 K)] := by
    rcases hS4 with ⟨h, _⟩ | ⟨_, a, ha, _⟩ | ⟨_, _, ⟨h1, h2, h3⟩ | ⟨_, h, _⟩⟩
    · rw [kst_ok hKi.1 hKi.2 (by decide) (by decide)] at h; cases h
    · cases ha
    · exact ⟨h1, h2⟩
    · rw [kst_len] at h; simp at h; omega
  obtain rfl := err0 hv4
  clear HS hS4 hv4
  go_wp2_with fail
  refine HI4.bytes.mono ?_
  generalize hBT : bytesT (layB 120 (rs4.map Rec.bytes)) = BT
  rintro e w5 ⟨rfl, hf5⟩
  have HI5 := HI4.frz hf5
  clear HI4 hf5
  go_wp2_with fail
  refine (HI5.sta 7).mono ?_
  rintro e w6 ⟨s6, v6, rfl, hf6, hc6⟩
  obtain ⟨rfl, hv6⟩ : s6 = ⟨7, 1, 1, K, 0, 0⟩ ∧ ErrAt w6 v6 0 := by
    rcases hc6 with ⟨a, ha, _, rfl, h⟩ | ⟨h, _⟩
    · obtain rfl := List.mem_singleton.1 ha
      exact ⟨by simp [AS.told, newA, kst_len], h⟩
    · exact absurd rfl (h _ (List.mem_singleton.2 rfl))
  obtain rfl := err0 hv6
  have HI6 := HI5.frz hf6
  clear HI5 hf6 hc6 hv6
  unfold ST.cs
  go_wp2_with fail
  have hfa : Fr (fun _ => False) w6 (w6.alloc (.cells #[.int .i64 7, .int .i64 1, .int .i64 1, .int .i64 K, .int .i64 0, .int .i64 0] 42)) := (Fr.refl _ _).alloc _
  have hst6 := heap_alloc_at w6 (.cells #[.int .i64 7, .int .i64 1, .int .i64 1, .int .i64 K, .int .i64 0, .int .i64 0] 42)
  have HI7 := HI6.frz hfa
  clear hfa HI6
  generalize w6.alloc (.cells #[.int .i64 7, .int .i64 1, .int .i64 1, .int .i64 K, .int .i64 0, .int .i64 0] 42) = w7 at *
  generalize w6.heap.size = a0 at *
  refine (kSteps_ok w7 1 K (by decide) (by omega)).mono ?_
  rintro e w8 ⟨ao, cap8, rfl, hks⟩
  obtain ⟨g8, rfl⟩ := own_someS hks.2 hKi.1
  have hst8 := hks.1.keep hst6 (fun h => h)
  have HI8 := HI7.frz hks.1
  have HS := HI8.sub (by decide) 7 (kst 1 K) cap8 (own_rowsS hks.2) (fun _ => ⟨g8, rfl⟩)
  rw [kst_len] at HS
  clear HI7 HI8 hks hst6
  go_wp2_with fail
  refine HS.mono ?_
  rintro e w9 ⟨v9, k9, L9, rs9, rfl, hv9, hS9, HI9, _, hkp⟩
  obtain ⟨rfl, rfl, rfl⟩ : k9 = 0 ∧ L9 = [newA 7 (kst 1 K)] ∧ rs9 = rs4 := by
    rcases hS9 with ⟨h, _⟩ | ⟨_, a, ha, _, h1, h2, h3⟩ | ⟨_, h, _⟩
    · rw [kst_ok hKi.1 hKi.2 (by decide) (by decide)] at h; cases h
    · obtain rfl := List.mem_singleton.1 ha
      exact ⟨h1.trans (if_pos rfl), h2, h3⟩
    · exact absurd rfl (h _ (List.mem_singleton.2 rfl))
  obtain rfl := err0 hv9
  have hst9 := hkp _ _ hst8
  clear HS hS9 hv9 hst8 hkp
  go_wp2_with fail
  refine (kSteps_ok w9 2 K (by decide) (by omega)).mono ?_
  rintro e w10 ⟨ao, cap10, rfl, hks⟩
  obtain ⟨g10, rfl⟩ := own_someS hks.2 hKi.1
  have hst10 := hks.1.keep hst9 (fun h => h)
  have HI10 := HI9.frz hks.1
  have HS := HI10.sub (by decide) 7 (kst 2 K) cap10 (own_rowsS hks.2) (fun _ => ⟨g10, rfl⟩)
  rw [kst_len] at HS
  clear HI9 HI10 hks hst9
  go_wp2_with fail
  refine HS.mono ?_
  rintro e w11 ⟨v11, k11, L11, rs11, rfl, hv11, hS11, HI11, _, hkp⟩
  obtain ⟨rfl, rfl, rfl⟩ : k11 = 2 ∧ L11 = [newA 7 (kst 1 K)] ∧ rs11 = rs9 := by
    rcases hS11 with ⟨h, _⟩ | ⟨_, a, ha, _, h1, h2, h3⟩ | ⟨_, h, _⟩
    · rw [kst_ok hKi.1 hKi.2 (by decide) (by decide)] at h; cases h
    · obtain rfl := List.mem_singleton.1 ha
      exact ⟨h1.trans (if_neg (kst_ne hKi.1)), h2, h3⟩
    · exact absurd rfl (h _ (List.mem_singleton.2 rfl))
  have hst11 := hkp _ _ hst10
  obtain ⟨g11, rfl⟩ : ∃ g, v11 = .iface 117 (.pointer (some ⟨g, 0, none⟩)) := by
    rcases hv11 with ⟨_, h⟩ | ⟨g, _, h, _⟩
    · cases h
    · exact ⟨g, h⟩
  clear HS hS11 hst10 hkp
  obtain ⟨M, hM⟩ : ∃ M : Nat, (M : Int) = kpk n 9 := ⟨(kpk n 9).toNat, by have := kpk_in n 9 (by decide); omega⟩
  have hM9 : M < 9 := by have := kpk_in n 9 (by decide); omega
  go_wp2_with fail
  refine (kPick_ok n 9 w11 hn1 hn2 (by decide) (by decide)).mono ?_
  rw [← hM]
  rintro e w' ⟨rfl, rfl⟩
  clear hM
  go_wp2_with fail
  refine (kSteps_ok w' 3 M (by decide) (by omega)).mono ?_
  rintro e w12 ⟨ao, cap12, rfl, hks⟩
  have HI12 := HI11.frz hks.1
  have HLO : w.heap.size ≤ w'.heap.size := HI11.f.size
  have hst12 := hks.1.keep hst11 (fun h => h)
  have hv12 := frz_err hv11 hks.1
  clear HI11 hst11 hv11
  by_cases hM0 : M = 0
  · subst hM0
    have hbad : sagaOk id ([] : List SS) = false := decide_eq_false (fun h => absurd h.2.2.1 (by simp))
    have hrw : RowsOf w12 ao 2 (([] : List SS).map stv) := fun i r hr => by simp at hr
    clear hks
    by_cases hi1 : id < 1
    · have HS := HI12.sub (by decide) id [] cap12 hrw (fun h => by rw [hbad] at h; cases h)
      go_wp2_with fail
      refine HS.mono ?_
      rintro e w13 ⟨v13, k13, L13, rs13, rfl, hv13, hS13, HI13, hke, hkp⟩
      obtain ⟨rfl, rfl, rfl⟩ := sub_bad hbad hS13
      have hst13 := hkp _ _ hst12
      have hvo13 := hke _ _ hv12
      obtain ⟨g13, rfl⟩ := err_some hv13 (by decide)
      clear HS hS13 hke hkp HI12 hst12 hv12
      go_wp2_with fail
      refine (Told_any hvo13 (HI13.f.cell hG (fun h => h))).mono ?_
      rintro e w14 ⟨rfl, hf14⟩
      have HI14 := HI13.frz hf14
      have hst14 := hf14.keep hst13 (fun h => h)
      have hvm14 := frz_err hv13 hf14
      go_wp2_with fail
      refine (Told_any hvm14 (HI14.f.cell hG (fun h => h))).mono ?_
      rintro e w15 ⟨rfl, hf15⟩
      have HI15 := HI14.frz hf15
      have hst15 := hf15.keep hst14 (fun h => h)
      clear hvm14 HI14 hst14 hf14 hf15
      go_wp2_with fail
      refine (HI15.sta 7).mono ?_
      rintro e w16 ⟨s16, v16, rfl, hf16, hc16⟩
      obtain ⟨rfl, rfl⟩ := sta_one hc16
      have HI16 := HI15.frz hf16
      have hst16 := hf16.keep hst15 (fun h => h)
      clear HI15 hst15 hf16 hc16
      have hfa : Fr (fun _ => False) w16 (w16.alloc (.cells #[.int .i64 7, .int .i64 1, .int .i64 1, .int .i64 K, .int .i64 0, .int .i64 0] 42)) := (Fr.refl _ _).alloc _
      have HI17 := HI16.frz hfa
      obtain ⟨ra0, ra1, ra2, ra3, ra4, ra5⟩ := six6 (hfa.keep hst16 (fun h => h))
      obtain ⟨rb0, rb1, rb2, rb3, rb4, rb5⟩ := six6 (heap_alloc_at w16 (.cells #[.int .i64 7, .int .i64 1, .int .i64 1, .int .i64 K, .int .i64 0, .int .i64 0] 42))
      have hBy := HI17.bytes
      rw [hBT] at hBy
      obtain ⟨efp, lp, hpp⟩ := HI17.p
      have HPP : Hid ((w16.alloc (.cells #[.int .i64 7, .int .i64 1, .int .i64 1, .int .i64 K, .int .i64 0, .int .i64 0] 42)).heap[Pp]? = some (.cells #[.slice none 0 0, efp, lp, .int .i64 0] 48 (0, 0)) ∧ Fr (fun _ => False) w (w16.alloc (.cells #[.int .i64 7, .int .i64 1, .int .i64 1, .int .i64 K, .int .i64 0, .int .i64 0] 42))) := ⟨hpp, HI17.f⟩
      clear hfa HI16 hst16 HI17 hpp
      unfold ST.cs
      go_wp2_with fail
      refine hBy.mono ?_
      rintro e w18 ⟨rfl, hf18⟩
      have hpc : w18.cell? ⟨Pp, 0, none⟩ = some (.slice none 0 0) := (cell_of_row _ Pp 0 _ _ _ (hf18.keep HPP.out.1 (fun h => h))).trans rfl
      have HF18 : Hid (Fr (fun _ => False) w w18) := HPP.out.2.trans hf18 (fun _ _ h => h)
      clear hf18 hBy ra0 ra1 ra2 ra3 ra4 ra5 rb0 rb1 rb2 rb3 rb4 rb5
      go_wp2
      go_ret
      exact ⟨rfl, HF18.out⟩
    · by_cases hi2 : 1000 < id
      · have HS := HI12.sub (by decide) id [] cap12 hrw (fun h => by rw [hbad] at h; cases h)
        go_wp2_with fail
        refine HS.mono ?_
        rintro e w13 ⟨v13, k13, L13, rs13, rfl, hv13, hS13, HI13, hke, hkp⟩
        obtain ⟨rfl, rfl, rfl⟩ := sub_bad hbad hS13
        have hst13 := hkp _ _ hst12
        have hvo13 := hke _ _ hv12
        obtain ⟨g13, rfl⟩ := err_some hv13 (by decide)
        clear HS hS13 hke hkp HI12 hst12 hv12
        go_wp2_with fail
        refine (Told_any hvo13 (HI13.f.cell hG (fun h => h))).mono ?_
        rintro e w14 ⟨rfl, hf14⟩
        have HI14 := HI13.frz hf14
        have hst14 := hf14.keep hst13 (fun h => h)
        have hvm14 := frz_err hv13 hf14
        go_wp2_with fail
        refine (Told_any hvm14 (HI14.f.cell hG (fun h => h))).mono ?_
        rintro e w15 ⟨rfl, hf15⟩
        have HI15 := HI14.frz hf15
        have hst15 := hf15.keep hst14 (fun h => h)
        clear hvm14 HI14 hst14 hf14 hf15
        go_wp2_with fail
        refine (HI15.sta 7).mono ?_
        rintro e w16 ⟨s16, v16, rfl, hf16, hc16⟩
        obtain ⟨rfl, rfl⟩ := sta_one hc16
        have HI16 := HI15.frz hf16
        have hst16 := hf16.keep hst15 (fun h => h)
        clear HI15 hst15 hf16 hc16
        have hfa : Fr (fun _ => False) w16 (w16.alloc (.cells #[.int .i64 7, .int .i64 1, .int .i64 1, .int .i64 K, .int .i64 0, .int .i64 0] 42)) := (Fr.refl _ _).alloc _
        have HI17 := HI16.frz hfa
        obtain ⟨ra0, ra1, ra2, ra3, ra4, ra5⟩ := six6 (hfa.keep hst16 (fun h => h))
        obtain ⟨rb0, rb1, rb2, rb3, rb4, rb5⟩ := six6 (heap_alloc_at w16 (.cells #[.int .i64 7, .int .i64 1, .int .i64 1, .int .i64 K, .int .i64 0, .int .i64 0] 42))
        have hBy := HI17.bytes
        rw [hBT] at hBy
        obtain ⟨efp, lp, hpp⟩ := HI17.p
        have HPP : Hid ((w16.alloc (.cells #[.int .i64 7, .int .i64 1, .int .i64 1, .int .i64 K, .int .i64 0, .int .i64 0] 42)).heap[Pp]? = some (.cells #[.slice none 0 0, efp, lp, .int .i64 0] 48 (0, 0)) ∧ Fr (fun _ => False) w (w16.alloc (.cells #[.int .i64 7, .int .i64 1, .int .i64 1, .int .i64 K, .int .i64 0, .int .i64 0] 42))) := ⟨hpp, HI17.f⟩
        clear hfa HI16 hst16 HI17 hpp
        unfold ST.cs
        go_wp2_with fail
        refine hBy.mono ?_
        rintro e w18 ⟨rfl, hf18⟩
        have hpc : w18.cell? ⟨Pp, 0, none⟩ = some (.slice none 0 0) := (cell_of_row _ Pp 0 _ _ _ (hf18.keep HPP.out.1 (fun h => h))).trans rfl
        have HF18 : Hid (Fr (fun _ => False) w w18) := HPP.out.2.trans hf18 (fun _ _ h => h)
        clear hf18 hBy ra0 ra1 ra2 ra3 ra4 ra5 rb0 rb1 rb2 rb3 rb4 rb5
        go_wp2
        go_ret
        exact ⟨rfl, HF18.out⟩
      · have HS := HI12.sub (by decide) id [] cap12 hrw (fun h => by rw [hbad] at h; cases h)
        go_wp2_with fail
        refine HS.mono ?_
        rintro e w13 ⟨v13, k13, L13, rs13, rfl, hv13, hS13, HI13, hke, hkp⟩
        obtain ⟨rfl, rfl, rfl⟩ := sub_bad hbad hS13
        have hst13 := hkp _ _ hst12
        have hvo13 := hke _ _ hv12
        obtain ⟨g13, rfl⟩ := err_some hv13 (by decide)
        clear HS hS13 hke hkp HI12 hst12 hv12
        go_wp2_with fail
        refine (Told_any hvo13 (HI13.f.cell hG (fun h => h))).mono ?_
        rintro e w14 ⟨rfl, hf14⟩
        have HI14 := HI13.frz hf14
        have hst14 := hf14.keep hst13 (fun h => h)
        have hvm14 := frz_err hv13 hf14
        go_wp2_with fail
        refine (Told_any hvm14 (HI14.f.cell hG (fun h => h))).mono ?_
        rintro e w15 ⟨rfl, hf15⟩
        have HI15 := HI14.frz hf15
        have hst15 := hf15.keep hst14 (fun h => h)
        clear hvm14 HI14 hst14 hf14 hf15
        go_wp2_with fail
        refine (HI15.sta 7).mono ?_
        rintro e w16 ⟨s16, v16, rfl, hf16, hc16⟩
        obtain ⟨rfl, rfl⟩ := sta_one hc16
        have HI16 := HI15.frz hf16
        have hst16 := hf16.keep hst15 (fun h => h)
        clear HI15 hst15 hf16 hc16
        have hfa : Fr (fun _ => False) w16 (w16.alloc (.cells #[.int .i64 7, .int .i64 1, .int .i64 1, .int .i64 K, .int .i64 0, .int .i64 0] 42)) := (Fr.refl _ _).alloc _
        have HI17 := HI16.frz hfa
        obtain ⟨ra0, ra1, ra2, ra3, ra4, ra5⟩ := six6 (hfa.keep hst16 (fun h => h))
        obtain ⟨rb0, rb1, rb2, rb3, rb4, rb5⟩ := six6 (heap_alloc_at w16 (.cells #[.int .i64 7, .int .i64 1, .int .i64 1, .int .i64 K, .int .i64 0, .int .i64 0] 42))
        have hBy := HI17.bytes
        rw [hBT] at hBy
        obtain ⟨efp, lp, hpp⟩ := HI17.p
        have HPP : Hid ((w16.alloc (.cells #[.int .i64 7, .int .i64 1, .int .i64 1, .int .i64 K, .int .i64 0, .int .i64 0] 42)).heap[Pp]? = some (.cells #[.slice none 0 0, efp, lp, .int .i64 0] 48 (0, 0)) ∧ Fr (fun _ => False) w (w16.alloc (.cells #[.int .i64 7, .int .i64 1, .int .i64 1, .int .i64 K, .int .i64 0, .int .i64 0] 42))) := ⟨hpp, HI17.f⟩
        clear hfa HI16 hst16 HI17 hpp
        unfold ST.cs
        go_wp2_with fail
        refine hBy.mono ?_
        rintro e w18 ⟨rfl, hf18⟩
        have hpc : w18.cell? ⟨Pp, 0, none⟩ = some (.slice none 0 0) := (cell_of_row _ Pp 0 _ _ _ (hf18.keep HPP.out.1 (fun h => h))).trans rfl
        have HF18 : Hid (Fr (fun _ => False) w w18) := HPP.out.2.trans hf18 (fun _ _ h => h)
        clear hf18 hBy ra0 ra1 ra2 ra3 ra4 ra5 rb0 rb1 rb2 rb3 rb4 rb5
        go_wp2
        go_ret
        exact ⟨rfl, HF18.out⟩
  · have hM1 : (0 : Int) < M := by omega
    have hM1' : ¬ (M : Int) < 1 := by omega
    obtain ⟨g12, rfl⟩ := own_someS hks.2 (by omega)
    obtain ⟨r, hkr, hrl, hr3⟩ := kst_cons (id := 3) (n := M) (by omega)
    have hown := hks.2
    rw [hkr] at hown
    have hlo : w.heap.size ≤ g12 := by
      have h1 := (hown.lt g12 rfl).1
      have h2 := HLO
      omega
    obtain ⟨c1, z1, _, ⟨cg, hcg⟩, hset⟩ := own_first hown
    have hlen : ∀ U : ByteArray, ((kstr 100 3 0, U) :: r).length = M := fun U => by simpa using hrl
    by_cases hlong : 0 < long
    · go_wp2_with fail
      refine (kPick_ok long 11 w12 hl1 hl2 (by decide) (by decide)).mono ?_
      obtain ⟨N, hN⟩ : ∃ N : Nat, (N : Int) = kpk long 11 := ⟨(kpk long 11).toNat, by have := kpk_in long 11 (by decide); omega⟩
      have hN9 : N < 11 := by have := kpk_in long 11 (by decide); omega
      rw [← hN]
      clear hN
      rintro e w' ⟨rfl, rfl⟩
      obtain ⟨U, hU⟩ : ∃ U, U = (⟨#[48, 49, 50, 51, 52, 53, 54, 55, 56, 57]⟩ : ByteArray).extract 0 N := ⟨_, rfl⟩
      have hfs : Fr (fun b => b = g12) w' (w'.setCell ⟨g12, 1, none⟩ (.string U)) := Fr.set1 _ _ _ _
      have hna : ¬ a0 = g12 := fun e => by have := hst12; rw [e] at this; have := this.symm.trans hcg; simp at this
      have HIs := HI12.frS hfs hcg hlo
      have hsts := hfs.keep hst12 hna
      have hvos := hv12.fr hfs (fun b c hb e => by rw [e] at hb; have := hb.symm.trans hcg; simp at this)
      have hrw := own_rowsS (hset U)
      have cs1 : (w'.setCell ⟨g12, 1, none⟩ (.string U)).cell? ⟨g12, 1, none⟩ = some (.string U) := (own_first (hset U)).1
      have hlen := hlen U
      have HU : Hid (U = (⟨#[48, 49, 50, 51, 52, 53, 54, 55, 56, 57]⟩ : ByteArray).extract 0 N) := hU
      have hU2 : (⟨#[48, 49, 50, 51, 52, 53, 54, 55, 56, 57]⟩ : ByteArray).extract 0 N = U := HU.out.symm
      clear hU HI12 hst12 hv12 hks hown hset hcg hfs hkr
      generalize hWS : w'.setCell ⟨g12, 1, none⟩ (.string U) = WS at *
      by_cases hi1 : id < 1
      · have hbad : sagaOk id ((kstr 100 3 0, U) :: r) = false := decide_eq_false (fun h => by have := h.1; omega)
        have HS := HIs.sub (by decide) id ((kstr 100 3 0, U) :: r) cap12 hrw (fun h => by rw [hbad] at h; cases h)
        rw [hlen] at HS
        go_wp2_with fail
        refine HS.mono ?_
        rintro e w13 ⟨v13, k13, L13, rs13, rfl, hv13, hS13, HI13, hke, hkp⟩
        obtain ⟨rfl, rfl, rfl⟩ := sub_bad hbad hS13
        have hst13 := hkp _ _ hsts
        have hvo13 := hke _ _ hvos
        obtain ⟨g13, rfl⟩ := err_some hv13 (by decide)
        clear HS hS13 hke hkp HIs hsts hvos
        go_wp2_with fail
        refine (Told_any hvo13 (HI13.f.cell hG (fun h => h))).mono ?_
        rintro e w14 ⟨rfl, hf14⟩
        have HI14 := HI13.frz hf14
        have hst14 := hf14.keep hst13 (fun h => h)
        have hvm14 := frz_err hv13 hf14
        go_wp2_with fail
        refine (Told_any hvm14 (HI14.f.cell hG (fun h => h))).mono ?_
        rintro e w15 ⟨rfl, hf15⟩
        have HI15 := HI14.frz hf15
        have hst15 := hf15.keep hst14 (fun h => h)
        clear hvm14 HI14 hst14 hf14 hf15
        go_wp2_with fail
        refine (HI15.sta 7).mono ?_
        rintro e w16 ⟨s16, v16, rfl, hf16, hc16⟩
        obtain ⟨rfl, rfl⟩ := sta_one hc16
        have HI16 := HI15.frz hf16
        have hst16 := hf16.keep hst15 (fun h => h)
        clear HI15 hst15 hf16 hc16
        have hfa : Fr (fun _ => False) w16 (w16.alloc (.cells #[.int .i64 7, .int .i64 1, .int .i64 1, .int .i64 K, .int .i64 0, .int .i64 0] 42)) := (Fr.refl _ _).alloc _
        have HI17 := HI16.frz hfa
        obtain ⟨ra0, ra1, ra2, ra3, ra4, ra5⟩ := six6 (hfa.keep hst16 (fun h => h))
        obtain ⟨rb0, rb1, rb2, rb3, rb4, rb5⟩ := six6 (heap_alloc_at w16 (.cells #[.int .i64 7, .int .i64 1, .int .i64 1, .int .i64 K, .int .i64 0, .int .i64 0] 42))
        have hBy := HI17.bytes
        rw [hBT] at hBy
        obtain ⟨efp, lp, hpp⟩ := HI17.p
        have HPP : Hid ((w16.alloc (.cells #[.int .i64 7, .int .i64 1, .int .i64 1, .int .i64 K, .int .i64 0, .int .i64 0] 42)).heap[Pp]? = some (.cells #[.slice none 0 0, efp, lp, .int .i64 0] 48 (0, 0)) ∧ Fr (fun _ => False) w (w16.alloc (.cells #[.int .i64 7, .int .i64 1, .int .i64 1, .int .i64 K, .int .i64 0, .int .i64 0] 42))) := ⟨hpp, HI17.f⟩
        clear hfa HI16 hst16 HI17 hpp
        unfold ST.cs
        go_wp2_with fail
        refine hBy.mono ?_
        rintro e w18 ⟨rfl, hf18⟩
        have hpc : w18.cell? ⟨Pp, 0, none⟩ = some (.slice none 0 0) := (cell_of_row _ Pp 0 _ _ _ (hf18.keep HPP.out.1 (fun h => h))).trans rfl
        have HF18 : Hid (Fr (fun _ => False) w w18) := HPP.out.2.trans hf18 (fun _ _ h => h)
        clear hf18 hBy ra0 ra1 ra2 ra3 ra4 ra5 rb0 rb1 rb2 rb3 rb4 rb5
        go_wp2
        go_ret
        exact ⟨rfl, HF18.out⟩
      · by_cases hi2 : 1000 < id
        · have hbad : sagaOk id ((kstr 100 3 0, U) :: r) = false := decide_eq_false (fun h => by have := h.2.1; omega)
          have HS := HIs.sub (by decide) id ((kstr 100 3 0, U) :: r) cap12 hrw (fun h => by rw [hbad] at h; cases h)
          rw [hlen] at HS
          go_wp2_with fail
          refine HS.mono ?_
          rintro e w13 ⟨v13, k13, L13, rs13, rfl, hv13, hS13, HI13, hke, hkp⟩
          obtain ⟨rfl, rfl, rfl⟩ := sub_bad hbad hS13
          have hst13 := hkp _ _ hsts
          have hvo13 := hke _ _ hvos
          obtain ⟨g13, rfl⟩ := err_some hv13 (by decide)
          clear HS hS13 hke hkp HIs hsts hvos
          go_wp2_with fail
          refine (Told_any hvo13 (HI13.f.cell hG (fun h => h))).mono ?_
          rintro e w14 ⟨rfl, hf14⟩
          have HI14 := HI13.frz hf14
          have hst14 := hf14.keep hst13 (fun h => h)
          have hvm14 := frz_err hv13 hf14
          go_wp2_with fail
          refine (Told_any hvm14 (HI14.f.cell hG (fun h => h))).mono ?_
          rintro e w15 ⟨rfl, hf15⟩
          have HI15 := HI14.frz hf15
          have hst15 := hf15.keep hst14 (fun h => h)
          clear hvm14 HI14 hst14 hf14 hf15
          go_wp2_with fail
          refine (HI15.sta 7).mono ?_
          rintro e w16 ⟨s16, v16, rfl, hf16, hc16⟩
          obtain ⟨rfl, rfl⟩ := sta_one hc16
          have HI16 := HI15.frz hf16
          have hst16 := hf16.keep hst15 (fun h => h)
          clear HI15 hst15 hf16 hc16
          have hfa : Fr (fun _ => False) w16 (w16.alloc (.cells #[.int .i64 7, .int .i64 1, .int .i64 1, .int .i64 K, .int .i64 0, .int .i64 0] 42)) := (Fr.refl _ _).alloc _
          have HI17 := HI16.frz hfa
          obtain ⟨ra0, ra1, ra2, ra3, ra4, ra5⟩ := six6 (hfa.keep hst16 (fun h => h))
          obtain ⟨rb0, rb1, rb2, rb3, rb4, rb5⟩ := six6 (heap_alloc_at w16 (.cells #[.int .i64 7, .int .i64 1, .int .i64 1, .int .i64 K, .int .i64 0, .int .i64 0] 42))
          have hBy := HI17.bytes
          rw [hBT] at hBy
          obtain ⟨efp, lp, hpp⟩ := HI17.p
          have HPP : Hid ((w16.alloc (.cells #[.int .i64 7, .int .i64 1, .int .i64 1, .int .i64 K, .int .i64 0, .int .i64 0] 42)).heap[Pp]? = some (.cells #[.slice none 0 0, efp, lp, .int .i64 0] 48 (0, 0)) ∧ Fr (fun _ => False) w (w16.alloc (.cells #[.int .i64 7, .int .i64 1, .int .i64 1, .int .i64 K, .int .i64 0, .int .i64 0] 42))) := ⟨hpp, HI17.f⟩
          clear hfa HI16 hst16 HI17 hpp
          unfold ST.cs
          go_wp2_with fail
          refine hBy.mono ?_
          rintro e w18 ⟨rfl, hf18⟩
          have hpc : w18.cell? ⟨Pp, 0, none⟩ = some (.slice none 0 0) := (cell_of_row _ Pp 0 _ _ _ (hf18.keep HPP.out.1 (fun h => h))).trans rfl
          have HF18 : Hid (Fr (fun _ => False) w w18) := HPP.out.2.trans hf18 (fun _ _ h => h)
          clear hf18 hBy ra0 ra1 ra2 ra3 ra4 ra5 rb0 rb1 rb2 rb3 rb4 rb5
          go_wp2
          go_ret
          exact ⟨rfl, HF18.out⟩
        · by_cases hM6 : (6 : Int) < M
          · have hbad : sagaOk id ((kstr 100 3 0, U) :: r) = false := decide_eq_false (fun h => by have := h.2.2.2.1; omega)
            have HS := HIs.sub (by decide) id ((kstr 100 3 0, U) :: r) cap12 hrw (fun h => by rw [hbad] at h; cases h)
            rw [hlen] at HS
            go_wp2_with fail
            refine HS.mono ?_
            rintro e w13 ⟨v13, k13, L13, rs13, rfl, hv13, hS13, HI13, hke, hkp⟩
            obtain ⟨rfl, rfl, rfl⟩ := sub_bad hbad hS13
            have hst13 := hkp _ _ hsts
            have hvo13 := hke _ _ hvos
            obtain ⟨g13, rfl⟩ := err_some hv13 (by decide)
            clear HS hS13 hke hkp HIs hsts hvos
            go_wp2_with fail
            refine (Told_any hvo13 (HI13.f.cell hG (fun h => h))).mono ?_
            rintro e w14 ⟨rfl, hf14⟩
            have HI14 := HI13.frz hf14
            have hst14 := hf14.keep hst13 (fun h => h)
            have hvm14 := frz_err hv13 hf14
            go_wp2_with fail
            refine (Told_any hvm14 (HI14.f.cell hG (fun h => h))).mono ?_
            rintro e w15 ⟨rfl, hf15⟩
            have HI15 := HI14.frz hf15
            have hst15 := hf15.keep hst14 (fun h => h)
            clear hvm14 HI14 hst14 hf14 hf15
            go_wp2_with fail
            refine (HI15.sta 7).mono ?_
            rintro e w16 ⟨s16, v16, rfl, hf16, hc16⟩
            obtain ⟨rfl, rfl⟩ := sta_one hc16
            have HI16 := HI15.frz hf16
            have hst16 := hf16.keep hst15 (fun h => h)
            clear HI15 hst15 hf16 hc16
            have hfa : Fr (fun _ => False) w16 (w16.alloc (.cells #[.int .i64 7, .int .i64 1, .int .i64 1, .int .i64 K, .int .i64 0, .int .i64 0] 42)) := (Fr.refl _ _).alloc _
            have HI17 := HI16.frz hfa
            obtain ⟨ra0, ra1, ra2, ra3, ra4, ra5⟩ := six6 (hfa.keep hst16 (fun h => h))
            obtain ⟨rb0, rb1, rb2, rb3, rb4, rb5⟩ := six6 (heap_alloc_at w16 (.cells #[.int .i64 7, .int .i64 1, .int .i64 1, .int .i64 K, .int .i64 0, .int .i64 0] 42))
            have hBy := HI17.bytes
            rw [hBT] at hBy
            obtain ⟨efp, lp, hpp⟩ := HI17.p
            have HPP : Hid ((w16.alloc (.cells #[.int .i64 7, .int .i64 1, .int .i64 1, .int .i64 K, .int .i64 0, .int .i64 0] 42)).heap[Pp]? = some (.cells #[.slice none 0 0, efp, lp, .int .i64 0] 48 (0, 0)) ∧ Fr (fun _ => False) w (w16.alloc (.cells #[.int .i64 7, .int .i64 1, .int .i64 1, .int .i64 K, .int .i64 0, .int .i64 0] 42))) := ⟨hpp, HI17.f⟩
            clear hfa HI16 hst16 HI17 hpp
            unfold ST.cs
            go_wp2_with fail
            refine hBy.mono ?_
            rintro e w18 ⟨rfl, hf18⟩
            have hpc : w18.cell? ⟨Pp, 0, none⟩ = some (.slice none 0 0) := (cell_of_row _ Pp 0 _ _ _ (hf18.keep HPP.out.1 (fun h => h))).trans rfl
            have HF18 : Hid (Fr (fun _ => False) w w18) := HPP.out.2.trans hf18 (fun _ _ h => h)
            clear hf18 hBy ra0 ra1 ra2 ra3 ra4 ra5 rb0 rb1 rb2 rb3 rb4 rb5
            go_wp2
            go_ret
            exact ⟨rfl, HF18.out⟩
          · have hM6' : ¬ (6 : Int) < M := hM6
            by_cases hS8 : (8 : Int) < U.size
            · have hbad : sagaOk id ((kstr 100 3 0, U) :: r) = false := decide_eq_false (fun h => by have := (h.2.2.2.2 _ (List.mem_cons_self)).2; simp only at this; omega)
              have HS := HIs.sub (by decide) id ((kstr 100 3 0, U) :: r) cap12 hrw (fun h => by rw [hbad] at h; cases h)
              rw [hlen] at HS
              go_wp2_with fail
              refine HS.mono ?_
              rintro e w13 ⟨v13, k13, L13, rs13, rfl, hv13, hS13, HI13, hke, hkp⟩
              obtain ⟨rfl, rfl, rfl⟩ := sub_bad hbad hS13
              have hst13 := hkp _ _ hsts
              have hvo13 := hke _ _ hvos
              obtain ⟨g13, rfl⟩ := err_some hv13 (by decide)
              clear HS hS13 hke hkp HIs hsts hvos
              go_wp2_with fail
              refine (Told_any hvo13 (HI13.f.cell hG (fun h => h))).mono ?_
              rintro e w14 ⟨rfl, hf14⟩
              have HI14 := HI13.frz hf14
              have hst14 := hf14.keep hst13 (fun h => h)
              have hvm14 := frz_err hv13 hf14
              go_wp2_with fail
              refine (Told_any hvm14 (HI14.f.cell hG (fun h => h))).mono ?_
              rintro e w15 ⟨rfl, hf15⟩
              have HI15 := HI14.frz hf15
              have hst15 := hf15.keep hst14 (fun h => h)
              clear hvm14 HI14 hst14 hf14 hf15
              go_wp2_with fail
              refine (HI15.sta 7).mono ?_
              rintro e w16 ⟨s16, v16, rfl, hf16, hc16⟩
              obtain ⟨rfl, rfl⟩ := sta_one hc16
              have HI16 := HI15.frz hf16
              have hst16 := hf16.keep hst15 (fun h => h)
              clear HI15 hst15 hf16 hc16
              have hfa : Fr (fun _ => False) w16 (w16.alloc (.cells #[.int .i64 7, .int .i64 1, .int .i64 1, .int .i64 K, .int .i64 0, .int .i64 0] 42)) := (Fr.refl _ _).alloc _
              have HI17 := HI16.frz hfa
              obtain ⟨ra0, ra1, ra2, ra3, ra4, ra5⟩ := six6 (hfa.keep hst16 (fun h => h))
              obtain ⟨rb0, rb1, rb2, rb3, rb4, rb5⟩ := six6 (heap_alloc_at w16 (.cells #[.int .i64 7, .int .i64 1, .int .i64 1, .int .i64 K, .int .i64 0, .int .i64 0] 42))
              have hBy := HI17.bytes
              rw [hBT] at hBy
              obtain ⟨efp, lp, hpp⟩ := HI17.p
              have HPP : Hid ((w16.alloc (.cells #[.int .i64 7, .int .i64 1, .int .i64 1, .int .i64 K, .int .i64 0, .int .i64 0] 42)).heap[Pp]? = some (.cells #[.slice none 0 0, efp, lp, .int .i64 0] 48 (0, 0)) ∧ Fr (fun _ => False) w (w16.alloc (.cells #[.int .i64 7, .int .i64 1, .int .i64 1, .int .i64 K, .int .i64 0, .int .i64 0] 42))) := ⟨hpp, HI17.f⟩
              clear hfa HI16 hst16 HI17 hpp
              unfold ST.cs
              go_wp2_with fail
              refine hBy.mono ?_
              rintro e w18 ⟨rfl, hf18⟩
              have hpc : w18.cell? ⟨Pp, 0, none⟩ = some (.slice none 0 0) := (cell_of_row _ Pp 0 _ _ _ (hf18.keep HPP.out.1 (fun h => h))).trans rfl
              have HF18 : Hid (Fr (fun _ => False) w w18) := HPP.out.2.trans hf18 (fun _ _ h => h)
              clear hf18 hBy ra0 ra1 ra2 ra3 ra4 ra5 rb0 rb1 rb2 rb3 rb4 rb5
              go_wp2
              go_ret
              exact ⟨rfl, HF18.out⟩
            · have hvm : ErrAt WS .nilIface 0 := .inl ⟨rfl, rfl⟩
              have HZ : Hid ((!decide (id < 1) && !decide (1000 < id) && !decide ((M : Int) < 1) && !decide ((6 : Int) < M) && !decide ((8 : Int) < U.size)) = true) := by show _ = true; rw [decide_eq_false (show ¬ id < 1 by omega), decide_eq_false (show ¬ 1000 < id by omega), decide_eq_false (show ¬ (M : Int) < 1 by omega), decide_eq_false (show ¬ (6 : Int) < M by omega), decide_eq_false (show ¬ (8 : Int) < U.size by omega)]; rfl
              go_wp2_with fail
              refine (Told_any hvos (HIs.f.cell hG (fun h => h))).mono ?_
              rintro e w14 ⟨rfl, hf14⟩
              have HI14 := HIs.frz hf14
              have hst14 := hf14.keep hsts (fun h => h)
              have hvm14 := frz_err hvm hf14
              go_wp2_with fail
              refine (Told_any hvm14 (HI14.f.cell hG (fun h => h))).mono ?_
              rintro e w15 ⟨rfl, hf15⟩
              have HI15 := HI14.frz hf15
              have hst15 := hf15.keep hst14 (fun h => h)
              clear hvm14 HI14 hst14 hf14 hf15
              go_wp2_with fail
              refine (HI15.sta 7).mono ?_
              rintro e w16 ⟨s16, v16, rfl, hf16, hc16⟩
              obtain ⟨rfl, rfl⟩ := sta_one hc16
              have HI16 := HI15.frz hf16
              have hst16 := hf16.keep hst15 (fun h => h)
              clear HI15 hst15 hf16 hc16
              have hfa : Fr (fun _ => False) w16 (w16.alloc (.cells #[.int .i64 7, .int .i64 1, .int .i64 1, .int .i64 K, .int .i64 0, .int .i64 0] 42)) := (Fr.refl _ _).alloc _
              have HI17 := HI16.frz hfa
              obtain ⟨ra0, ra1, ra2, ra3, ra4, ra5⟩ := six6 (hfa.keep hst16 (fun h => h))
              obtain ⟨rb0, rb1, rb2, rb3, rb4, rb5⟩ := six6 (heap_alloc_at w16 (.cells #[.int .i64 7, .int .i64 1, .int .i64 1, .int .i64 K, .int .i64 0, .int .i64 0] 42))
              have hBy := HI17.bytes
              rw [hBT] at hBy
              obtain ⟨efp, lp, hpp⟩ := HI17.p
              have HPP : Hid ((w16.alloc (.cells #[.int .i64 7, .int .i64 1, .int .i64 1, .int .i64 K, .int .i64 0, .int .i64 0] 42)).heap[Pp]? = some (.cells #[.slice none 0 0, efp, lp, .int .i64 0] 48 (0, 0)) ∧ Fr (fun _ => False) w (w16.alloc (.cells #[.int .i64 7, .int .i64 1, .int .i64 1, .int .i64 K, .int .i64 0, .int .i64 0] 42))) := ⟨hpp, HI17.f⟩
              clear hfa HI16 hst16 HI17 hpp
              unfold ST.cs
              go_wp2_with fail
              refine hBy.mono ?_
              rintro e w18 ⟨rfl, hf18⟩
              have hpc : w18.cell? ⟨Pp, 0, none⟩ = some (.slice none 0 0) := (cell_of_row _ Pp 0 _ _ _ (hf18.keep HPP.out.1 (fun h => h))).trans rfl
              have HF18 : Hid (Fr (fun _ => False) w w18) := HPP.out.2.trans hf18 (fun _ _ h => h)
              clear hf18 hBy ra0 ra1 ra2 ra3 ra4 ra5 rb0 rb1 rb2 rb3 rb4 rb5
              go_wp2
              go_ret
              exact ⟨congrArg (fun b => Ending.returned (.bool b)) HZ.out, HF18.out⟩
    · have hrw := own_rowsS hown
      generalize kstr 117 3 0 = U at *
      have hlen := hlen U
      clear hks hown hset hcg hkr
      simp only at c1
      by_cases hi1 : id < 1
      · have hbad : sagaOk id ((kstr 100 3 0, U) :: r) = false := decide_eq_false (fun h => by have := h.1; omega)
        have HS := HI12.sub (by decide) id ((kstr 100 3 0, U) :: r) cap12 hrw (fun h => by rw [hbad] at h; cases h)
        rw [hlen] at HS
        go_wp2_with fail
        refine HS.mono ?_
        rintro e w13 ⟨v13, k13, L13, rs13, rfl, hv13, hS13, HI13, hke, hkp⟩
        obtain ⟨rfl, rfl, rfl⟩ := sub_bad hbad hS13
        have hst13 := hkp _ _ hst12
        have hvo13 := hke _ _ hv12
        obtain ⟨g13, rfl⟩ := err_some hv13 (by decide)
        clear HS hS13 hke hkp HI12 hst12 hv12
        go_wp2_with fail
        refine (Told_any hvo13 (HI13.f.cell hG (fun h => h))).mono ?_
        rintro e w14 ⟨rfl, hf14⟩
        have HI14 := HI13.frz hf14
        have hst14 := hf14.keep hst13 (fun h => h)
        have hvm14 := frz_err hv13 hf14
        go_wp2_with fail
        refine (Told_any hvm14 (HI14.f.cell hG (fun h => h))).mono ?_
        rintro e w15 ⟨rfl, hf15⟩
        have HI15 := HI14.frz hf15
        have hst15 := hf15.keep hst14 (fun h => h)
        clear hvm14 HI14 hst14 hf14 hf15
        go_wp2_with fail
        refine (HI15.sta 7).mono ?_
        rintro e w16 ⟨s16, v16, rfl, hf16, hc16⟩
        obtain ⟨rfl, rfl⟩ := sta_one hc16
        have HI16 := HI15.frz hf16
        have hst16 := hf16.keep hst15 (fun h => h)
        clear HI15 hst15 hf16 hc16
        have hfa : Fr (fun _ => False) w16 (w16.alloc (.cells #[.int .i64 7, .int .i64 1, .int .i64 1, .int .i64 K, .int .i64 0, .int .i64 0] 42)) := (Fr.refl _ _).alloc _
        have HI17 := HI16.frz hfa
        obtain ⟨ra0, ra1, ra2, ra3, ra4, ra5⟩ := six6 (hfa.keep hst16 (fun h => h))
        obtain ⟨rb0, rb1, rb2, rb3, rb4, rb5⟩ := six6 (heap_alloc_at w16 (.cells #[.int .i64 7, .int .i64 1, .int .i64 1, .int .i64 K, .int .i64 0, .int .i64 0] 42))
        have hBy := HI17.bytes
        rw [hBT] at hBy
        obtain ⟨efp, lp, hpp⟩ := HI17.p
        have HPP : Hid ((w16.alloc (.cells #[.int .i64 7, .int .i64 1, .int .i64 1, .int .i64 K, .int .i64 0, .int .i64 0] 42)).heap[Pp]? = some (.cells #[.slice none 0 0, efp, lp, .int .i64 0] 48 (0, 0)) ∧ Fr (fun _ => False) w (w16.alloc (.cells #[.int .i64 7, .int .i64 1, .int .i64 1, .int .i64 K, .int .i64 0, .int .i64 0] 42))) := ⟨hpp, HI17.f⟩
        clear hfa HI16 hst16 HI17 hpp
        unfold ST.cs
        go_wp2_with fail
        refine hBy.mono ?_
        rintro e w18 ⟨rfl, hf18⟩
        have hpc : w18.cell? ⟨Pp, 0, none⟩ = some (.slice none 0 0) := (cell_of_row _ Pp 0 _ _ _ (hf18.keep HPP.out.1 (fun h => h))).trans rfl
        have HF18 : Hid (Fr (fun _ => False) w w18) := HPP.out.2.trans hf18 (fun _ _ h => h)
        clear hf18 hBy ra0 ra1 ra2 ra3 ra4 ra5 rb0 rb1 rb2 rb3 rb4 rb5
        go_wp2
        go_ret
        exact ⟨rfl, HF18.out⟩
      · by_cases hi2 : 1000 < id
        · have hbad : sagaOk id ((kstr 100 3 0, U) :: r) = false := decide_eq_false (fun h => by have := h.2.1; omega)
          have HS := HI12.sub (by decide) id ((kstr 100 3 0, U) :: r) cap12 hrw (fun h => by rw [hbad] at h; cases h)
          rw [hlen] at HS
          go_wp2_with fail
          refine HS.mono ?_
          rintro e w13 ⟨v13, k13, L13, rs13, rfl, hv13, hS13, HI13, hke, hkp⟩
          obtain ⟨rfl, rfl, rfl⟩ := sub_bad hbad hS13
          have hst13 := hkp _ _ hst12
          have hvo13 := hke _ _ hv12
          obtain ⟨g13, rfl⟩ := err_some hv13 (by decide)
          clear HS hS13 hke hkp HI12 hst12 hv12
          go_wp2_with fail
          refine (Told_any hvo13 (HI13.f.cell hG (fun h => h))).mono ?_
          rintro e w14 ⟨rfl, hf14⟩
          have HI14 := HI13.frz hf14
          have hst14 := hf14.keep hst13 (fun h => h)
          have hvm14 := frz_err hv13 hf14
          go_wp2_with fail
          refine (Told_any hvm14 (HI14.f.cell hG (fun h => h))).mono ?_
          rintro e w15 ⟨rfl, hf15⟩
          have HI15 := HI14.frz hf15
          have hst15 := hf15.keep hst14 (fun h => h)
          clear hvm14 HI14 hst14 hf14 hf15
          go_wp2_with fail
          refine (HI15.sta 7).mono ?_
          rintro e w16 ⟨s16, v16, rfl, hf16, hc16⟩
          obtain ⟨rfl, rfl⟩ := sta_one hc16
          have HI16 := HI15.frz hf16
          have hst16 := hf16.keep hst15 (fun h => h)
          clear HI15 hst15 hf16 hc16
          have hfa : Fr (fun _ => False) w16 (w16.alloc (.cells #[.int .i64 7, .int .i64 1, .int .i64 1, .int .i64 K, .int .i64 0, .int .i64 0] 42)) := (Fr.refl _ _).alloc _
          have HI17 := HI16.frz hfa
          obtain ⟨ra0, ra1, ra2, ra3, ra4, ra5⟩ := six6 (hfa.keep hst16 (fun h => h))
          obtain ⟨rb0, rb1, rb2, rb3, rb4, rb5⟩ := six6 (heap_alloc_at w16 (.cells #[.int .i64 7, .int .i64 1, .int .i64 1, .int .i64 K, .int .i64 0, .int .i64 0] 42))
          have hBy := HI17.bytes
          rw [hBT] at hBy
          obtain ⟨efp, lp, hpp⟩ := HI17.p
          have HPP : Hid ((w16.alloc (.cells #[.int .i64 7, .int .i64 1, .int .i64 1, .int .i64 K, .int .i64 0, .int .i64 0] 42)).heap[Pp]? = some (.cells #[.slice none 0 0, efp, lp, .int .i64 0] 48 (0, 0)) ∧ Fr (fun _ => False) w (w16.alloc (.cells #[.int .i64 7, .int .i64 1, .int .i64 1, .int .i64 K, .int .i64 0, .int .i64 0] 42))) := ⟨hpp, HI17.f⟩
          clear hfa HI16 hst16 HI17 hpp
          unfold ST.cs
          go_wp2_with fail
          refine hBy.mono ?_
          rintro e w18 ⟨rfl, hf18⟩
          have hpc : w18.cell? ⟨Pp, 0, none⟩ = some (.slice none 0 0) := (cell_of_row _ Pp 0 _ _ _ (hf18.keep HPP.out.1 (fun h => h))).trans rfl
          have HF18 : Hid (Fr (fun _ => False) w w18) := HPP.out.2.trans hf18 (fun _ _ h => h)
          clear hf18 hBy ra0 ra1 ra2 ra3 ra4 ra5 rb0 rb1 rb2 rb3 rb4 rb5
          go_wp2
          go_ret
          exact ⟨rfl, HF18.out⟩
        · by_cases hM6 : (6 : Int) < M
          · have hbad : sagaOk id ((kstr 100 3 0, U) :: r) = false := decide_eq_false (fun h => by have := h.2.2.2.1; omega)
            have HS := HI12.sub (by decide) id ((kstr 100 3 0, U) :: r) cap12 hrw (fun h => by rw [hbad] at h; cases h)
            rw [hlen] at HS
            go_wp2_with fail
            refine HS.mono ?_
            rintro e w13 ⟨v13, k13, L13, rs13, rfl, hv13, hS13, HI13, hke, hkp⟩
            obtain ⟨rfl, rfl, rfl⟩ := sub_bad hbad hS13
            have hst13 := hkp _ _ hst12
            have hvo13 := hke _ _ hv12
            obtain ⟨g13, rfl⟩ := err_some hv13 (by decide)
            clear HS hS13 hke hkp HI12 hst12 hv12
            go_wp2_with fail
            refine (Told_any hvo13 (HI13.f.cell hG (fun h => h))).mono ?_
            rintro e w14 ⟨rfl, hf14⟩
            have HI14 := HI13.frz hf14
            have hst14 := hf14.keep hst13 (fun h => h)
            have hvm14 := frz_err hv13 hf14
            go_wp2_with fail
            refine (Told_any hvm14 (HI14.f.cell hG (fun h => h))).mono ?_
            rintro e w15 ⟨rfl, hf15⟩
            have HI15 := HI14.frz hf15
            have hst15 := hf15.keep hst14 (fun h => h)
            clear hvm14 HI14 hst14 hf14 hf15
            go_wp2_with fail
            refine (HI15.sta 7).mono ?_
            rintro e w16 ⟨s16, v16, rfl, hf16, hc16⟩
            obtain ⟨rfl, rfl⟩ := sta_one hc16
            have HI16 := HI15.frz hf16
            have hst16 := hf16.keep hst15 (fun h => h)
            clear HI15 hst15 hf16 hc16
            have hfa : Fr (fun _ => False) w16 (w16.alloc (.cells #[.int .i64 7, .int .i64 1, .int .i64 1, .int .i64 K, .int .i64 0, .int .i64 0] 42)) := (Fr.refl _ _).alloc _
            have HI17 := HI16.frz hfa
            obtain ⟨ra0, ra1, ra2, ra3, ra4, ra5⟩ := six6 (hfa.keep hst16 (fun h => h))
            obtain ⟨rb0, rb1, rb2, rb3, rb4, rb5⟩ := six6 (heap_alloc_at w16 (.cells #[.int .i64 7, .int .i64 1, .int .i64 1, .int .i64 K, .int .i64 0, .int .i64 0] 42))
            have hBy := HI17.bytes
            rw [hBT] at hBy
            obtain ⟨efp, lp, hpp⟩ := HI17.p
            have HPP : Hid ((w16.alloc (.cells #[.int .i64 7, .int .i64 1, .int .i64 1, .int .i64 K, .int .i64 0, .int .i64 0] 42)).heap[Pp]? = some (.cells #[.slice none 0 0, efp, lp, .int .i64 0] 48 (0, 0)) ∧ Fr (fun _ => False) w (w16.alloc (.cells #[.int .i64 7, .int .i64 1, .int .i64 1, .int .i64 K, .int .i64 0, .int .i64 0] 42))) := ⟨hpp, HI17.f⟩
            clear hfa HI16 hst16 HI17 hpp
            unfold ST.cs
            go_wp2_with fail
            refine hBy.mono ?_
            rintro e w18 ⟨rfl, hf18⟩
            have hpc : w18.cell? ⟨Pp, 0, none⟩ = some (.slice none 0 0) := (cell_of_row _ Pp 0 _ _ _ (hf18.keep HPP.out.1 (fun h => h))).trans rfl
            have HF18 : Hid (Fr (fun _ => False) w w18) := HPP.out.2.trans hf18 (fun _ _ h => h)
            clear hf18 hBy ra0 ra1 ra2 ra3 ra4 ra5 rb0 rb1 rb2 rb3 rb4 rb5
            go_wp2
            go_ret
            exact ⟨rfl, HF18.out⟩
          · have hM6' : ¬ (6 : Int) < M := hM6
            by_cases hS8 : (8 : Int) < U.size
            · have hbad : sagaOk id ((kstr 100 3 0, U) :: r) = false := decide_eq_false (fun h => by have := (h.2.2.2.2 _ (List.mem_cons_self)).2; simp only at this; omega)
              have HS := HI12.sub (by decide) id ((kstr 100 3 0, U) :: r) cap12 hrw (fun h => by rw [hbad] at h; cases h)
              rw [hlen] at HS
              go_wp2_with fail
              refine HS.mono ?_
              rintro e w13 ⟨v13, k13, L13, rs13, rfl, hv13, hS13, HI13, hke, hkp⟩
              obtain ⟨rfl, rfl, rfl⟩ := sub_bad hbad hS13
              have hst13 := hkp _ _ hst12
              have hvo13 := hke _ _ hv12
              obtain ⟨g13, rfl⟩ := err_some hv13 (by decide)
              clear HS hS13 hke hkp HI12 hst12 hv12
              go_wp2_with fail
              refine (Told_any hvo13 (HI13.f.cell hG (fun h => h))).mono ?_
              rintro e w14 ⟨rfl, hf14⟩
              have HI14 := HI13.frz hf14
              have hst14 := hf14.keep hst13 (fun h => h)
              have hvm14 := frz_err hv13 hf14
              go_wp2_with fail
              refine (Told_any hvm14 (HI14.f.cell hG (fun h => h))).mono ?_
              rintro e w15 ⟨rfl, hf15⟩
              have HI15 := HI14.frz hf15
              have hst15 := hf15.keep hst14 (fun h => h)
              clear hvm14 HI14 hst14 hf14 hf15
              go_wp2_with fail
              refine (HI15.sta 7).mono ?_
              rintro e w16 ⟨s16, v16, rfl, hf16, hc16⟩
              obtain ⟨rfl, rfl⟩ := sta_one hc16
              have HI16 := HI15.frz hf16
              have hst16 := hf16.keep hst15 (fun h => h)
              clear HI15 hst15 hf16 hc16
              have hfa : Fr (fun _ => False) w16 (w16.alloc (.cells #[.int .i64 7, .int .i64 1, .int .i64 1, .int .i64 K, .int .i64 0, .int .i64 0] 42)) := (Fr.refl _ _).alloc _
              have HI17 := HI16.frz hfa
              obtain ⟨ra0, ra1, ra2, ra3, ra4, ra5⟩ := six6 (hfa.keep hst16 (fun h => h))
              obtain ⟨rb0, rb1, rb2, rb3, rb4, rb5⟩ := six6 (heap_alloc_at w16 (.cells #[.int .i64 7, .int .i64 1, .int .i64 1, .int .i64 K, .int .i64 0, .int .i64 0] 42))
              have hBy := HI17.bytes
              rw [hBT] at hBy
              obtain ⟨efp, lp, hpp⟩ := HI17.p
              have HPP : Hid ((w16.alloc (.cells #[.int .i64 7, .int .i64 1, .int .i64 1, .int .i64 K, .int .i64 0, .int .i64 0] 42)).heap[Pp]? = some (.cells #[.slice none 0 0, efp, lp, .int .i64 0] 48 (0, 0)) ∧ Fr (fun _ => False) w (w16.alloc (.cells #[.int .i64 7, .int .i64 1, .int .i64 1, .int .i64 K, .int .i64 0, .int .i64 0] 42))) := ⟨hpp, HI17.f⟩
              clear hfa HI16 hst16 HI17 hpp
              unfold ST.cs
              go_wp2_with fail
              refine hBy.mono ?_
              rintro e w18 ⟨rfl, hf18⟩
              have hpc : w18.cell? ⟨Pp, 0, none⟩ = some (.slice none 0 0) := (cell_of_row _ Pp 0 _ _ _ (hf18.keep HPP.out.1 (fun h => h))).trans rfl
              have HF18 : Hid (Fr (fun _ => False) w w18) := HPP.out.2.trans hf18 (fun _ _ h => h)
              clear hf18 hBy ra0 ra1 ra2 ra3 ra4 ra5 rb0 rb1 rb2 rb3 rb4 rb5
              go_wp2
              go_ret
              exact ⟨rfl, HF18.out⟩
            · have hvm : ErrAt w12 .nilIface 0 := .inl ⟨rfl, rfl⟩
              have HZ : Hid ((!decide (id < 1) && !decide (1000 < id) && !decide ((M : Int) < 1) && !decide ((6 : Int) < M) && !decide ((8 : Int) < U.size)) = true) := by show _ = true; rw [decide_eq_false (show ¬ id < 1 by omega), decide_eq_false (show ¬ 1000 < id by omega), decide_eq_false (show ¬ (M : Int) < 1 by omega), decide_eq_false (show ¬ (6 : Int) < M by omega), decide_eq_false (show ¬ (8 : Int) < U.size by omega)]; rfl
              go_wp2_with fail
              refine (Told_any hv12 (HI12.f.cell hG (fun h => h))).mono ?_
              rintro e w14 ⟨rfl, hf14⟩
              have HI14 := HI12.frz hf14
              have hst14 := hf14.keep hst12 (fun h => h)
              have hvm14 := frz_err hvm hf14
              go_wp2_with fail
              refine (Told_any hvm14 (HI14.f.cell hG (fun h => h))).mono ?_
              rintro e w15 ⟨rfl, hf15⟩
              have HI15 := HI14.frz hf15
              have hst15 := hf15.keep hst14 (fun h => h)
              clear hvm14 HI14 hst14 hf14 hf15
              go_wp2_with fail
              refine (HI15.sta 7).mono ?_
              rintro e w16 ⟨s16, v16, rfl, hf16, hc16⟩
              obtain ⟨rfl, rfl⟩ := sta_one hc16
              have HI16 := HI15.frz hf16
              have hst16 := hf16.keep hst15 (fun h => h)
              clear HI15 hst15 hf16 hc16
              have hfa : Fr (fun _ => False) w16 (w16.alloc (.cells #[.int .i64 7, .int .i64 1, .int .i64 1, .int .i64 K, .int .i64 0, .int .i64 0] 42)) := (Fr.refl _ _).alloc _
              have HI17 := HI16.frz hfa
              obtain ⟨ra0, ra1, ra2, ra3, ra4, ra5⟩ := six6 (hfa.keep hst16 (fun h => h))
              obtain ⟨rb0, rb1, rb2, rb3, rb4, rb5⟩ := six6 (heap_alloc_at w16 (.cells #[.int .i64 7, .int .i64 1, .int .i64 1, .int .i64 K, .int .i64 0, .int .i64 0] 42))
              have hBy := HI17.bytes
              rw [hBT] at hBy
              obtain ⟨efp, lp, hpp⟩ := HI17.p
              have HPP : Hid ((w16.alloc (.cells #[.int .i64 7, .int .i64 1, .int .i64 1, .int .i64 K, .int .i64 0, .int .i64 0] 42)).heap[Pp]? = some (.cells #[.slice none 0 0, efp, lp, .int .i64 0] 48 (0, 0)) ∧ Fr (fun _ => False) w (w16.alloc (.cells #[.int .i64 7, .int .i64 1, .int .i64 1, .int .i64 K, .int .i64 0, .int .i64 0] 42))) := ⟨hpp, HI17.f⟩
              clear hfa HI16 hst16 HI17 hpp
              unfold ST.cs
              go_wp2_with fail
              refine hBy.mono ?_
              rintro e w18 ⟨rfl, hf18⟩
              have hpc : w18.cell? ⟨Pp, 0, none⟩ = some (.slice none 0 0) := (cell_of_row _ Pp 0 _ _ _ (hf18.keep HPP.out.1 (fun h => h))).trans rfl
              have HF18 : Hid (Fr (fun _ => False) w w18) := HPP.out.2.trans hf18 (fun _ _ h => h)
              clear hf18 hBy ra0 ra1 ra2 ra3 ra4 ra5 rb0 rb1 rb2 rb3 rb4 rb5
              go_wp2
              go_ret
              exact ⟨congrArg (fun b => Ending.returned (.bool b)) HZ.out, HF18.out⟩
end Go.Proofs.YteebjgfalllbjaaGreatDoor
