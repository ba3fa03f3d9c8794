import Derived.Test.YteebjgfalllbjaaGreatDoorCNfNhGd
namespace Go.Proofs.YteebjgfalllbjaaGreatDoor
open Go.RowKit
variable {G : Prg}

theorem foundL_get {L L' : List RS} (h : FoundL L L') {r' : RS} (hr : r' ∈ L') : ∃ r ∈ L, Found r r' := by
  obtain ⟨i, hi, rfl⟩ := List.mem_iff_getElem.1 hr
  have hl : i < L.length := by rw [← h.1]; exact hi
  exact ⟨L[i], List.getElem_mem hl, h.2 i _ _ (List.getElem?_eq_getElem hl) (List.getElem?_eq_getElem hi)⟩
theorem foundL_a {L L' : List RS} (h : FoundL L L') : L'.map RS.a = (L.map RS.a).map AS.zero := by
  apply List.ext_getElem?
  intro i
  by_cases hi : i < L.length
  · have hi' : i < L'.length := by rw [h.1]; exact hi
    have hf := h.2 i _ _ (List.getElem?_eq_getElem hi) (List.getElem?_eq_getElem hi')
    rw [List.getElem?_map, List.getElem?_map, List.getElem?_map, List.getElem?_eq_getElem hi, List.getElem?_eq_getElem hi']
    simp only [Option.map_some, RS.a, AS.zero, hf.1, hf.2.2.2.1, hf.2.2.2.2.1, hf.2.2.2.2.2.1, hf.2.2.2.2.2.2.1]
  · rw [List.getElem?_eq_none (by simp [h.1]; omega), List.getElem?_eq_none (by simp; omega)]
theorem foundL_ids {L L' : List RS} (h : FoundL L L') (hs : L.Pairwise (fun a b => a.id < b.id)) : L'.Pairwise (fun a b => a.id < b.id) := by
  rw [List.pairwise_iff_getElem] at hs ⊢
  intro i j hi hj hlt
  have hi' : i < L.length := by rw [← h.1]; exact hi
  have hj' : j < L.length := by rw [← h.1]; exact hj
  have f1 := h.2 i _ _ (List.getElem?_eq_getElem hi') (List.getElem?_eq_getElem hi)
  have f2 := h.2 j _ _ (List.getElem?_eq_getElem hj') (List.getElem?_eq_getElem hj)
  rw [f1.1, f2.1]
  exact hs i j hi' hj' hlt
theorem DI.okL {w : World} {b0 s : Nat} {q : DR} (h : DI G w b0 s q) : OkL q.k.L := by
  refine ⟨?_, ?_⟩
  · show (q.L.map RS.a).Pairwise _
    rw [List.pairwise_map]
    exact h.lo
  · intro a ha
    have ha : a ∈ q.L.map RS.a := ha
    rw [List.mem_map] at ha
    obtain ⟨r, hr, rfl⟩ := ha
    exact h.ls r hr
theorem DI.kl {w : World} {b0 s : Nat} {q : DR} (h : DI G w b0 s q) : q.k.L.length ≤ s := by
  show (q.L.map RS.a).length ≤ s
  rw [List.length_map]; exact h.ln
theorem mine_ne {t : TypeId} (h : Mine t) : t ≠ 96 ∧ t ≠ 97 ∧ ¬ EngT t := by
  unfold Mine at h
  unfold EngT
  rcases h with rfl | rfl | rfl | rfl | rfl | rfl | rfl <;> simp
theorem OkL.zero {L : List AS} (h : OkL L) : OkL (L.map AS.zero) := by
  refine ⟨?_, ?_⟩
  · rw [List.pairwise_map]; exact h.1
  · intro a ha
    rw [List.mem_map] at ha
    obtain ⟨b, hb, rfl⟩ := ha
    exact h.2 b hb
theorem DevI.flg (gd : Good0 G) {w : World} {s : Nat} {k : DK} (h : DevI G w s k) (hx : k.x = none) (f : Bool) : DevI G w s (k.flg f) := by
  obtain ⟨calls, writes, bs, h1, h2, h3, h4, h5, h6, h7⟩ := h
  exact ⟨calls, writes, bs, h1, h2, h3, h4, h5, h6, gd.flg f h7 hx⟩
theorem DI.flg (gd : Good0 G) {w : World} {b0 s : Nat} {q : DR} (h : DI G w b0 s q) (hx : q.x = none) (f : Bool) : DI G w b0 s ⟨q.D, q.A, q.B, q.Pp, q.n, q.nn, q.x, q.pause, q.clock, q.Lv, q.L, q.F, f⟩ :=
  ⟨h.l, h.p, h.d.flg gd hx f, h.a, h.ln, h.ls, h.lo, h.f, h.b, h.n⟩
/-- Open: an engine is there then, or none. -/
def OPost (G : Prg) (w : World) (b0 s : Nat) (q : DR) (p : Int) (e : Ending) (w' : World) : Prop := e = .returned (.bool true) ∧ ∃ q', q'.fl = false ∧ (q'.x ≠ none → q'.pause = p ∧ q'.nn = false ∧ q'.clock = 0 ∧ (q'.L.map RS.a).map AS.zero = q'.L.map RS.a) ∧ DStep G w b0 (s + 1) q q' w'
set_option maxRecDepth 100000 in
theorem opened_any (gd : Good0 G) {w : World} {b0 s : Nat} {q : DR} (h : DI G w b0 s q) (hs : s < 60000) (hG : GOk w) (hg : 0 < b0) (hbs : b0 ≤ w.heap.size) (p : Int) : Calls Tryz.prog 53 #[.pointer (some ⟨q.D, 0, none⟩), .int .i64 p] w fun e w' => OPost G w b0 s q p e w' := by
  obtain ⟨nAD, nBD, nPD, nAB, nPA, nPB, nF⟩ := h.ne
  obtain ⟨calls, writes, bs, hd, hr, _⟩ := h.d
  have hd : DiskAt w q.A q.B q.n (.slice none 0 0) calls writes := hd
  obtain ⟨lo, lm, lcap, pe, pl, pa, hpp⟩ := h.p
  have hb := h.b
  obtain ⟨ao, cap, hLv, _, _⟩ := own_shape h.a.o
  have hln := h.ln
  have hl := h.l
  have ha := h.a
  rw [hLv] at hl ha
  refine (opened_gen (Post := fun xo kk w' => (if kk = 0 then xo ≠ none ∧ ∃ F, (∀ b, F b → q.F b ∨ w.heap.size ≤ b) ∧ FT w' 0 F ∧ DevI G w' (s + 1) (q.k.opened xo p F false) else DevI G w' (s + 1) q.k.shut) ∧ Fr (fun b => b = q.D ∨ b = q.A) w w') (S := fun b => b = q.A) hl hd hpp ha (by omega) (fun r hr => (h.ls r hr).1) nAD hG (by omega) (by omega) (fun b c t hb ht e => ?_) (fun b e => by rw [e]; exact lt_of_heap hd) p (fun w1 hf1 => ?_) (fun wS w1 xo hp hf => ?_)).mono ?_
  · subst e; rw [hd] at hb; simp at hb; exact (mine_ne ht).1 hb.2.symm
  · have h1 : DevI G w1 s q.k := h.d.fr hf1 nAD nBD nPD (fun b hb e => (nF b hb).1 e)
    have hFT1 : FT w1 0 q.F := fun b hb => by
      obtain ⟨_, c, t, hc, ht⟩ := h.f b hb
      exact ⟨Nat.zero_le _, c, t, hf1.keep hc (fun e => (nF b hb).1 e), ht⟩
    have hd1 : DiskAt w1 q.A q.B q.n (.slice none 0 0) calls writes := hd.fr hf1 nAD
    refine (gd.opn p h1 hd1 hs h.n hFT1 h.okL h.kl).mono ?_
    rintro e w' ⟨xo, v, kk, rfl, hv, hkk, hxo, hdd, hp, hf⟩
    refine ⟨xo, v, kk, rfl, hv, hkk, hxo, hdd, ⟨?_, (hf1.mono (fun _ _ h => .inl h)).trans (hf.mono (fun _ _ h => .inr h)) (fun b _ h => h)⟩, hf⟩
    by_cases hk0 : kk = 0
    · rw [if_pos hk0] at hp ⊢
      obtain ⟨F, hF, hFT, hD⟩ := hp
      exact ⟨fun e => (hxo.1 e) hk0, F, fun b hb => (hF b hb).imp_right (fun h => Nat.le_trans hf1.size h), hFT, hD⟩
    · rw [if_neg hk0] at hp ⊢
      exact hp
  · obtain ⟨hp, _⟩ := hp
    rw [if_pos rfl] at hp
    obtain ⟨hx, F, hF, hFT, hD⟩ := hp
    cases xo with
    | none => exact absurd rfl hx
    | some X =>
      have hD1 : DevI G w1 (s + 1) (q.k.opened (some X) p F false) := hD.fr hf (fun h => h) (fun h => h) (fun h => h) (fun _ _ h => h)
      have := gd.all (k := q.k.opened (some X) p F false) 1048576 hD1 (by omega) rfl h.okL.zero (by show ((q.L.map RS.a).map AS.zero).length ≤ s + 1; simp; omega)
      have e : ((q.k.opened (some X) p F false).L.take (1048576 : Int).toNat).map AS.told = q.L.map RS.fresh := by
        show (((q.L.map RS.a).map AS.zero).take 1048576).map AS.told = q.L.map RS.fresh
        rw [List.take_of_length_le (by simp; omega), List.map_map, List.map_map]
        rfl
      rw [e] at this
      exact this
  · rintro e w' ⟨rfl, wS, xo, ⟨hp, hfS⟩, hfD, hsz, hcase⟩
    have hF3 : Fr (fun b => b = q.D ∨ b = q.A) w w' := hfS.trans hfD (fun b _ h => .inl h)
    have hFTw : ∀ b, q.F b → b0 ≤ b ∧ ∃ c t, w'.heap[b]? = some (.cells c t (0, 0)) ∧ EngT t := fun b hb => by
      obtain ⟨h0, c, t, hc, ht⟩ := h.f b hb
      exact ⟨h0, c, t, hF3.keep hc (by rintro (e | e); exact (nF b hb).1 e; exact (nF b hb).2.1 e), ht⟩
    have hsub : ∀ b, b < w.heap.size → (b = q.D ∨ b = q.A) → Foot0 q b := fun b _ h => by
      rcases h with h | h
      · exact .inl h
      · exact .inr (.inl h)
    have hFw : Fr (Foot q) w w' := hF3.mono (fun b hb h => .inl (hsub b hb h))
    have hpart : w'.heap[q.Pp]? = some (.cells #[.slice lo lm lcap, pe, pl, pa] 48 (0, 0)) := hF3.keep hpp (by rintro (e | e); exact nPD e; exact nPA e)
    have haw := h.a.fr hF3 (h.lists hsub)
    rcases hcase with ⟨hk, hlw⟩ | ⟨hk, Lv', L', hlw, hFL, hown, hmay⟩
    · rw [if_neg hk] at hp
      rw [← hLv] at hlw
      refine ⟨rfl, ⟨q.D, q.A, q.B, q.Pp, q.n, q.nn, none, q.pause, q.clock, q.Lv, q.L, q.F, false⟩, rfl, (fun h => absurd rfl h), ⟨rfl, rfl, rfl, rfl⟩, (fun b h => .inl h), (fun b h => .inl h), ⟨hlw, ⟨_, _, _, _, _, _, hpart⟩, ?_, haw, Nat.le_succ_of_le h.ln, h.ls, h.lo, hFTw, hb, h.n⟩, hFw⟩
      exact (DevI.fr hp hfD nAD nBD nPD (fun b hb e => (nF b hb).1 e)).flg gd rfl false
    · rw [if_pos hk] at hp
      obtain ⟨_, F, hF, hFT, hD⟩ := hp
      have hFD : ∀ b, F b → b ≠ q.D := fun b hb e => by
        rcases hF b hb with h1 | h1
        · exact (nF b h1).1 e
        · have := lt_of_heap h.l; omega
      refine ⟨rfl, ⟨q.D, q.A, q.B, q.Pp, q.n, false, xo, p, 0, Lv', L', F, false⟩, rfl, (fun _ => ⟨rfl, rfl, rfl, by show (L'.map RS.a).map AS.zero = L'.map RS.a; rw [foundL_a hFL, List.map_map]; rfl⟩), ⟨rfl, rfl, rfl, rfl⟩, hF, (fun b h => .inr (hown.lt b h).1), ⟨hlw, ⟨_, _, _, _, _, _, hpart⟩, ?_, ?_, ?_, ?_, foundL_ids hFL h.lo, ?_, hb, h.n⟩, hFw⟩
      · have := DevI.fr hD hfD nAD nBD nPD (fun b hb => hFD b hb)
        unfold DR.k
        simp only [foundL_a hFL]
        exact this
      · refine ⟨?_, ?_, ?_, ?_⟩
        · show w'.ownsRow b0 223 7 Lv' L'.length (rcells L')
          rw [hFL.1]; exact own_base2 hown hbs
        · intro r' hr'
          obtain ⟨r, hr, hf⟩ := foundL_get hFL hr'
          have := haw.s r hr
          rw [hf.2.1, hf.2.2.1, hf.2.2.2.1]; exact this
        · intro r' hr'
          obtain ⟨r, hr, hf⟩ := foundL_get hFL hr'
          exact ⟨hmay r' hr', by rw [hf.2.2.2.2.2.2.2.1, hf.2.2.2.2.1], hf.2.2.2.2.2.2.2.2⟩
        · intro r' hr'
          obtain ⟨r, hr, hf⟩ := foundL_get hFL hr'
          rw [hf.2.2.2.1]; exact h.a.n r hr
      · show L'.length ≤ s + 1
        rw [hFL.1]; omega
      · intro r' hr'
        obtain ⟨r, hr, hf⟩ := foundL_get hFL hr'
        rw [hf.2.2.2.2.1, hf.1, hf.2.2.2.1]; exact h.ls r hr
      · intro b hb
        obtain ⟨_, c, t, hc, ht⟩ := hFT b hb
        refine ⟨?_, c, t, hfD.keep hc (hFD b hb), ht⟩
        rcases hF b hb with h1 | h1
        · exact (h.f b h1).1
        · omega
end Go.Proofs.YteebjgfalllbjaaGreatDoor
namespace Go.Proofs.YteebjgfalllbjaaGreatDoor
open Go.RowKit
variable {G : Prg}

theorem frz_post {w w' : World} {b0 s : Nat} {q : DR} (h : DI G w b0 s q) (hf : Fr (fun _ => False) w w') : DPost G w b0 s q q.fl (.returned (.bool true)) w' :=
  ⟨rfl, q, rfl, ⟨rfl, rfl, rfl, rfl⟩, (fun _ h => .inl h), (fun _ h => .inl h), (h.fr hf (fun _ _ _ _ _ h => h)).mono (by omega), hf.mono (fun _ _ h => h.elim)⟩
set_option maxRecDepth 100000 in
theorem told_any (gd : Good G) {w : World} {b0 s : Nat} {q : DR} (h : DI G w b0 s q) (hs : s < 60000) (hG : GOk w) {X : Addr} (hx : q.x = some X) (id : Int) : Calls Tryz.prog 86 #[.pointer (some ⟨q.D, 0, none⟩), .int .i64 id] w fun e w' => DPost G w b0 s q q.fl e w' := by
  obtain ⟨ao, cap, hLv, _, _⟩ := own_shape h.a.o
  have hl := h.l
  have ha := h.a
  have hln := h.ln
  rw [hLv] at hl ha
  refine (ltold_ok hl ha.sagas.r (by omega) h.lo hG id ?_).mono ?_
  · rw [hx]
    refine (gd.sta id h.d (by omega) hx h.okL h.kl).mono ?_
    rintro e w' ⟨sv, v, rfl, hf, hc⟩
    refine ⟨sv, v, rfl, hf, ?_⟩
    rcases hc with ⟨a, ha', hid, rfl, hv⟩ | ⟨hno, rfl, hv⟩
    · have ha' : a ∈ q.L.map RS.a := ha'
      rw [List.mem_map] at ha'
      obtain ⟨r, hr, rfl⟩ := ha'
      exact .inl ⟨r, hr, hid, rfl, hv⟩
    · refine .inr ⟨fun r hr => ?_, rfl, hv⟩
      have : r.a ∈ q.L.map RS.a := List.mem_map_of_mem hr
      exact hno r.a this
  · rintro e w' ⟨rfl, hf⟩
    exact frz_post h hf
set_option maxRecDepth 100000 in
theorem listed_any (gd : Good G) {w : World} {b0 s : Nat} {q : DR} (h : DI G w b0 s q) (hs : s < 60000) {X : Addr} (hx : q.x = some X) (most : Int) : Calls Tryz.prog 87 #[.pointer (some ⟨q.D, 0, none⟩), .int .i64 most] w fun e w' => DPost G w b0 s q q.fl e w' := by
  obtain ⟨ao, cap, hLv, _, _⟩ := own_shape h.a.o
  have hl := h.l
  have ha := h.a
  have hln := h.ln
  rw [hLv] at hl ha
  refine (listed_ok hl ha.sagas.r (by omega) (fun r hr => (h.ls r hr).1) most (min most.toNat q.L.length) (by omega) (by omega) ?_).mono ?_
  · rw [hx]
    have := gd.all most h.d (by omega) hx h.okL h.kl
    have e : (q.k.L.take most.toNat).map AS.told = (q.L.take (min most.toNat q.L.length)).map RS.st' := by
      show ((q.L.map RS.a).take most.toNat).map AS.told = _
      rw [← List.map_take, List.map_map, List.take_eq_take_min]
      rfl
    rw [e] at this
    exact this
  · rintro e w' ⟨rfl, hf⟩
    exact frz_post h hf

theorem find_ins {L : List RS} {id : Int} {j : Nat} {t : Bool} (h : FindP L id j t) (s : RS) (hs : s.id = id) : (L.take j ++ s :: L.drop j).map RS.a = insA s.a (L.map RS.a) := by
  obtain ⟨h1, h2, h3, _⟩ := h
  unfold insA
  rw [List.map_append, List.map_cons]
  have key : ∀ (L : List RS) (j : Nat), j ≤ L.length → (∀ i r, i < j → L[i]? = some r → r.id < id) → (∀ r, L[j]? = some r → id ≤ r.id) → (L.map RS.a).takeWhile (fun b => decide (b.id < id)) = (L.take j).map RS.a ∧ (L.map RS.a).dropWhile (fun b => decide (b.id < id)) = (L.drop j).map RS.a := by
    intro L
    induction L with
    | nil => intro j _ _ _; simp
    | cons a l ih =>
      intro j hj hlt hge
      cases j with
      | zero =>
        have := hge a rfl
        have e : decide (a.a.id < id) = false := decide_eq_false (by show ¬ a.id < id; omega)
        simp [e]
      | succ j =>
        have := hlt 0 a (by omega) rfl
        have e : decide (a.a.id < id) = true := decide_eq_true this
        obtain ⟨g1, g2⟩ := ih j (by simpa using hj) (fun i r hi hr => hlt (i + 1) r (by omega) (by simpa using hr)) (fun r hr => hge r (by simpa using hr))
        simp [e, g1, g2]
  have e : s.a.id = id := hs
  rw [e]
  obtain ⟨k1, k2⟩ := key L j h1 h2 h3
  rw [k1, k2]
theorem find_sorted {L : List RS} {id : Int} {j : Nat} {t : Bool} (h : FindP L id j t) (hs : L.Pairwise (fun a b => a.id < b.id)) (hno : ∀ r ∈ L, r.id ≠ id) (s : RS) (hid : s.id = id) : (L.take j ++ s :: L.drop j).Pairwise (fun a b => a.id < b.id) := by
  obtain ⟨h1, h2, h3, _⟩ := h
  have hp := List.pairwise_iff_getElem.1 hs
  have hlt : ∀ r ∈ L.take j, r.id < id := fun r hr => by
    obtain ⟨i, hi, rfl⟩ := List.mem_iff_getElem.1 hr
    have hi' : i < j ∧ i < L.length := by simp at hi; omega
    rw [List.getElem_take]
    exact h2 i _ hi'.1 (List.getElem?_eq_getElem hi'.2)
  have hgt : ∀ r ∈ L.drop j, id < r.id := fun r hr => by
    obtain ⟨i, hi, rfl⟩ := List.mem_iff_getElem.1 hr
    have hi' : j + i < L.length := by simp at hi; omega
    rw [List.getElem_drop]
    have hj : j < L.length := by omega
    have h4 := h3 _ (List.getElem?_eq_getElem hj)
    have h5 := hno _ (List.getElem_mem hi')
    by_cases e : i = 0
    · subst e
      have : L[j + 0] = L[j] := by simp
      rw [this] at h5 ⊢
      omega
    · have := hp j (j + i) hj hi' (by omega)
      omega
  rw [List.pairwise_append]
  refine ⟨hs.sublist (List.take_sublist _ _), List.pairwise_cons.2 ⟨fun r hr => by rw [hid]; exact hgt r hr, hs.sublist (List.drop_sublist _ _)⟩, fun a ha b hb => ?_⟩
  rw [List.mem_cons] at hb
  rcases hb with rfl | hb
  · rw [hid]; exact hlt a ha
  · have := hlt a ha; have := hgt b hb; omega

theorem sub_k {L : List RS} {id : Int} {st : List SS} {n : Nat} {k : Int} {L' : List AS} (h : SubA (L.map RS.a) id st n k L') : SubK L id st n k ∧ (¬ (k = 0 ∧ ∀ r ∈ L, r.id ≠ id) → L' = L.map RS.a) ∧ ((k = 0 ∧ ∀ r ∈ L, r.id ≠ id) → L' = insA ⟨id, st, (1, 1), 0, 0⟩ (L.map RS.a) ∧ sagaOk id st = true) := by
  have hno : (∀ a ∈ L.map RS.a, a.id ≠ id) ↔ ∀ r ∈ L, r.id ≠ id := by
    constructor
    · intro h r hr; exact h r.a (List.mem_map_of_mem hr)
    · intro h a ha
      rw [List.mem_map] at ha
      obtain ⟨r, hr, rfl⟩ := ha
      exact h r hr
  have hneed : needA (L.map RS.a) st.length = roomNeed L st.length := by
    unfold needA roomNeed
    rw [List.map_map]
    rfl
  rcases h with ⟨h1, h2, h3⟩ | ⟨h1, a, ha, hid, h2, h3⟩ | ⟨h1, h2, ⟨h3, h4⟩ | ⟨h3, h4, h5⟩⟩
  · exact ⟨.inl ⟨h1, h2⟩, fun _ => h3, fun h => by rw [h2] at h; cases h.1⟩
  · rw [List.mem_map] at ha
    obtain ⟨r, hr, rfl⟩ := ha
    exact ⟨.inr (.inl ⟨h1, r, hr, hid, h2⟩), fun _ => h3, fun h => absurd hid (h.2 r hr)⟩
  · exact ⟨.inr (.inr ⟨h1, hno.1 h2, .inl h3⟩), fun h => absurd ⟨h3, hno.1 h2⟩ h, fun _ => ⟨h4, h1⟩⟩
  · exact ⟨.inr (.inr ⟨h1, hno.1 h2, .inr ⟨h3, by rw [← hneed]; exact h4⟩⟩), fun _ => h5, fun h => by rw [h3] at h; cases h.1⟩
set_option maxRecDepth 100000 in
theorem submitted_any (gd : Good G) {w : World} {b0 s : Nat} {q : DR} (h : DI G w b0 s q) (hs : s < 60000) (hG : GOk w) (hg : 0 < b0) (hbs : b0 ≤ w.heap.size) {X : Addr} (hx : q.x = some X) (id : Int) {bo : Option Addr} {cb : Nat} {st : List SS} (hst : StepsAt w b0 bo cb st) (hsl : st.length ≤ s) : Calls Tryz.prog 84 #[.pointer (some ⟨q.D, 0, none⟩), .int .i64 id, .slice bo st.length cb] w fun e w' => DPost G w b0 s q q.fl e w' := by
  obtain ⟨nAD, nBD, nPD, nAB, nPA, nPB, nF⟩ := h.ne
  obtain ⟨calls, writes, bs, hd, hr, _⟩ := h.d
  have hd : DiskAt w q.A q.B q.n (.slice none 0 0) calls writes := hd
  have hr : RowsAt w q.B q.n bs := hr
  obtain ⟨lo, lm, lcap, pe, pl, pa, hpp⟩ := h.p
  have hb := h.b
  obtain ⟨ao, cap, hLv, _, _⟩ := own_shape h.a.o
  have hln := h.ln
  have hl := h.l
  have ha := h.a
  rw [hLv] at hl ha
  have hSF : ∀ b, (b = q.A ∨ b = q.B ∨ q.F b) → Foot0 q b := fun b h => by
    rcases h with h | h | h
    · exact .inr (.inl h)
    · exact .inr (.inr (.inl h))
    · exact .inr (.inr (.inr (.inr h)))
  have hSlt : ∀ b, (b = q.A ∨ b = q.B ∨ q.F b) → b < w.heap.size := fun b hb => by
    rcases hb with rfl | rfl | hF
    · exact lt_of_heap hd
    · exact lt_of_heap hr.1
    · obtain ⟨_, c, t, hc, _⟩ := h.f b hF; exact lt_of_heap hc
  refine (submitted_ok (Post := fun kk wS => ∃ L' F', SubA (q.L.map RS.a) id st q.n kk L' ∧ (∀ b, F' b → q.F b ∨ w.heap.size ≤ b) ∧ FT wS 0 F' ∧ DevI G wS (s + 1) (q.k.with L' F') ∧ Fr (fun b => b = q.A ∨ b = q.B ∨ q.F b) w wS) (S := fun b => b = q.A ∨ b = q.B ∨ q.F b) hl hd hpp ha (by omega) (fun r hr => (h.ls r hr).1) h.lo hG
    (by rintro (e | e | e); omega; omega; have := (h.f _ e).1; omega) id st hst (by omega) (fun b c t hb ht hSb => ?_) hSlt (fun w1 g hf1 hgw hrow => ?_)).mono ?_
  · rcases Foot0.ty h hb (hSF b hSb) with ⟨rfl, e⟩ | ⟨rfl, _⟩ | ⟨rfl, _⟩ | ⟨rfl, e⟩ | ⟨_, hE⟩
    · subst e
      rcases hSb with e | e | e
      · exact nAD e.symm
      · exact nBD e.symm
      · exact (nF _ e).1 rfl
    · exact (mine_ne ht).1 rfl
    · exact (mine_ne ht).2.1 rfl
    · subst e
      rcases hSb with e | e | e
      · exact nPA e
      · exact nPB e
      · exact (nF _ e).2.2.2 rfl
    · exact (mine_ne ht).2.2 hE
  · rw [hx]
    have h1 : DevI G w1 s q.k := h.d.fr hf1 (fun h => h) (fun h => h) (fun h => h) (fun _ _ h => h)
    have hFT1 : FT w1 0 q.F := fun b hb => by
      obtain ⟨_, c, t, hc, ht⟩ := h.f b hb
      exact ⟨Nat.zero_le _, c, t, hf1.keep hc (fun h => h), ht⟩
    refine (gd.sub id st g h1 hs h.n hx hFT1 h.okL h.kl hsl hrow).mono ?_
    rintro e w' ⟨v, kk, L', F', rfl, hv, hsub, hF', hFT, hD, hf⟩
    exact ⟨v, kk, rfl, hv, (sub_k hsub).1, ⟨L', F', hsub, fun b hb => (hF' b hb).imp_right (fun h => Nat.le_trans hf1.size h), hFT, hD, (hf1.mono (fun _ _ h => h.elim)).trans hf (fun _ _ h => h)⟩, hf⟩
  · rintro e w' ⟨rfl, wS, kk, g, ⟨L', F', hsub, hF', hFT, hD, hfS⟩, hk, hgw, ⟨gc, hgc⟩, hfD, hcase⟩
    obtain ⟨_, hk1, hk2⟩ := sub_k hsub
    have hF3 : Fr (fun b => b = q.D ∨ b = q.A ∨ b = q.B ∨ q.F b) w w' := (hfS.mono (fun _ _ h => .inr h)).trans hfD (fun b hb h => by
      rcases h with h | h
      · exact .inl h
      · omega)
    have hsub3 : ∀ b, b < w.heap.size → (b = q.D ∨ b = q.A ∨ b = q.B ∨ q.F b) → Foot0 q b := fun b _ h => by
      rcases h with h | h
      · exact .inl h
      · exact hSF b h
    have hFw : Fr (Foot q) w w' := hF3.mono (fun b hb h => .inl (hsub3 b hb h))
    have hpart : w'.heap[q.Pp]? = some (.cells #[.slice lo lm lcap, pe, pl, pa] 48 (0, 0)) := hF3.keep hpp (by rintro (e | e | e | e); exact nPD e; exact nPA e; exact nPB e; exact (nF _ e).2.2.2 rfl)
    have haw := h.a.fr hF3 (h.lists hsub3)
    have hstw : StepsAt w' b0 bo cb st := hst.fr hF3 (fun b c hb => h.lists hsub3 b c _ hb (.inr (.inl rfl)))
    have hFD : ∀ b, F' b → ¬ (b = q.D ∨ b = g) := fun b hb e => by
      have hlt := lt_of_heap h.l
      rcases e with rfl | rfl
      · rcases hF' _ hb with e | e
        · exact (nF _ e).1 rfl
        · omega
      · obtain ⟨_, c, t, hc, ht⟩ := hFT b hb
        rw [hgc] at hc; simp at hc
        unfold EngT at ht
        rw [← hc.2] at ht; simp at ht
    have hlt := lt_of_heap h.l
    have hDw := DevI.fr hD hfD (by rintro (e | e); exact nAD e; have := lt_of_heap hd; have e : q.A = g := e; omega) (by rintro (e | e); exact nBD e; have := lt_of_heap hr.1; have e : q.B = g := e; omega) (by rintro (e | e); exact nPD e; have := lt_of_heap hpp; have e : q.Pp = g := e; omega) hFD
    have hFTw : ∀ b, F' b → b0 ≤ b ∧ ∃ c t, w'.heap[b]? = some (.cells c t (0, 0)) ∧ EngT t := fun b hb => by
      obtain ⟨_, c, t, hc, ht⟩ := hFT b hb
      refine ⟨?_, c, t, hfD.keep hc (hFD b hb), ht⟩
      rcases hF' b hb with e | e
      · exact (h.f b e).1
      · omega
    rcases hcase with ⟨hlw, hnew⟩ | ⟨hk0, hno, j, t, v, sg, hfp, hlw, hown, e1, e2, e3, e4, e5, e6, e7, e8, e9, hmay⟩
    · rw [← hLv] at hlw
      refine ⟨rfl, ⟨q.D, q.A, q.B, q.Pp, q.n, q.nn, q.x, q.pause, q.clock, q.Lv, q.L, F', q.fl⟩, rfl, ⟨rfl, rfl, rfl, rfl⟩, hF', (fun b h => .inl h), ⟨hlw, ⟨_, _, _, _, _, _, hpart⟩, ?_, haw, Nat.le_succ_of_le h.ln, h.ls, h.lo, hFTw, hb, h.n⟩, hFw⟩
      have := hk1 hnew
      subst this
      exact hDw
    · obtain ⟨hL', hok⟩ := hk2 ⟨hk0, hno⟩
      have hmem : ∀ r ∈ q.L.take j ++ sg :: q.L.drop j, r ∈ q.L ∨ r = sg := fun r hr => by
        rw [List.mem_append, List.mem_cons] at hr
        rcases hr with hr | hr | hr
        · exact .inl (List.mem_of_mem_take hr)
        · exact .inr hr
        · exact .inl (List.mem_of_mem_drop hr)
      have hlen : (q.L.take j ++ sg :: q.L.drop j).length = q.L.length + 1 := by simp; omega
      refine ⟨rfl, ⟨q.D, q.A, q.B, q.Pp, q.n, q.nn, q.x, q.pause, q.clock, v, q.L.take j ++ sg :: q.L.drop j, F', q.fl⟩, rfl, ⟨rfl, rfl, rfl, rfl⟩, hF', (fun b h => .inr (hown.lt b h).1), ⟨hlw, ⟨_, _, _, _, _, _, hpart⟩, ?_, ⟨?_, ?_, ?_, ?_⟩, ?_, ?_, find_sorted hfp h.lo hno sg e1, hFTw, hb, h.n⟩, hFw⟩
      · have hsa : sg.a = ⟨id, st, (1, 1), 0, 0⟩ := by unfold RS.a; rw [e1, e4, e5, e6, e7]
        unfold DR.k
        simp only [find_ins hfp sg e1, hsa, ← hL']
        exact hDw
      · show w'.ownsRow b0 223 7 v (q.L.take j ++ sg :: q.L.drop j).length (rcells (q.L.take j ++ sg :: q.L.drop j))
        rw [hlen]; exact own_base2 hown hbs
      · intro r hr
        rcases hmem r hr with hr | rfl
        · exact haw.s r hr
        · rw [e2, e3, e4]; exact hstw
      · intro r hr
        rcases hmem r hr with hr | rfl
        · exact haw.m r hr
        · exact ⟨hmay, by rw [e8, e5], e9⟩
      · intro r hr
        rcases hmem r hr with hr | rfl
        · exact haw.n r hr
        · rw [e4]; omega
      · show (q.L.take j ++ sg :: q.L.drop j).length ≤ s + 1
        rw [hlen]; omega
      · intro r hr
        rcases hmem r hr with hr | rfl
        · exact h.ls r hr
        · rw [e5, e1, e4]; exact ⟨by decide, hok⟩
end Go.Proofs.YteebjgfalllbjaaGreatDoor
namespace Go.Proofs.YteebjgfalllbjaaGreatDoor
open Go.RowKit
variable {G : Prg}

theorem GOk.below {w w' : World} {b0 : Nat} (h : GOk w) (hb : Below b0 w w') (hg : 0 < b0) : GOk w' := by
  unfold GOk at *
  rw [hb.cell (p := ⟨0, 0, none⟩) hg]; exact h

set_option maxRecDepth 100000 in
set_option maxHeartbeats 1000000 in
theorem step_own {w : World} {b0 W0 s : Nat} {qs : List DR} (h : Inv G w b0 W0 s qs) (hs : s < 60000) (K X a b : Int) (S T : ByteArray) (ha1 : -9223372036854775808 ≤ a) (ha2 : a ≤ 9223372036854775807) (h1 : 1 ≤ K) (h2 : K ≤ 6) :
    Calls Tryz.prog 38 #[.pointer (some ⟨W0, 0, none⟩), .agg (opv K X a b S T)] w fun e w' => OwnPost G w b0 W0 s e w' := by
  have hsz := h.size
  have hF : Fr (fun _ => False) w (w.alloc (.cells (opv K X a b S T) 74)) := (Fr.refl _ _).alloc _
  have hI := h.frz hF (Nat.le_refl _)
  have hB := frz_below hF hsz
  have HO := owner_own hI (by omega) K X a b S T ha1 ha2 h1 h2
  clear hF hI h
  unfold opv at *
  go_enter Tryz.func38, Tryz.ntmps38
  go_wp2_with fail
  refine HO.mono ?_
  rintro e w2 ⟨qs', rfl, hI2, hB2⟩
  have HE : Hid (OwnPost G w b0 W0 s (.returned (.bool true)) w2) := ⟨qs', rfl, hI2, hB.trans hB2⟩
  clear hI2 hB2 HO hB
  go_wp2
  go_ret
  exact HE.out
set_option maxRecDepth 100000 in
set_option maxHeartbeats 1000000 in
theorem step_low {w : World} {b0 W0 s : Nat} {qs : List DR} (h : Inv G w b0 W0 s qs) (K X a b : Int) (S T : ByteArray) (h1 : K < 1 ∨ (6 < K ∧ qs = [])) :
    Calls Tryz.prog 38 #[.pointer (some ⟨W0, 0, none⟩), .agg (opv K X a b S T)] w fun e w' => OwnPost G w b0 W0 s e w' := by
  have hsz := h.size
  have hF : Fr (fun _ => False) w (w.alloc (.cells (opv K X a b S T) 74)) := (Fr.refl _ _).alloc _
  have hOc : (w.alloc (.cells (opv K X a b S T) 74)).cell? ⟨w.heap.size, 0, none⟩ = some (.int .i64 K) := by rw [cell_of_row _ w.heap.size 0 _ _ _ (heap_alloc_at _ _)]; rfl
  have HO := owner_other (w := w.alloc (.cells (opv K X a b S T) 74)) (W0 := W0) K X a b S T (by omega)
  unfold opv at *
  go_enter Tryz.func38, Tryz.ntmps38
  go_wp2_with fail
  refine HO.mono ?_
  rintro e w2 ⟨rfl, hf2⟩
  have hF2 := hF.trans hf2 (fun _ _ h => h)
  have hI2 := h.frz hF2 (Nat.le_refl _)
  have HE : Hid (OwnPost G w b0 W0 s (.returned (.bool true)) w2) := ⟨qs, rfl, h.frz hF2 (by omega), frz_below hF2 hsz⟩
  have hO2 := hf2.cell hOc id
  obtain ⟨kv, rv, sv, dv, fv, k, r, st, kxs, rxs, sts, fxs, hI, _⟩ := hI2
  obtain ⟨ao, cc, hdv⟩ := own_form hI.hd
  have c3 := hI.c3
  rw [hdv] at c3
  clear hI hdv hF hOc HO hf2 hF2 h
  by_cases hq : qs.length = 0
  · have hq' : ((qs.length : Int) == 0) = true := by simp [hq]
    go_wp2
    go_ret
    exact HE.out
  · have hq' : ((qs.length : Int) == 0) = false := by simp; exact fun e => hq (by simp [e])
    have hK : decide (K < 7) = true := by
      rcases h1 with h1 | ⟨_, e⟩
      · simp; omega
      · exact absurd (by simp [e]) hq
    go_wp2
    go_ret
    exact HE.out

/-- A step of the script on a disk: how it comes to the disk. -/
theorem disk_at {w : World} {b0 : Nat} {dv : Value} {m : Nat} {ds : List Nat} (h : w.ownsRow b0 105 1 dv m (ds.map fun D => Value.pointer (some ⟨D, 0, none⟩))) (hm : 0 < m) :
    ∃ g cap, dv = .slice (some ⟨g, 0, none⟩) m cap ∧ ∀ (i : Nat) (D : Nat), ds[i]? = some D → w.cell? ⟨g, i, none⟩ = some (.pointer (some ⟨D, 0, none⟩)) := by
  obtain ⟨g, cap, rfl, _, _⟩ := h.form hm
  refine ⟨g, cap, rfl, fun i D hi => ?_⟩
  have := h.cells (g := g) rfl i (.pointer (some ⟨D, 0, none⟩)) (by rw [List.getElem?_map, hi]; rfl)
  rwa [Addr.add_mid, Nat.zero_add] at this

theorem fail_set {w : World} {b0 W0 s : Nat} {kv rv sv dv : Value} {k r st : Nat} {kxs rxs fxs : List Value} {sts : List SS} {qs : List DR} {gf capf : Nat} {fs : List Bool} (fb : Bool)
    (hI : WI w b0 W0 kv rv sv dv (.slice (some ⟨gf, 0, none⟩) qs.length capf) k r st qs.length kxs rxs (scells sts) (qs.map DR.D) fxs) (hsn : sts.length = st) (hk : k ≤ s) (hr : r ≤ s) (hst : st ≤ s) (hm : qs.length ≤ s) (hDs : ∀ q ∈ qs, DI G w b0 s q) (hPw : PwX kv rv rxs fxs qs fs) (i : Nat) :
    InvF G (w.setCell ⟨gf, i, none⟩ (.bool fb)) b0 W0 s qs (fs.set i fb) ∧ Below b0 w (w.setCell ⟨gf, i, none⟩ (.bool fb)) ∧ (∀ q, DI G w b0 s q → DI G (w.setCell ⟨gf, i, none⟩ (.bool fb)) b0 s q) ∧
      (i < qs.length → ∃ v, w.cell? ⟨gf, i, none⟩ = some v) ∧ w.frozen? ⟨gf, i, none⟩ = false ∧ (∀ c t, w.heap[gf]? = some (.cells c t (0, 0)) → t = 4) := by
  obtain ⟨cur, hgf, hcs, hnc⟩ : ∃ cur, w.heap[gf]? = some (.cells cur 4 (0, 0)) ∧ cur.size = capf ∧ qs.length ≤ capf := by
    rcases hI.hf.2 with ⟨hv, _⟩ | ⟨g', cap', cur, hv, _, hg, hn, _, hc, _⟩
    · cases hv
    · simp only [Value.slice.injEq, Option.some.injEq, Addr.mk.injEq, and_true, true_and] at hv
      obtain ⟨rfl, rfl⟩ := hv
      exact ⟨cur, hg, by omega, hn⟩
  have hty : ∀ c t, w.heap[gf]? = some (.cells c t (0, 0)) → t = 4 := fun c t h => by rw [hgf] at h; simp at h; exact h.2.symm
  have hf : Fr (· = gf) w (w.setCell ⟨gf, i, none⟩ (.bool fb)) := Fr.set1 _ _ _ _
  have hne : ∀ {e : Nat}, e ≠ 4 → ∀ b c, w.heap[b]? = some (.cells c e (0, 0)) → ¬ b = gf := fun he b c hb e => he (hty c _ (e ▸ hb))
  have hst' := hI.hf.stored i (.bool fb)
  have hgb : b0 ≤ gf := (hI.hf.lt gf rfl).1
  have hDI : ∀ q, DI G w b0 s q → DI G (w.setCell ⟨gf, i, none⟩ (.bool fb)) b0 s q := fun q hq => hq.fr hf (fun b c t hb ht => by
    rcases ht with ⟨rfl, _⟩ | ⟨rfl, _⟩ | ⟨rfl, _⟩ | ht
    · exact hne (by decide) b c hb
    · exact hne (by decide) b c hb
    · exact hne (by decide) b c hb
    · exact hne ht.ne.2.2.2.1 b c hb)
  have hB : Below b0 w (w.setCell ⟨gf, i, none⟩ (.bool fb)) := (Below.refl _ _).setCell (p := ⟨gf, i, none⟩) hgb _
  refine ⟨⟨kv, rv, sv, dv, _, k, r, st, kxs, rxs, sts, fxs.set i (.bool fb), ⟨hf.keep hI.hw (hne (by decide) _ _ hI.hw), own_fr hI.hk hf (fun b c hb _ => hne (by decide) b c hb), own_fr hI.hr hf (fun b c hb _ => hne (by decide) b c hb), own_fr hI.hs hf (fun b c hb _ => hne (by decide) b c hb), own_fr hI.hd hf (fun b c hb _ => hne (by decide) b c hb), hst'.1, hI.ne, hI.ro, hI.so, hI.w0⟩, hsn, hk, hr, hst, hm, fun q hq => hDI q (hDs q hq), ⟨hPw.pw, by rw [hPw.fx, List.map_set], hPw.rx, hPw.kr⟩⟩, hB, hDI, fun hi => ?_, frozen_of_row w gf i _ _ hgf, hty⟩
  rw [cell_of_row w gf i _ _ _ hgf]
  exact ⟨_, Array.getElem?_eq_getElem (by omega)⟩

end Go.Proofs.YteebjgfalllbjaaGreatDoor
