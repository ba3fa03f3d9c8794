import Derived.Test.YteebjgfalllbjaaGreatDoorCGeGfSp
import Derived.Test.YteebjgfalllbjaaGreatDoorCNk
namespace Go.Proofs.YteebjgfalllbjaaGreatDoor
open Go.RowKit
variable {G : Prg}
theorem LogR.p {w : World} {Pp : Nat} {log : List (CL × Nat)} (h : LogR w Pp log) : ∃ lo lm lcap pe pl pa, w.heap[Pp]? = some (.cells #[.slice lo lm lcap, pe, pl, pa] 48 (0, 0)) := by
  obtain ⟨la, lc, ef, l, v, hp, _⟩ := h
  exact ⟨_, _, _, _, _, _, hp⟩
set_option maxRecDepth 100000 in
theorem ticked_any (gd : Good G) {w : World} {b0 s : Nat} {q : DR} (h : DI G w b0 s q) (hs : s < 60000) (hbs : b0 ≤ w.heap.size) {X : Addr} (hx : q.x = some X) : Calls Tryz.prog 85 #[.pointer (some ⟨q.D, 0, none⟩), .bool q.fl] w fun e w' => DPost G w b0 s q q.fl e w' := by
  obtain ⟨nAD, nBD, nPD, nAB, nPA, nPB, nF⟩ := h.ne
  obtain ⟨calls, writes, bs, hd, hr, _⟩ := h.d
  have hd : DiskAt w q.A q.B q.n (.slice none 0 0) calls writes := hd
  have hr : RowsAt w q.B q.n bs := hr
  have hb := h.b
  have hln := h.ln
  have hFT0 : FT w 0 q.k.F := fun b hb => ⟨Nat.zero_le _, (h.f b hb).2⟩
  obtain ⟨⟨hc0, hc1, hp0, hp1, hok⟩, log0, L', hl0, hlog, hokL, hlL, hT⟩ := gd.tik (k := q.k) h.d hs hx hFT0
  have hl := h.l
  rw [hx] at hl
  have hok' : ∀ r ∈ q.L, r.a.Ok q.clock := fun r hr => hok r.a (List.mem_map_of_mem hr)
  have hLv : ∀ b, q.Lv.ownBlock = some b → ∃ c, w.heap[b]? = some (.cells c 223 (0, 0)) := fun b hb => own_tyS h.a.o hb
  refine (ticked_ok (b := b0) (fails := q.fl) (L' := L') (Post := fun w1 => ∃ F', (∃ new, LogR w1 q.Pp (log0 ++ new)) ∧ (∀ b, F' b → q.F b ∨ w.heap.size ≤ b) ∧ FT w1 0 F' ∧ DevI G w1 (s + 1) (q.k.ticked L' F') ∧ Fr (fun b => b = q.A ∨ b = q.B ∨ b = q.Pp ∨ q.F b) w w1) hl hd hlog hl0 (by omega) hc0 hc1 hp0 hp1 hok' (hT.mono ?_)).mono ?_
  · rintro e w1 ⟨rfl, new, F', hn, hlg, hfol, hF', hFT, hD, hf⟩
    have hsub : ∀ b, b < w.heap.size → (b = q.A ∨ b = q.B ∨ b = q.Pp ∨ q.F b) → Foot0 q b := fun b _ h => by
      rcases h with h | h | h | h
      · exact .inr (.inl h)
      · exact .inr (.inr (.inl h))
      · exact .inr (.inr (.inr (.inl h)))
      · exact .inr (.inr (.inr (.inr h)))
    refine ⟨rfl, hl.fr hf ?_, h.a.fr hf (h.lists hsub), ⟨F', ⟨new, hlg⟩, hF', hFT, hD, hf⟩, new, hn, hlg, hfol⟩
    rintro (e | e | e | e)
    · exact nAD e.symm
    · exact nBD e.symm
    · exact nPD e.symm
    · exact (nF _ e).1 rfl
  · rintro e w' ⟨rfl, wS, Lv', Ln, ⟨F', ⟨new, hlg⟩, hF', hFT, hD, hfS⟩, hlw, hla, hLn, hLv', hfD⟩
    have hty : ∀ b c t, wS.heap[b]? = some (.cells c t (0, 0)) → t ≠ 111 → t ≠ 223 → ¬ (b = q.D ∨ q.Lv.ownBlock = some b) := by
      rintro b c t hb h1 h2 (e | e)
      · subst e
        have := hfS.keep h.l (by rintro (e | e | e | e); exact nAD e.symm; exact nBD e.symm; exact nPD e.symm; exact (nF _ e).1 rfl)
        rw [this] at hb; simp at hb; exact h1 hb.2.symm
      · obtain ⟨c', hc'⟩ := hLv b e
        have hk := hfS.keep hc' (fun hS => by
          have := h.lists (S := fun b => b = q.A ∨ b = q.B ∨ b = q.Pp ∨ q.F b) (fun b _ h => by
            rcases h with h | h | h | h
            · exact .inr (.inl h)
            · exact .inr (.inr (.inl h))
            · exact .inr (.inr (.inr (.inl h)))
            · exact .inr (.inr (.inr (.inr h)))) b _ _ hc' (.inl rfl)
          exact this hS)
        rw [hk] at hb; simp at hb; exact h2 hb.2.symm
    have hDD := hD
    obtain ⟨_, _, _, hd1, hr1, _⟩ := hD
    have hd1 : DiskAt wS q.A q.B q.n (.slice none 0 0) _ _ := hd1
    have hr1 : RowsAt wS q.B q.n _ := hr1
    have hp1 := hlg.p
    obtain ⟨lo, lm, lcap, pe, pl, pa, hpp⟩ := hp1
    have hFD : ∀ b, F' b → ¬ (b = q.D ∨ q.Lv.ownBlock = some b) := fun b hb => by
      obtain ⟨_, c, t, hc, ht⟩ := hFT b hb
      unfold EngT at ht
      exact hty b c t hc ht.2.2.2.2.1 ht.2.2.2.2.2.2.2.2.1
    have hA := hty _ _ _ hd1 (by decide) (by decide)
    have hB := hty _ _ _ hr1.1 (by decide) (by decide)
    have hP := hty _ _ _ hpp (by decide) (by decide)
    have hFw : Fr (Foot q) w w' := (hfS.mono (fun b _ h => .inl (by
      rcases h with h | h | h | h
      · exact .inr (.inl h)
      · exact .inr (.inr (.inl h))
      · exact .inr (.inr (.inr (.inl h)))
      · exact .inr (.inr (.inr (.inr h)))))).trans hfD (fun b _ h => by
      rcases h with h | h
      · exact .inl (.inl h)
      · exact .inr h)
    have hkk : (DR.k ⟨q.D, q.A, q.B, q.Pp, q.n, q.nn, q.x, q.pause, q.clock + 1, Lv', Ln, F', q.fl⟩) = q.k.ticked L' F' := by
      unfold DR.k DK.ticked
      simp only [hLn]
    have hmem : ∀ r ∈ Ln, r.a ∈ L' := fun r hr => by rw [← hLn]; exact List.mem_map_of_mem hr
    refine ⟨rfl, ⟨q.D, q.A, q.B, q.Pp, q.n, q.nn, q.x, q.pause, q.clock + 1, Lv', Ln, F', q.fl⟩, rfl, ⟨rfl, rfl, rfl, rfl⟩, hF', fun b hb => (hLv' b hb).imp_right (fun h => Nat.le_trans hfS.size h), ⟨?_, ⟨_, _, _, _, _, _, hfD.keep hpp hP⟩, ?_, hla, ?_, fun r hr => hokL.2 r.a (hmem r hr), ?_, fun b hb => ?_, hb, h.n⟩, hFw⟩
    · show LawAt w' q.D q.A q.Pp q.n q.nn (.pointer q.x) q.pause (q.clock + 1) Lv'
      rw [hx]; exact hlw
    · rw [hkk]; exact DevI.fr hDD hfD hA hB hP hFD
    · show Ln.length ≤ s + 1
      have h1 : Ln.length = L'.length := by rw [← hLn, List.length_map]
      have h2 : q.k.L.length = q.L.length := by show (q.L.map RS.a).length = _; rw [List.length_map]
      omega
    · have := hokL.1
      rw [← hLn, List.pairwise_map] at this
      exact this
    · obtain ⟨_, c, t, hc, ht⟩ := hFT b hb
      refine ⟨?_, c, t, hfD.keep hc (hFD b hb), ht⟩
      rcases hF' b hb with e | e
      · exact (h.f b e).1
      · omega
end Go.Proofs.YteebjgfalllbjaaGreatDoor
namespace Go.Proofs.YteebjgfalllbjaaGreatDoor
open Go.RowKit
variable {G : Prg}

theorem DPost.pre {w w1 w' : World} {b0 s : Nat} {q : DR} {f : Bool} {e : Ending} (hf : Fr (fun _ => False) w w1) (h : DPost G w1 b0 s q f e w') : DPost G w b0 s q f e w' := by
  obtain ⟨he, q', hfl, hq, hF, hL, hd, hfw⟩ := h
  exact ⟨he, q', hfl, hq, fun b hb => (hF b hb).imp_right (fun h => Nat.le_trans hf.size h), fun b hb => (hL b hb).imp_right (fun h => Nat.le_trans hf.size h), hd, (hf.mono (fun _ _ h => h.elim)).trans hfw (fun _ _ h => h)⟩
set_option maxRecDepth 100000 in
set_option maxHeartbeats 4000000 in
theorem onEng_ok (gd : Good G) {w : World} {b0 W0 s : Nat} {q : DR} (h : DI G w b0 s q) (hs : s < 60000) (hG : GOk w) (hg : 0 < b0) (hbs : b0 ≤ w.heap.size) {Xa : Addr} (hx : q.x = some Xa) {sv : Value} {sts : List SS} (hW : w.cell? ⟨W0, 2, none⟩ = some sv) (hst : w.ownsRow b0 165 2 sv sts.length (scells sts)) (hsl : sts.length ≤ s)
    (K X a b : Int) (S T : ByteArray) (hK : K = 13 ∨ K = 14 ∨ K = 15 ∨ K = 16) :
    Calls Tryz.prog 55 #[.pointer (some ⟨W0, 0, none⟩), .pointer (some ⟨q.D, 0, none⟩), .bool q.fl, .agg (opv K X a b S T)] w fun e w' => DPost G w b0 s q q.fl e w' := by
  obtain ⟨bo, cb, rfl, _, _⟩ := own_shape hst
  obtain ⟨W, HW⟩ : ∃ W, Hid (W = w.alloc (.cells (opv K X a b S T) 74)) := ⟨_, rfl⟩
  obtain ⟨O, HO⟩ : ∃ O, Hid (O = w.heap.size) := ⟨_, rfl⟩
  have hF : Fr (fun _ => False) w W := by rw [HW.out]; exact (Fr.refl _ _).alloc _
  have hO : W.heap[O]? = some (.cells (opv K X a b S T) 74 (0, 0)) := by rw [HW.out, HO.out]; exact heap_alloc_at _ _
  have o0 : W.cell? ⟨O, 0, none⟩ = some (.int .i64 K) := (cell_of_row W O 0 _ _ _ hO).trans rfl
  have o2 : W.cell? ⟨O, 2, none⟩ = some (.int .i64 a) := (cell_of_row W O 2 _ _ _ hO).trans rfl
  have hbox : (Instr.box 74 (.agg (opv K X a b S T))).run Tryz.prog w = .ok (.pointer (some ⟨O, 0, none⟩)) W := by rw [HW.out, HO.out]; rfl
  have c2 : W.cell? ⟨W0, 2, none⟩ = some (.slice bo sts.length cb) := hF.cell hW (fun h => h)
  have H1 : Hid (DI G W b0 s q ∧ GOk W ∧ b0 ≤ W.heap.size ∧ StepsAt W b0 bo cb sts ∧ Fr (fun _ => False) w W) := ⟨h.fr hF (fun _ _ _ _ _ h => h), hG.fr hF (fun h => h), Nat.le_trans hbs hF.size, own_fr2 hst hF (fun _ _ h => h), hF⟩
  clear h hG hbs hst hF hO hW HW HO
  rcases hK with rfl | rfl | rfl | rfl
  · go_enter Tryz.func55, Tryz.ntmps55
    go_wp2_with (refine wpList_box 74 _ (v := .pointer (some ⟨O, 0, none⟩)) (w' := W) rfl rfl ?_ ?_; exact hbox)
    refine wp_region_still_tail 7 (by kernel_rfl) (by kernel_rfl) (Bx.out ?_)
    simp only [List.take_succ_cons, List.take_zero, List.drop_succ_cons, List.drop_zero]
    repeat (refine bx_step (fun K hK => ?_); go_simp; refine hK _ ?_; clear hK K)
    refine bx_nil ?_
    have hD : Fr (fun _ => False) W W.drew := (Fr.refl _ _).drew
    have hsub := submitted_any gd (w := W.drew) (H1.out.1.fr hD (fun _ _ _ _ _ h => h)) hs H1.out.2.1 hg H1.out.2.2.1 hx a (bo := bo) (cb := cb) (st := sts) (own_fr2 H1.out.2.2.2.1 hD (fun _ _ h => h)) hsl
    clear hD
    go_wp2_with fail
    refine hsub.mono ?_
    rintro e w' hp
    have HE : Hid (DPost G w b0 s q q.fl e w') := hp.pre H1.out.2.2.2.2.drew
    obtain ⟨rfl, _⟩ := hp
    clear hsub
    go_wp2
    go_ret
    exact HE.out
  · go_enter Tryz.func55, Tryz.ntmps55
    go_wp2_with (refine wpList_box 74 _ (v := .pointer (some ⟨O, 0, none⟩)) (w' := W) rfl rfl ?_ ?_; exact hbox)
    refine (ticked_any gd H1.out.1 hs H1.out.2.2.1 hx).mono ?_
    rintro e w' hp
    have HE : Hid (DPost G w b0 s q q.fl e w') := hp.pre H1.out.2.2.2.2
    obtain ⟨rfl, _⟩ := hp
    go_wp2
    go_ret
    exact HE.out
  · go_enter Tryz.func55, Tryz.ntmps55
    go_wp2_with (refine wpList_box 74 _ (v := .pointer (some ⟨O, 0, none⟩)) (w' := W) rfl rfl ?_ ?_; exact hbox)
    refine (told_any gd H1.out.1 hs H1.out.2.1 hx a).mono ?_
    rintro e w' hp
    have HE : Hid (DPost G w b0 s q q.fl e w') := hp.pre H1.out.2.2.2.2
    obtain ⟨rfl, _⟩ := hp
    go_wp2
    go_ret
    exact HE.out
  · go_enter Tryz.func55, Tryz.ntmps55
    go_wp2_with (refine wpList_box 74 _ (v := .pointer (some ⟨O, 0, none⟩)) (w' := W) rfl rfl ?_ ?_; exact hbox)
    refine (listed_any gd H1.out.1 hs hx a).mono ?_
    rintro e w' hp
    have HE : Hid (DPost G w b0 s q q.fl e w') := hp.pre H1.out.2.2.2.2
    obtain ⟨rfl, _⟩ := hp
    go_wp2
    go_ret
    exact HE.out
end Go.Proofs.YteebjgfalllbjaaGreatDoor
namespace Go.Proofs.YteebjgfalllbjaaGreatDoor
open Go.RowKit
variable {G : Prg}
theorem setCell_swap (w : World) (a b : Addr) (u v : Value) (h : a.block ≠ b.block) : (w.setCell a u).setCell b v = (w.setCell b v).setCell a u := by
  unfold World.setCell
  simp only
  congr 1
  apply Array.ext_getElem?
  intro k
  simp only [Array.getElem?_modify]
  by_cases h1 : a.block = k
  · have h2 : ¬ b.block = k := fun e => h (h1.trans e.symm)
    simp [h1, h2]
  · by_cases h2 : b.block = k
    · simp [h1, h2]
    · simp [h1, h2]
/-- An engine whose partner fails is there in the other's place. -/
theorem fails_step {w1 w2 : World} {b0 s : Nat} {q1 : DR} {X2 : Addr} {p : Int} {F2 : Nat → Prop} (h : DI G w1 b0 s q1) (hbs : b0 ≤ w1.heap.size) (hp : q1.pause = p ∧ q1.nn = false ∧ q1.clock = 0 ∧ (q1.L.map RS.a).map AS.zero = q1.L.map RS.a) (hF : ∀ b, F2 b → q1.F b ∨ w1.heap.size ≤ b) (hFT : FT w2 0 F2) (hD : DevI G w2 (s + 1) (q1.k.opened (some X2) p F2 true)) (hf : Fr (fun b => b = q1.A) w1 w2) :
    DStep G w1 b0 (s + 1) q1 ⟨q1.D, q1.A, q1.B, q1.Pp, q1.n, q1.nn, some X2, q1.pause, q1.clock, q1.Lv, q1.L, F2, true⟩ (w2.setCell ⟨q1.D, 5, none⟩ (.pointer (some X2))) := by
  obtain ⟨nAD, nBD, nPD, nAB, nPA, nPB, nF⟩ := h.ne
  obtain ⟨lo, lm, lcap, pe, pl, pa, hpp⟩ := h.p
  obtain ⟨calls, writes, bs, hd, hr, _⟩ := h.d
  have hd : DiskAt w1 q1.A q1.B q1.n (.slice none 0 0) calls writes := hd
  have hl2 := h.l.fr hf (fun e => nAD e.symm)
  have hfD : Fr (fun b => b = q1.D) w2 (w2.setCell ⟨q1.D, 5, none⟩ (.pointer (some X2))) := FrD.set (Fr.refl _ _)
  have hFD : ∀ b, F2 b → ¬ b = q1.D := fun b hb e => by
    rcases hF b hb with h1 | h1
    · exact (nF b h1).1 e
    · have := lt_of_heap h.l; omega
  have hall : Fr (fun b => b = q1.D ∨ b = q1.A) w1 (w2.setCell ⟨q1.D, 5, none⟩ (.pointer (some X2))) := (hf.mono (fun _ _ h => .inr h)).trans hfD (fun _ _ h => .inl h)
  have hsub : ∀ b, b < w1.heap.size → (b = q1.D ∨ b = q1.A) → Foot0 q1 b := fun b _ h => by
    rcases h with h | h
    · exact .inl h
    · exact .inr (.inl h)
  have hkk : (DR.k ⟨q1.D, q1.A, q1.B, q1.Pp, q1.n, q1.nn, some X2, q1.pause, q1.clock, q1.Lv, q1.L, F2, true⟩) = q1.k.opened (some X2) p F2 true := by
    unfold DK.opened DR.k
    simp only [hp.1, hp.2.1, hp.2.2.1, hp.2.2.2]
  refine ⟨⟨rfl, rfl, rfl, rfl⟩, hF, fun b hb => .inl hb, ⟨?_, ⟨_, _, _, _, _, _, hall.keep hpp (by rintro (e | e); exact nPD e; exact nPA e)⟩, ?_, h.a.fr hall (h.lists hsub), Nat.le_succ_of_le h.ln, h.ls, h.lo, fun b hb => ?_, h.b, h.n⟩, hall.mono (fun b hb h => .inl (hsub b hb h))⟩
  · exact hl2.set5 _
  · rw [hkk]; exact DevI.fr hD hfD nAD nBD nPD hFD
  · obtain ⟨_, c, t, hc, ht⟩ := hFT b hb
    refine ⟨?_, c, t, hfD.keep hc (hFD b hb), ht⟩
    rcases hF b hb with h1 | h1
    · exact (h.f b h1).1
    · omega
set_option maxRecDepth 100000 in
set_option maxHeartbeats 4000000 in
theorem failing_ok (gd : Good G) {w : World} {b0 W0 s : Nat} {qs : List DR} (h : Inv G w b0 W0 s qs) (hs : s < 60000) (hG : GOk w) (hg : 0 < b0) (i : Nat) (q : DR) (hi : qs[i]? = some q) (p : Int) :
    Calls Tryz.prog 54 #[.pointer (some ⟨W0, 0, none⟩), .int .i64 i, .int .i64 p] w fun e w' => OwnPost G w b0 W0 s e w' := by
  have hil : i < qs.length := (List.getElem?_eq_some_iff.1 hi).1
  have hil' : (i : Int) < qs.length := by omega
  have hsz := h.size
  have HINV : Hid (Inv G w b0 W0 s qs) := h
  have HQI : Hid (qs[i]? = some q) := hi
  obtain ⟨kv, rv, sv, dv, fv, k, r, st, kxs, rxs, sts, fxs, hI, hsn, hk, hr, hst, hm, hDs, hPw⟩ := h
  obtain ⟨g, cap, hdv, hdc⟩ := disk_at hI.hd (by omega)
  subst hdv
  have c3 := hI.c3
  have hD := hdc i q.D (by rw [List.getElem?_map, hi]; rfl)
  have hDq := hDs q (List.mem_of_getElem? hi)
  obtain ⟨calls, writes, bs, hdk, _⟩ := hDq.d
  have hdk : DiskAt w q.A q.B q.n (.slice none 0 0) calls writes := hdk
  have d0 := hDq.l.c0
  have HDK : Hid (DiskAt w q.A q.B q.n (.slice none 0 0) calls writes) := hdk
  have HOP := opened_any gd.toGood0 hDq hs hG hg hsz p
  have HQD : Hid (DI G w b0 s q) := hDq
  clear hI hdc hDs hPw hDq hdk hi
  go_enter Tryz.func54, Tryz.ntmps54
  go_wp2_with fail
  refine (Pending_ok HDK.out).mono ?_
  rintro e w' ⟨rfl, rfl⟩
  go_wp2_with fail
  refine HOP.mono ?_
  rintro e w1 ⟨rfl, q1, hfl1, hx1, hst1⟩
  have HST : Hid (DStep G w' b0 (s + 1) q q1 w1) := hst1
  have HX1 : Hid (q1.x ≠ none → q1.pause = p ∧ q1.nn = false ∧ q1.clock = 0 ∧ (q1.L.map RS.a).map AS.zero = q1.L.map RS.a) := hx1
  have hlt1 := hst1.d.l
  rw [hst1.i.1] at hlt1
  have d5 := hlt1.c5
  have d0' := hlt1.c0
  have hnil : q1.x = none ∨ ∃ A, q1.x = some A := by cases q1.x with | none => exact .inl rfl | some A => exact .inr ⟨A, rfl⟩
  clear c3 hD d0 HOP hst1 hx1 hlt1
  rcases hnil with hx | ⟨X1, hx⟩
  · have HE : Hid (OwnPost G w' b0 W0 s (.returned (.bool true)) w1) := by
      have hd' := (HST.out.d.flg gd.toGood0 hx q.fl).mono (show s + 1 ≤ s + 2 by omega)
      obtain ⟨u1, u2⟩ := Inv.upd HINV.out i q ⟨q1.D, q1.A, q1.B, q1.Pp, q1.n, q1.nn, q1.x, q1.pause, q1.clock, q1.Lv, q1.L, q1.F, q.fl⟩ HQI.out HST.out.i rfl HST.out.f HST.out.l hd' HST.out.r
      exact ⟨_, rfl, u1, u2⟩
    rw [hx] at d5
    go_wp2
    go_ret
    exact HE.out
  · rw [hx] at d5
    have hb1 : b0 ≤ w1.heap.size := Nat.le_trans hsz HST.out.r.size
    have hFT1 : FT w1 0 q1.k.F := fun b hb => ⟨Nat.zero_le _, (HST.out.d.f b hb).2⟩
    have hfai := gd.fai (k := q1.k) p HST.out.d.d (by omega) HST.out.d.n (by show q1.x ≠ none; rw [hx]; simp) (HX1.out (by rw [hx]; simp)).1 hFT1
    have e1 : q1.k.A = q.A := HST.out.i.2.1
    rw [e1] at hfai
    rw [HST.out.i.2.1] at d0'
    clear hFT1
    go_wp2_with fail
    refine hfai.mono ?_
    rintro e w2 ⟨X2, F2, rfl, hF2, hFT2, hD2, hf2⟩
    obtain ⟨W2, HW2⟩ : ∃ W2, Hid (W2 = w2.drew) := ⟨_, rfl⟩
    have hfz : Fr (fun _ => False) w2 W2 := by rw [HW2.out]; exact (Fr.refl _ _).drew
    have hf2' : Fr (fun b => b = q1.A) w1 W2 := by rw [HST.out.i.2.1]; exact hf2.trans (hfz.mono (fun _ _ h => h.elim)) (fun _ _ h => h)
    have hDS := (HST.out.trans (fails_step HST.out.d hb1 (HX1.out (by rw [hx]; simp)) hF2 (fun b hb => by obtain ⟨h0, c, t, hc, ht⟩ := hFT2 b hb; exact ⟨h0, c, t, hfz.keep hc (fun h => h), ht⟩) (hD2.fr hfz (fun h => h) (fun h => h) (fun h => h) (fun _ _ h => h)) hf2'))
    obtain ⟨q2, HQ2⟩ : ∃ q2 : DR, Hid (q2 = ⟨q1.D, q1.A, q1.B, q1.Pp, q1.n, q1.nn, some X2, q1.pause, q1.clock, q1.Lv, q1.L, F2, true⟩) := ⟨_, rfl⟩
    rw [HST.out.i.1] at hDS HQ2
    rw [← HQ2.out] at hDS
    have hq2f : q2.fl = true := by rw [HQ2.out]
    obtain ⟨WX, HWX⟩ : ∃ WX, Hid (WX = W2.setCell ⟨q.D, 5, none⟩ (.pointer (some X2))) := ⟨_, rfl⟩
    rw [← HWX.out] at hDS
    obtain ⟨u1, u2⟩ := InvF.upd HINV.out i q q2 HQI.out hDS.i hDS.f hDS.l hDS.d hDS.r
    have hlX := hDS.d.l
    rw [hDS.i.1] at hlX
    obtain ⟨kv', rv', sv', dv', fv', k', r', st', kxs', rxs', sts', fxs', hI', hsn', hk', hr', hst', hm', hDs', hPw'⟩ := u1
    have hlen' : (qs.set i q2).length = qs.length := List.length_set
    obtain ⟨gf, capf, hfv, hgfb, _⟩ := hI'.hf.form (by omega)
    subst hfv
    obtain ⟨j1, j2, j3, j4, j5, j6⟩ := fail_set true hI' hsn' hk' hr' hst' hm' hDs' hPw' i
    obtain ⟨v4, hv4⟩ := j4 (by omega)
    have hgD : ¬ gf = q.D := fun e => by
      have := j6 _ _ (by rw [e]; exact hlX)
      simp at this
    have hWD : ¬ W0 = q.D := fun e => by
      have h1 := hI'.hw
      rw [e] at h1
      have := h1.symm.trans hlX
      simp at this
    have hl2 : LawAt W2 q.D q1.A q1.Pp q1.n q1.nn (.pointer q1.x) q1.pause q1.clock q1.Lv := by
      have h1 := HST.out.d.l
      have h2 := HST.out.d.ne.1
      rw [HST.out.i.1] at h1 h2
      exact h1.fr hf2' (fun e => h2 e.symm)
    have e5 := hl2.c5
    have e5f : W2.frozen? ⟨q.D, 5, none⟩ = false := hl2.fz 5
    have c4 : w2.cell? ⟨W0, 4, none⟩ = some (.slice (some ⟨gf, 0, none⟩) qs.length capf) := by
      have h1 := hI'.c4
      rw [HWX.out, World.cell?_setCell_other _ _ _ _ (fun e => hWD (congrArg Addr.block e).symm), HW2.out, hlen'] at h1
      exact h1
    have hv4' : W2.cell? ⟨gf, i, none⟩ = some v4 := by
      rw [HWX.out, World.cell?_setCell_other _ _ _ _ (fun e => hgD (congrArg Addr.block e).symm)] at hv4
      exact hv4
    have hv4f : W2.frozen? ⟨gf, i, none⟩ = false := by
      have h1 := j5
      rw [HWX.out] at h1
      unfold World.frozen? at h1 ⊢
      rw [heap_setCell_ne _ _ _ _ (show (⟨gf, i, none⟩ : Addr).block ≠ (⟨q.D, 5, none⟩ : Addr).block from hgD)] at h1
      exact h1
    have HE : Hid (OwnPost G w' b0 W0 s (.returned (.bool true)) ((W2.setCell ⟨gf, i, none⟩ (.bool true)).setCell ⟨q.D, 5, none⟩ (.pointer (some X2)))) := by
      rw [setCell_swap _ _ _ _ _ hgD, ← HWX.out]
      refine ⟨qs.set i q2, rfl, ?_, u2.trans j2⟩
      have e : (qs.set i q2).map DR.fl = (qs.map DR.fl).set i true := by rw [List.map_set, hq2f]
      unfold Inv
      rw [e]
      exact j1
    have hgD' : ¬ q.D = gf := fun e => hgD e.symm
    clear hl2 hI' hDs' hPw' j1 j2 j3 j4 j5 j6 u2 hDS hlX hf2' hfz hD2 hfai hF2 hFT2 hf2 hv4
    go_wp2_with fail
    refine wp_region_still_tail 8 (by kernel_rfl) (by kernel_rfl) (Bx.out ?_)
    simp only [List.take_succ_cons, List.take_zero, List.drop_succ_cons, List.drop_zero]
    repeat (refine bx_step (fun K hK => ?_); go_simp; refine hK _ ?_; clear hK K)
    refine bx_nil ?_
    rw [show ({ heap := w2.heap, tape := w2.tape, drawn := w2.drawn + 1, os := w2.os, output := w2.output } : World) = W2 from HW2.out.symm]
    go_wp2
    go_ret
    exact HE.out
end Go.Proofs.YteebjgfalllbjaaGreatDoor
