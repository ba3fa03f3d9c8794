import Derived.Test.YteebjgfalllbjaaGreatDoorCGgSqGh
import Derived.BigQuiet
namespace Go.Proofs.YteebjgfalllbjaaGreatDoor
open Go.RowKit
variable {G : Prg}
set_option maxRecDepth 100000 in
set_option maxHeartbeats 4000000 in
theorem step_disk {w : World} {b0 W0 s : Nat} {qs : List DR} (gd : Good G) (h : Inv G w b0 W0 s qs) (hs : s < 60000) (hG : GOk w) (hg : 0 < b0) (K X a b : Int) (S T : ByteArray) (hK : K = 10 ∨ K = 11 ∨ K = 12 ∨ K = 13 ∨ K = 14 ∨ K = 15 ∨ K = 16) (hX1 : -9223372036854775808 ≤ X) (hX2 : X ≤ 9223372036854775807) (ha1 : -9223372036854775808 ≤ a) (ha2 : a ≤ 9223372036854775807) (hb1 : -9223372036854775808 ≤ b) (hb2 : b ≤ 9223372036854775807) (hq : 0 < qs.length) :
    Calls Tryz.prog 38 #[.pointer (some ⟨W0, 0, none⟩), .agg (opv K X a b S T)] w fun e w' => OwnPost G w b0 W0 s e w' := by
  have hsz := h.size
  have hK1 : decide (K < 7) = false := by simp; omega
  have hK2 : decide (K > 16) = false := by simp; omega
  have HK : Hid (K = 10 ∨ K = 11 ∨ K = 12 ∨ K = 13 ∨ K = 14 ∨ K = 15 ∨ K = 16) := hK
  have hF : Fr (fun _ => False) w (w.alloc (.cells (opv K X a b S T) 74)) := (Fr.refl _ _).alloc _
  obtain ⟨O, HOO⟩ : ∃ O, Hid (O = w.heap.size) := ⟨_, rfl⟩
  have hOh : (w.alloc (.cells (opv K X a b S T) 74)).heap[w.heap.size]? = some (.cells (opv K X a b S T) 74 (0, 0)) := heap_alloc_at _ _
  have HO := owner_other (w := w.alloc (.cells (opv K X a b S T) 74)) (W0 := W0) K X a b S T (by omega)
  unfold opv at *
  go_enter Tryz.func38, Tryz.ntmps38
  go_wp2_with fail
  refine HO.mono ?_
  rintro e w2 ⟨rfl, hf2⟩
  have hF2 := hF.trans hf2 (fun _ _ h => h)
  have hI2 := h.frz hF2 (Nat.le_refl _)
  have hB2 := frz_below hF2 hsz
  have hG2 := hG.fr hF2 id
  have hO2 := hf2.keep hOh id
  rw [← HOO.out] at hO2
  have o0 : w2.cell? ⟨O, 0, none⟩ = some (.int .i64 K) := by rw [cell_of_row w2 O 0 _ _ _ hO2]; rfl
  have o1 : w2.cell? ⟨O, 1, none⟩ = some (.int .i64 X) := by rw [cell_of_row w2 O 1 _ _ _ hO2]; rfl
  have o2 : w2.cell? ⟨O, 2, none⟩ = some (.int .i64 a) := by rw [cell_of_row w2 O 2 _ _ _ hO2]; rfl
  have o3 : w2.cell? ⟨O, 3, none⟩ = some (.int .i64 b) := by rw [cell_of_row w2 O 3 _ _ _ hO2]; rfl
  have HI2 : Hid (Inv G w2 b0 W0 s qs) := hI2
  obtain ⟨kv, rv, sv, dv, fv, k, r, st, kxs, rxs, sts, fxs, hI, hsn, hk, hr, hst, hm, hDs, hPw⟩ := hI2
  obtain ⟨g, cap, hdv, hdc⟩ := disk_at hI.hd hq
  subst hdv
  have hOg : Hid (∀ gb c t, fv.ownBlock = some gb → w2.heap[O]? = some (.cells c t (0, 0)) → gb = O → t = 4) := by
    intro gb c t hv hb e
    subst e
    rcases hI.hf.2 with ⟨rfl, _⟩ | ⟨g', cap', cur, rfl, _, hg', _⟩
    · simp [Value.ownBlock] at hv
    · simp only [Value.ownBlock, Option.some.injEq] at hv
      subst hv
      rw [hb] at hg'
      simp at hg'
      exact hg'.2
  have HO2 : Hid (w2.heap[O]? = some (.cells #[.int .i64 K, .int .i64 X, .int .i64 a, .int .i64 b, .string S, .string T] 74 (0, 0))) := hO2
  have c3 := hI.c3
  have HDC : Hid (∀ (i : Nat) (D : Nat), (qs.map DR.D)[i]? = some D → w2.cell? ⟨g, i, none⟩ = some (.pointer (some ⟨D, 0, none⟩))) := hdc
  have HI : Hid (WI w2 b0 W0 kv rv sv (.slice (some ⟨g, 0, none⟩) qs.length cap) fv k r st qs.length kxs rxs (scells sts) (qs.map DR.D) fxs) := hI
  have HDs : Hid (∀ q ∈ qs, DI G w2 b0 s q) := hDs
  have HPw : Hid (PwX kv rv rxs fxs qs (qs.map DR.fl)) := hPw
  have hq' : ((qs.length : Int) == 0) = false := by simp; intro e; simp [e] at hq
  clear hdc hI hDs hPw hF hOh HO hf2 hF2 hO2 h
  rw [← HOO.out]
  go_wp2_with fail
  have hlift : Tryz.prog.follows .mixedOrders = true := by kernel_rfl
  let S' : World → Prop := fun w' => w'.cell? ⟨O, 1, none⟩ = some (.int .i64 X) ∧ w'.cell? ⟨W0, 3, none⟩ = some (.slice (some ⟨g, 0, none⟩) qs.length cap)
  have hS : S' w2.drew := ⟨o1, c3⟩
  refine wp_region_held (S := S') hlift ?_
  change wpAnyH _ _ _ _ S' _ _ _ (World.drew _)
  refine tkE (S := S') (i := 0) (oi := ⟨some 30, .fieldAddr 74 (.tmp 3) 1, _, _, _, none⟩) (v := .pointer (some ⟨O, 1, none⟩)) rfl hS ?_
  simp only [Act.put, lsE, lsZ, lsS]
  refine tkY (S := S') (i := 1) (oi := ⟨some 31, .load 3 (.tmp 30), _, _, _, none⟩) (v := .int .i64 X) rfl (Or.inl ⟨rfl, fun w' hs => exec_load 3 (.tmp 30) rfl ⟨O, 1, none⟩ rfl (run_loadAt_one hs.1 Tryz.underlying3 rfl)⟩) hS ?_
  simp only [Act.put, lsE, lsZ, lsS]
  refine tkE (S := S') (i := 2) (oi := ⟨some 32, .move (.tmp 0), _, _, _, none⟩) (v := .pointer (some ⟨W0, 0, none⟩)) rfl hS ?_
  simp only [Act.put, lsE, lsZ, lsS]
  refine tkE (S := S') (i := 3) (oi := ⟨some 33, .nilCheck (.tmp 32), _, _, _, none⟩) (v := .pointer (some ⟨W0, 0, none⟩)) rfl hS ?_
  simp only [Act.put, lsE, lsZ, lsS]
  refine tkE (S := S') (i := 4) (oi := ⟨some 34, .fieldAddr 80 (.tmp 33) 3, _, _, _, none⟩) (v := .pointer (some ⟨W0, 3, none⟩)) rfl hS ?_
  simp only [Act.put, lsE, lsZ, lsS]
  refine tkY (S := S') (i := 5) (oi := ⟨some 35, .load 77 (.tmp 34), _, _, _, none⟩) (v := .slice (some ⟨g, 0, none⟩) qs.length cap) rfl (Or.inl ⟨rfl, fun w' hs => exec_load 77 (.tmp 34) rfl ⟨W0, 3, none⟩ rfl (run_loadAt_one hs.2 Tryz.underlying77 rfl)⟩) hS ?_
  simp only [Act.put, lsE, lsZ, lsS]
  refine tkE (S := S') (i := 6) (oi := ⟨some 36, .call { callee := .builtin .len, args := #[.tmp 35], argTypes := _ }, _, _, _, none⟩) (v := .int .i64 qs.length) rfl hS ?_
  simp only [Act.put, lsE, lsZ, lsS]
  refine wpAnyH_all (rs := [7]) (by kernel_rfl) (by simp) ?_
  intro i7 hi7
  obtain rfl : i7 = 7 := by simpa using hi7
  refine wpOp_call (o := ⟨some 37, .call { callee := .value (.func 50), args := #[.tmp 31, .tmp 36], argTypes := _ }, _, _, _, none⟩) (f := 50) (args := #[.int .i64 X, .int .i64 qs.length]) rfl rfl (by kernel_rfl) ?_
  refine (pick_ok X qs.length w2.drew hX1 hX2 (by omega) (by omega)).mono ?_
  rintro e w3 ⟨⟨r0, rfl, hr0, hr1⟩, hw3⟩
  obtain ⟨i, rfl⟩ : ∃ i : Nat, r0 = i := ⟨r0.toNat, by omega⟩
  have hS3 : S' w3 := by rw [hw3]; exact hS
  refine ⟨_, rfl, hS3, ?_⟩
  simp only [Act.put, lsE, lsZ, lsS]
  refine tkE (S := S') (i := 8) (oi := ⟨some 6, .assign (.tmp 37), _, _, _, none⟩) (v := .int .i64 i) rfl hS3 ?_
  simp only [Act.put, lsE, lsZ, lsS]
  refine wpAnyH_done (by kernel_rfl) ?_ _
  have hil : i < qs.length := by omega
  have hF3 : Fr (fun _ => False) w2 w3 := by rw [hw3]; exact (Fr.refl _ _).drew
  clear hS hS3 hw3
  have c33 := hF3.cell c3 id
  have o03 := hF3.cell o0 id
  have o23 := hF3.cell o2 id
  have o33 := hF3.cell o3 id
  have hD3 := hF3.cell (HDC.out i _ (by rw [List.getElem?_map, List.getElem?_eq_getElem hil]; rfl)) id
  have hI3 := HI2.out.frz hF3 (Nat.le_refl _)
  have hB3 := hB2.trans (frz_below hF3 HI2.out.size)
  have hG3 := hG2.fr hF3 id
  have hWI3 := HI.out.frz hF3
  have hDI3 : DI G w3 b0 s qs[i] := (HDs.out _ (List.getElem_mem hil)).fr hF3 (fun _ _ _ _ _ => id)
  have HO3 : Hid (w3.heap[O]? = some (.cells #[.int .i64 K, .int .i64 X, .int .i64 a, .int .i64 b, .string S, .string T] 74 (0, 0))) := hF3.keep HO2.out id
  have HDs3 : Hid (∀ q ∈ qs, DI G w3 b0 s q) := fun q hq => (HDs.out q hq).fr hF3 (fun _ _ _ _ _ => id)
  clear c3 o0 o1 o2 o3 hF3 hB2 hG2 HDC HDs
  have hil' : (i : Int) < qs.length := by omega
  obtain ⟨q, HQ⟩ : ∃ q : DR, Hid (q = qs[i]) := ⟨qs[i], Eq.refl _⟩
  have hqi : Hid (qs[i]? = some q) := by show _ = _; rw [HQ.out]; exact List.getElem?_eq_getElem hil
  rw [← HQ.out] at hD3 hDI3
  have HI3 : Hid (Inv G w3 b0 W0 s qs) := hI3
  have HWI3 : Hid (WI w3 b0 W0 kv rv sv (.slice (some ⟨g, 0, none⟩) qs.length cap) fv k r st qs.length kxs rxs (scells sts) (qs.map DR.D) fxs) := hWI3
  have HDI3 : Hid (DI G w3 b0 s q) := hDI3
  have HG3 : Hid (GOk w3) := hG3
  clear hI3 hWI3 hDI3 hG3
  go_wp2_with fail
  refine (near_ok a _ ha1 ha2).mono ?_
  rintro e w' ⟨⟨r2, rfl⟩, rfl⟩
  go_wp2_with fail
  refine (near_ok b _ hb1 hb2).mono ?_
  rintro e w' ⟨⟨r3, rfl⟩, rfl⟩
  by_cases hK10 : K = 10
  · subst hK10
    go_wp2_with fail
    refine (formatted_any gd.toGood0 HDI3.out hs HG3.out hg).mono ?_
    rintro e w4 ⟨rfl, q', hfl4, hq'', hF4, hL4, hd4, hf4⟩
    obtain ⟨u1, u2⟩ := HI3.out.upd i q q' hqi.out hq'' hfl4 hF4 hL4 (hd4.mono (by omega)) hf4
    have HE : Hid (OwnPost G w b0 W0 s (.returned (.bool true)) w4) := ⟨_, rfl, u1, hB3.trans u2⟩
    clear u1 u2 hd4 hf4 hq'' hF4 hL4 hfl4
    go_wp2
    go_ret
    exact HE.out
  by_cases hK11 : K = 11
  · subst hK11
    obtain ⟨gf, capf, hfv, hgfb, _⟩ := HWI3.out.hf.form hq
    subst hfv
    have c43 := HWI3.out.c4
    obtain ⟨j1, j2, j3, j4, j5, j6⟩ := fail_set false HWI3.out hsn hk hr hst hm HDs3.out HPw.out i
    obtain ⟨v4, hv4⟩ := j4 hil
    have hOgf : O ≠ gf := by
      intro e
      have := j6 _ _ (by rw [← e]; exact HO3.out)
      simp at this
    have HJ1 : Hid (InvF G (w'.setCell ⟨gf, i, none⟩ (.bool false)) b0 W0 s qs ((qs.map DR.fl).set i false)) := j1
    have HJ2 : Hid (Below b0 w' (w'.setCell ⟨gf, i, none⟩ (.bool false))) := j2
    have HJ3 : Hid (DI G (w'.setCell ⟨gf, i, none⟩ (.bool false)) b0 s q) := j3 q HDI3.out
    have HG4 : Hid (GOk (w'.setCell ⟨gf, i, none⟩ (.bool false))) := HG3.out.below j2 hg
    clear j1 j2 j3 j4 j6
    have hend : ∀ w4, OPost G (w'.setCell ⟨gf, i, none⟩ (.bool false)) b0 s q a (.returned (.bool true)) w4 → Hid (OwnPost G w b0 W0 s (.returned (.bool true)) w4) := by
      rintro w4 ⟨_, q', hfl4, _, hq'', hF4, hL4, hd4, hf4⟩
      obtain ⟨u1, u2⟩ := HJ1.out.upd i q q' hqi.out hq'' hF4 hL4 (hd4.mono (by omega)) hf4
      refine ⟨qs.set i q', rfl, ?_, (hB3.trans HJ2.out).trans u2⟩
      have e : (qs.set i q').map DR.fl = (qs.map DR.fl).set i false := by rw [List.map_set, hfl4]
      unfold Inv
      rw [e]
      exact u1
    obtain ⟨calls, writes, bs, hw, _⟩ := HDI3.out.d
    have d3 := HDI3.out.l.c3
    have d0 := HDI3.out.l.c0
    have HWh : Hid (DiskAt w' q.A q.B q.n (.slice none 0 0) calls writes) := hw
    have HE := hend
    clear hw hend
    cases hnn : q.nn with
    | true =>
      rw [hnn] at d3
      clear hnn
      go_wp2_with fail
      refine (Pending_ok HWh.out).mono ?_
      rintro e w5 ⟨rfl, rfl⟩
      go_wp2_with fail
      refine (opened_any gd.toGood0 HJ3.out hs HG4.out hg HJ1.out.size a).mono ?_
      rintro e w4 ⟨rfl, hp4⟩
      have HF := HE w4 ⟨rfl, hp4⟩
      clear HE hp4
      go_wp2
      go_ret
      exact HF.out
    | false =>
      rw [hnn] at d3
      clear hnn
      go_wp2_with fail
      refine (opened_any gd.toGood0 HJ3.out hs HG4.out hg HJ1.out.size a).mono ?_
      rintro e w4 ⟨rfl, hp4⟩
      have HF := HE w4 ⟨rfl, hp4⟩
      clear HE hp4
      go_wp2
      go_ret
      exact HF.out
  by_cases hK12 : K = 12
  · subst hK12
    go_wp2_with fail
    refine (failing_ok gd HI3.out hs HG3.out hg i q hqi.out a).mono ?_
    rintro e w4 ⟨qs', rfl, u1, u2⟩
    have HE : Hid (OwnPost G w b0 W0 s (.returned (.bool true)) w4) := ⟨_, rfl, u1, hB3.trans u2⟩
    clear u1 u2
    go_wp2
    go_ret
    exact HE.out
  have hKe : K = 13 ∨ K = 14 ∨ K = 15 ∨ K = 16 := by have := HK.out; omega
  have k7 : (K == 7) = false := by simp; omega
  have k8 : (K == 8) = false := by simp; omega
  have k9 : (K == 9) = false := by simp; omega
  have k10 : (K == 10) = false := by simp; omega
  have k11 : (K == 11) = false := by simp; omega
  have k12 : (K == 12) = false := by simp; omega
  obtain ⟨gf, capf, hfv, hgfb, _⟩ := HWI3.out.hf.form hq
  subst hfv
  have c43 := HWI3.out.c4
  have hvf : fxs[i]? = some (.bool q.fl) := by rw [HPw.out.fx, List.getElem?_map, List.getElem?_map, hqi.out]; rfl
  have hcf := HWI3.out.hf.cells (g := gf) rfl i (.bool q.fl) hvf
  rw [Addr.add_mid, Nat.zero_add] at hcf
  have d5 := HDI3.out.l.c5
  have oo : ∀ j v, [Value.int .i64 K, .int .i64 X, .int .i64 a, .int .i64 b, .string S, .string T][j]? = some v → w'.cell? ⟨O, j, none⟩ = some v := fun j v hv => by rw [cell_of_row w' O j _ _ _ HO3.out]; simpa using hv
  have p0 := oo 0 _ rfl
  have p1 := oo 1 _ rfl
  have p2 := oo 2 _ rfl
  have p3 := oo 3 _ rfl
  have p4 := oo 4 _ rfl
  have p5 := oo 5 _ rfl
  clear oo
  have hnil : q.x = none ∨ ∃ A, q.x = some A := by cases q.x with | none => exact .inl rfl | some A => exact .inr ⟨A, rfl⟩
  rcases hnil with hx | ⟨Xa, hx⟩
  · rw [hx] at d5
    have HE : Hid (OwnPost G w b0 W0 s (.returned (.bool true)) w') := ⟨qs, rfl, HI3.out.frz (Fr.refl _ _) (by omega), hB3⟩
    go_wp2
    go_ret
    exact HE.out
  · rw [hx] at d5
    have hdr : Fr (fun _ => False) w' w'.drew := (Fr.refl _ _).drew
    have hWd := HWI3.out.frz hdr
    have hone := onEng_ok gd (HDI3.out.fr hdr (fun _ _ _ _ _ h => h)) hs (HG3.out.fr hdr (fun h => h)) hg (Nat.le_trans HI3.out.size hdr.size) hx hWd.c2 (hsn ▸ hWd.hs) (by omega) K X a b S T hKe
    have HDR : Hid (Fr (fun _ => False) w' w'.drew) := hdr
    clear hdr hWd
    unfold opv at hone
    have hend : ∀ e w4, DPost G w' b0 s q q.fl e w4 → Hid (OwnPost G w b0 W0 s (.returned (.bool true)) w4) := by
      rintro e w4 ⟨_, q', hfl4, hq'', hF4, hL4, hd4, hf4⟩
      obtain ⟨u1, u2⟩ := HI3.out.upd i q q' hqi.out hq'' hfl4 hF4 hL4 (hd4.mono (by omega)) hf4
      exact ⟨_, rfl, u1, hB3.trans u2⟩
    have HEND := hend
    clear hend
    go_wp2_with fail
    refine wp_region_still_tail 10 (by kernel_rfl) (by kernel_rfl) (Bx.out ?_)
    simp only [List.take_succ_cons, List.take_zero, List.drop_succ_cons, List.drop_zero]
    repeat (refine bx_step (fun K hK => ?_); go_simp; refine hK _ ?_; clear hK K)
    refine bx_nil ?_
    go_wp2_with fail
    refine hone.mono ?_
    rintro e w4 hp
    have HE := HEND e w4 (hp.pre HDR.out)
    obtain ⟨rfl, _⟩ := hp
    clear HEND hone
    go_wp2
    go_ret
    exact HE.out
end Go.Proofs.YteebjgfalllbjaaGreatDoor
namespace Go.Proofs.YteebjgfalllbjaaGreatDoor
open Go.RowKit
variable {G : Prg}

/-- A step of a script. -/
structure OR where
  K : Int
  X : Int
  a : Int
  b : Int
  S : ByteArray
  T : ByteArray
def OR.cs (o : OR) : List Value := [.int .i64 o.K, .int .i64 o.X, .int .i64 o.a, .int .i64 o.b, .string o.S, .string o.T]
def i64ok (z : Int) : Prop := -9223372036854775808 ≤ z ∧ z ≤ 9223372036854775807
def OR.ok (o : OR) : Prop := i64ok o.K ∧ i64ok o.X ∧ i64ok o.a ∧ i64ok o.b
def ocells (l : List OR) : List Value := l.flatMap OR.cs
theorem OR.len (o : OR) : o.cs.length = 6 := rfl
theorem OR.one (o : OR) : ∀ v ∈ o.cs, v.oneCell' = true := by
  intro v hv
  simp only [OR.cs, List.mem_cons, List.not_mem_nil, or_false] at hv
  rcases hv with rfl | rfl | rfl | rfl | rfl | rfl <;> rfl
theorem ocells_at : ∀ (l : List OR) (i : Nat) (o : OR), l[i]? = some o → ((ocells l).drop (i * 6)).take 6 = o.cs
  | [], i, o, h => by simp at h
  | p :: r, 0, o, h => by
    simp at h; subst h
    have e : ocells (p :: r) = p.cs ++ ocells r := by simp [ocells]
    rw [e, Nat.zero_mul, List.drop_zero, List.take_append_of_le_length (by rw [p.len]; exact Nat.le_refl _), List.take_of_length_le (by rw [p.len]; exact Nat.le_refl _)]
  | p :: r, i + 1, o, h => by
    have e : ocells (p :: r) = p.cs ++ ocells r := by simp [ocells]
    rw [e, List.drop_append, List.drop_of_length_le (by rw [p.len]; omega)]
    have e2 : (i + 1) * 6 - p.cs.length = i * 6 := by rw [p.len]; omega
    rw [e2]
    simpa using ocells_at r i o (by simpa using h)
theorem ocells_append (l r : List OR) : ocells (l ++ r) = ocells l ++ ocells r := by simp [ocells]
theorem range_ops {w : World} {bb g cap : Nat} {l : List OR} (h : w.ownsRow bb 74 6 (.slice (some ⟨g, 0, none⟩) l.length cap) l.length (ocells l)) {i : Nat} {o : OR} (hi : l[i]? = some o) : w.rangeAt g (i * 6) o.cs := by
  intro j v hv
  have hc := h.cells (g := g) rfl (i * 6 + j) v
  rw [← ocells_at l i o hi, List.getElem?_take] at hv
  split at hv
  · rw [List.getElem?_drop] at hv
    have := hc hv
    rwa [Addr.add_mid, Nat.zero_add] at this
  · cases hv

/-- The kinds that are played where no device fails. -/
def Quiet (K : Int) : Prop := K < 7 ∨ 10 ≤ K ∧ K ≤ 16
theorem step_any (gd : Good G) {w : World} {b0 W0 s : Nat} {qs : List DR} (h : Inv G w b0 W0 s qs) (hs : s < 60000) (hG : GOk w) (hg : 0 < b0) (o : OR) (ho : o.ok) (hk : Quiet o.K) :
    Calls Tryz.prog 38 #[.pointer (some ⟨W0, 0, none⟩), .agg o.cs.toArray] w fun e w' => OwnPost G w b0 W0 s e w' := by
  obtain ⟨K, X, a, b, S, T⟩ := o
  obtain ⟨_, ⟨hX1, hX2⟩, ⟨ha1, ha2⟩, ⟨hb1, hb2⟩⟩ := ho
  simp only at hk hX1 hX2 ha1 ha2 hb1 hb2
  show Calls Tryz.prog 38 #[.pointer (some ⟨W0, 0, none⟩), .agg (opv K X a b S T)] w _
  by_cases h1 : 1 ≤ K ∧ K ≤ 6
  · exact step_own h hs K X a b S T ha1 ha2 h1.1 h1.2
  unfold Quiet at hk
  by_cases hq : 0 < qs.length
  · rcases (show K < 7 ∨ 10 ≤ K ∧ K ≤ 16 by omega) with hk | hk
    · exact step_low h K X a b S T (.inl (by omega))
    · exact step_disk gd h hs hG hg K X a b S T (by omega) hX1 hX2 ha1 ha2 hb1 hb2 hq
  · have hn : qs = [] := List.eq_nil_of_length_eq_zero (by omega)
    by_cases hl : K < 1
    · exact step_low h K X a b S T (.inl hl)
    · exact step_low h K X a b S T (.inr ⟨by omega, hn⟩)

theorem op_size : (Tryz.prog.info? 74).map (·.size) = some 6 := by kernel_rfl
theorem inv_start (w : World) : Inv G (w.alloc (.cells #[.slice none 0 0, .slice none 0 0, .slice none 0 0, .slice none 0 0, .slice none 0 0] 80)) w.heap.size w.heap.size 0 [] := by
  exact ⟨_, _, _, _, _, 0, 0, 0, [], [], [], [], ⟨heap_alloc_at _ _, World.ownsRow_nil _ _ _ _, World.ownsRow_nil _ _ _ _, World.ownsRow_nil _ _ _ _, World.ownsRow_nil _ _ _ _, World.ownsRow_nil _ _ _ _, (fun b hb => by simp [Value.ownBlock] at hb), (fun v hv => absurd hv (by simp)), (fun v hv => absurd hv (by simp [scells])), Nat.le_refl _⟩, rfl, Nat.le_refl _, Nat.le_refl _, Nat.le_refl _, Nat.le_refl _, (fun q hq => absurd hq (by simp)), ⟨List.Pairwise.nil, rfl, ⟨[], rfl, by simp [RlOk]⟩, (fun q hq => absurd hq (by simp))⟩⟩

set_option maxRecDepth 100000 in
set_option maxHeartbeats 2000000 in
theorem upTo_ok (gd : Good G) {w : World} {bb : Nat} {v : Value} {l : List OR} (hv : w.ownsRow bb 74 6 v l.length (ocells l)) (hall : ∀ o ∈ l, o.ok ∧ Quiet o.K) (hlen : l.length ≤ 16384) (hG : GOk w) (hg : 0 < w.heap.size) :
    Calls Tryz.prog 16 #[v] w fun e w' => e = .returned (.int .i64 (-1)) ∧ Below w.heap.size w w' := by
  obtain ⟨ao, cap, rfl⟩ := own_form hv
  have hI0 : Hid (∃ qs, Inv G (w.alloc (.cells #[.slice none 0 0, .slice none 0 0, .slice none 0 0, .slice none 0 0, .slice none 0 0] 80)) w.heap.size w.heap.size 0 qs ∧ Below w.heap.size w (w.alloc (.cells #[.slice none 0 0, .slice none 0 0, .slice none 0 0, .slice none 0 0, .slice none 0 0] 80))) :=
    ⟨[], inv_start w, (Below.refl _ _).alloc (Nat.le_refl _) _⟩
  have HV : Hid (w.ownsRow bb 74 6 (.slice ao l.length cap) l.length (ocells l)) := hv
  have HA : Hid (∀ o ∈ l, o.ok ∧ Quiet o.K) := hall
  have HG : Hid (GOk w) := hG
  clear hv hall hG
  obtain ⟨W0, HW0⟩ : ∃ W0, Hid (W0 = w.heap.size) := ⟨_, rfl⟩
  go_enter Tryz.func16, Tryz.ntmps16
  go_wp2
  go_loopw [4] (fun c wr => ∃ i : Nat, i ≤ l.length ∧ c = .int .i64 i ∧ Hid (∃ qs, Inv G wr w.heap.size w.heap.size (2 * i) qs ∧ Below w.heap.size w wr)) (fun c _ => l.length - (intOf c).toNat)
  case atStart => exact ⟨0, Nat.zero_le _, rfl, hI0⟩
  case round =>
    obtain ⟨i, hi, rfl, HR⟩ := hrel
    by_cases hlt : i < l.length
    · have hlt' : (i : Int) < l.length := by omega
      obtain ⟨o, ho⟩ : ∃ o, l[i]? = some o := ⟨_, List.getElem?_eq_getElem hlt⟩
      obtain ⟨g, cap', hv2, _, hgl⟩ := HV.out.form (by omega)
      simp only [Value.slice.injEq, true_and] at hv2
      obtain ⟨rfl, rfl⟩ := hv2
      obtain ⟨qs, hI, hB⟩ := HR.out
      have hr : wr.rangeAt g (i * 6) o.cs := fun j u hu => by
        rw [hB.cell (p := ⟨g, i * 6 + j, none⟩) hgl]; exact range_ops HV.out ho j u hu
      obtain ⟨hok, hkk⟩ := HA.out o (List.mem_of_getElem? ho)
      have HS := step_any gd hI (by omega) (HG.out.below hB hg) hg o hok hkk
      clear hI hok hkk
      go_wp2_with (first | (refine wpList_load_mid rfl 74 (.tmp 17) rfl g (i * 6) ?_ o.cs _ hr Tryz.underlying74 rfl ?_ ?_; rfl; (rw [op_size, o.len])))
      refine HS.mono ?_
      rintro e w2 ⟨qs', rfl, hI2, hB2⟩
      have HN : Hid (∃ qs, Inv G w2 w.heap.size w.heap.size (2 * (i + 1)) qs ∧ Below w.heap.size w w2) := ⟨qs', hI2, hB.trans hB2⟩
      clear HR hB hr HS hI2 hB2
      go_wp2
      go_roundw
      case rel => exact ⟨i + 1, by omega, by go_num, HN⟩
      case measure => simp [intOf]; omega
    · have hlt' : ¬ (i : Int) < l.length := by omega
      go_wp2
      go_ret
      obtain ⟨qs, _, hB⟩ := HR.out
      exact ⟨rfl, hB⟩
end Go.Proofs.YteebjgfalllbjaaGreatDoor
namespace Go.Proofs.YteebjgfalllbjaaGreatDoor
open Go.RowKit

/-- The steps of a script, as they lie behind a slice that came in. -/
def Lies (w : World) (ao : Option Addr) (l : List OR) : Prop := ∀ i o, l[i]? = some o → ∃ g off, ao = some ⟨g, off, none⟩ ∧ w.rangeAt g (off + i * 6) o.cs

def SmP (w : World) (n : Nat) (e : Ending) (w' : World) : Prop := ∃ r, e = .returned (.bool r) ∧ (r = true → n ≤ 16384) ∧ Fr (fun _ => False) w w'
set_option maxRecDepth 100000 in
set_option maxHeartbeats 2000000 in
theorem small_ok {w : World} {ao : Option Addr} {cap : Nat} {l : List OR} (hl : Lies w ao l) :
    Calls Tryz.prog 15 #[.slice ao l.length cap] w fun e w' => SmP w l.length e w' := by
  by_cases hbig : 16384 < l.length
  · have hbig' : (16384 : Int) < l.length := by omega
    go_enter Tryz.func15, Tryz.ntmps15
    go_wp2
    go_ret
    exact ⟨false, rfl, (fun h => by cases h), Fr.refl _ _⟩
  have hbig' : ¬ (16384 : Int) < l.length := by omega
  have HL : Hid (Lies w ao l) := hl
  clear hl
  go_enter Tryz.func15, Tryz.ntmps15
  go_wp2
  go_loopw [3, 4] (fun m c wr => ∃ (i : Nat) (n : Int), i ≤ l.length ∧ m = .int .i64 n ∧ c = .int .i64 i ∧ Hid (Fr (fun _ => False) w wr)) (fun _ c _ => l.length - (intOf c).toNat)
  case atStart => exact ⟨0, l.length, Nat.zero_le _, rfl, rfl, Fr.refl _ _⟩
  case round =>
    obtain ⟨i, n, hi, rfl, rfl, HR⟩ := hrel
    by_cases hlt : i < l.length
    · have hlt' : (i : Int) < l.length := by omega
      obtain ⟨o, ho⟩ : ∃ o, l[i]? = some o := ⟨_, List.getElem?_eq_getElem hlt⟩
      obtain ⟨g, off, rfl, hr⟩ := HL.out i o ho
      have c4 : wr.cell? ⟨g, off + i * 6 + 4, none⟩ = some (.string o.S) := HR.out.cell (hr 4 _ rfl) id
      have c5 : wr.cell? ⟨g, off + i * 6 + 5, none⟩ = some (.string o.T) := HR.out.cell (hr 5 _ rfl) id
      clear hr
      obtain ⟨n2, ew⟩ : ∃ n2, IntKind.i64.wrap (IntKind.i64.wrap (n + (o.S.size : Int)) + (o.T.size : Int)) = n2 := ⟨_, rfl⟩
      go_wp2
      go_still (by kernel_rfl)

      clear ew
      by_cases hgt : 16384 < n2
      · go_wp2
        go_ret
        exact ⟨false, rfl, (fun h => by cases h), HR.out.drew⟩
      · go_wp2
        go_roundw
        case rel => exact ⟨i + 1, n2, by omega, rfl, by go_num, HR.out.drew⟩
        case measure => simp [intOf]; omega
    · have hlt' : ¬ (i : Int) < l.length := by omega
      go_wp2
      go_ret
      exact ⟨true, rfl, (fun _ => by omega), HR.out⟩
end Go.Proofs.YteebjgfalllbjaaGreatDoor
