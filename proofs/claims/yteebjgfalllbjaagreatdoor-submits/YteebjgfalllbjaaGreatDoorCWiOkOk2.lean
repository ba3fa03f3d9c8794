import Derived.Test.YteebjgfalllbjaaGreatDoorCLqLrOwn
namespace Go.Proofs.YteebjgfalllbjaaGreatDoor
open Go.RowKit

theorem own_fr {S : Nat → Prop} {w w' : World} {base e size n : Nat} {v : Value} {xs : List Value} (h : w.ownsRow base e size v n xs) (hf : Fr S w w') (hS : ∀ b c, w.heap[b]? = some (.cells c e (0, 0)) → v.ownBlock = some b → ¬ S b) : w'.ownsRow base e size v n xs := by
  refine ⟨h.1, ?_⟩
  rcases h.2 with hn | ⟨g, cap, cur, rfl, hb, hg, rest⟩
  · exact .inl hn
  · exact .inr ⟨g, cap, cur, rfl, hb, hf.keep hg (hS g cur hg rfl), rest⟩

/-- The script's world: its five lists. -/
structure WI (w : World) (b0 W0 : Nat) (kv rv sv dv fv : Value) (k r st m : Nat) (kxs rxs sxs : List Value) (ds : List Nat) (fxs : List Value) : Prop where
  hw : w.heap[W0]? = some (.cells #[kv, rv, sv, dv, fv] 80 (0, 0))
  hk : w.ownsRow b0 3 1 kv k kxs
  hr : w.ownsRow b0 3 1 rv r rxs
  hs : w.ownsRow b0 165 2 sv st sxs
  hd : w.ownsRow b0 105 1 dv m (ds.map fun D => Value.pointer (some ⟨D, 0, none⟩))
  hf : w.ownsRow b0 4 1 fv m fxs
  ne : ∀ b, kv.ownBlock = some b → rv.ownBlock ≠ some b
  ro : ∀ v ∈ rxs, v.oneCell' = true
  so : ∀ v ∈ sxs, v.oneCell' = true
  w0 : b0 ≤ W0
section
variable {w w' : World} {b0 W0 : Nat} {kv rv sv dv fv : Value} {k r st m : Nat} {kxs rxs sxs : List Value} {ds : List Nat} {fxs : List Value}
theorem WI.c0 (h : WI w b0 W0 kv rv sv dv fv k r st m kxs rxs sxs ds fxs) : w.cell? ⟨W0, 0, none⟩ = some kv := by rw [cell_of_row w W0 0 _ _ _ h.hw]; rfl
theorem WI.c1 (h : WI w b0 W0 kv rv sv dv fv k r st m kxs rxs sxs ds fxs) : w.cell? ⟨W0, 1, none⟩ = some rv := by rw [cell_of_row w W0 1 _ _ _ h.hw]; rfl
theorem WI.c2 (h : WI w b0 W0 kv rv sv dv fv k r st m kxs rxs sxs ds fxs) : w.cell? ⟨W0, 2, none⟩ = some sv := by rw [cell_of_row w W0 2 _ _ _ h.hw]; rfl
theorem WI.c3 (h : WI w b0 W0 kv rv sv dv fv k r st m kxs rxs sxs ds fxs) : w.cell? ⟨W0, 3, none⟩ = some dv := by rw [cell_of_row w W0 3 _ _ _ h.hw]; rfl
theorem WI.c4 (h : WI w b0 W0 kv rv sv dv fv k r st m kxs rxs sxs ds fxs) : w.cell? ⟨W0, 4, none⟩ = some fv := by rw [cell_of_row w W0 4 _ _ _ h.hw]; rfl
theorem WI.fz (h : WI w b0 W0 kv rv sv dv fv k r st m kxs rxs sxs ds fxs) (j : Nat) : w.frozen? ⟨W0, j, none⟩ = false := frozen_of_row w W0 j _ _ h.hw
/-- The world stands as it was where none of its blocks is among those that turned. -/
theorem WI.fr {S : Nat → Prop} (h : WI w b0 W0 kv rv sv dv fv k r st m kxs rxs sxs ds fxs) (hf : Fr S w w')
    (hS : ∀ b c t, w.heap[b]? = some (.cells c t (0, 0)) → t = 80 ∨ t = 3 ∨ t = 165 ∨ t = 105 ∨ t = 4 → ¬ S b) : WI w' b0 W0 kv rv sv dv fv k r st m kxs rxs sxs ds fxs :=
  ⟨hf.keep h.hw (hS _ _ _ h.hw (by simp)), own_fr h.hk hf (fun b c hb _ => hS _ _ _ hb (by simp)), own_fr h.hr hf (fun b c hb _ => hS _ _ _ hb (by simp)), own_fr h.hs hf (fun b c hb _ => hS _ _ _ hb (by simp)), own_fr h.hd hf (fun b c hb _ => hS _ _ _ hb (by simp)), own_fr h.hf hf (fun b c hb _ => hS _ _ _ hb (by simp)), h.ne, h.ro, h.so, h.w0⟩
theorem WI.frz (h : WI w b0 W0 kv rv sv dv fv k r st m kxs rxs sxs ds fxs) (hf : Fr (fun _ => False) w w') : WI w' b0 W0 kv rv sv dv fv k r st m kxs rxs sxs ds fxs := h.fr hf (fun _ _ _ _ _ => id)
end

/-- A disk of the script: where its parts lie, how many blocks it has, may there be no journal; its engine, what the document says of its sagas; which blocks are the engine's. -/
structure DR where
  D : Nat
  A : Nat
  B : Nat
  Pp : Nat
  n : Nat
  nn : Bool
  x : Option Addr
  pause : Int
  clock : Int
  Lv : Value
  L : List RS
  F : Nat → Prop
/-- A saga as it stands, wherever it lies. -/
structure AS where
  id : Int
  st : List SS
  S : SP
  tries : Int
  due : Int
def RS.a (r : RS) : AS := ⟨r.id, r.st, r.S, r.tries, r.due⟩
/-- A device, its partner, its engine, how the sagas stand; which blocks are the engine's. -/
structure DK where
  A : Nat
  B : Nat
  Pp : Nat
  n : Nat
  nn : Bool
  x : Option Addr
  pause : Int
  clock : Int
  L : List AS
  F : Nat → Prop
def DR.k (q : DR) : DK := ⟨q.A, q.B, q.Pp, q.n, q.nn, q.x, q.pause, q.clock, q.L.map RS.a, q.F⟩
/-- No block of the script, of its disks, of what was handed in. -/
def EngT (t : TypeId) : Prop := t ≠ 80 ∧ t ≠ 3 ∧ t ≠ 165 ∧ t ≠ 105 ∧ t ≠ 4 ∧ t ≠ 111 ∧ t ≠ 96 ∧ t ≠ 97 ∧ t ≠ 48 ∧ t ≠ 223 ∧ t ≠ 220 ∧ t ≠ 58 ∧ t ≠ 119 ∧ t ≠ 74
/-- The types of what else is known of a disk. -/
def Rest (q : DR) (t : TypeId) (b : Nat) : Prop := (t = 48 ∧ b = q.Pp) ∨ t = 223 ∨ t = 165 ∨ t = 220 ∨ (q.F b ∧ EngT t)
theorem Rest.ne {q : DR} {t : TypeId} {b : Nat} (h : Rest q t b) : t ≠ 80 ∧ t ≠ 3 ∧ t ≠ 105 ∧ t ≠ 4 ∧ t ≠ 111 ∧ t ≠ 96 ∧ t ≠ 97 ∧ t ≠ 74 := by
  rcases h with ⟨rfl, _⟩ | rfl | rfl | rfl | ⟨_, h⟩
  · decide
  · decide
  · decide
  · decide
  · exact ⟨h.1, h.2.1, h.2.2.2.1, h.2.2.2.2.1, h.2.2.2.2.2.1, h.2.2.2.2.2.2.1, h.2.2.2.2.2.2.2.1, h.2.2.2.2.2.2.2.2.2.2.2.2.2⟩
/-- What is known of a program: how its journal and its engine lie. -/
structure Prg where
  Dev : World → DK → List Value → Prop
  fr : ∀ {S : Nat → Prop} {w w' : World} {q : DK} {bs : List Value}, Dev w q bs → Fr S w w' → (∀ b, q.F b → ¬ S b) → Dev w' q bs
  new : ∀ (w : World) (A B Pp n : Nat), Dev w ⟨A, B, Pp, n, true, none, 0, 0, [], fun _ => False⟩ (List.replicate (n * 128) (.int .u8 0))
/-- A device at rest, behind s steps. -/
def DevI (G : Prg) (w : World) (s : Nat) (k : DK) : Prop := ∃ calls writes bs, DiskAt w k.A k.B k.n (.slice none 0 0) calls writes ∧ RowsAt w k.B k.n bs ∧ 0 ≤ calls ∧ calls ≤ 1000 * (s : Int) ∧ 0 ≤ writes ∧ writes ≤ 1000 * (s : Int) ∧ G.Dev w k bs
variable {G : Prg}
/-- .. and what is known of it behind s steps. -/
structure DI (G : Prg) (w : World) (b0 s : Nat) (q : DR) : Prop where
  l : LawAt w q.D q.A q.Pp q.n q.nn (.pointer q.x) q.pause q.clock q.Lv
  p : ∃ lo lm lcap pe pl pa, w.heap[q.Pp]? = some (.cells #[.slice lo lm lcap, pe, pl, pa] 48 (0, 0))
  d : DevI G w s q.k
  a : LAt w b0 q.Lv q.L
  ln : q.L.length ≤ s
  ls : ∀ r ∈ q.L, r.S.1 ≠ 0 ∧ sagaOk r.id r.st = true
  lo : q.L.Pairwise (fun a b => a.id < b.id)
  f : ∀ b, q.F b → b0 ≤ b ∧ ∃ c t, w.heap[b]? = some (.cells c t (0, 0)) ∧ EngT t
  b : b0 ≤ q.D ∧ b0 ≤ q.A ∧ b0 ≤ q.B ∧ b0 ≤ q.Pp
  n : q.n < 1000
theorem DI.mono {w : World} {b0 s s' : Nat} {q : DR} (h : DI G w b0 s q) (hs : s ≤ s') : DI G w b0 s' q := by
  obtain ⟨calls, writes, bs, h1, h2, h3, h4, h5, h6, h7⟩ := h.d
  exact ⟨h.l, h.p, ⟨calls, writes, bs, h1, h2, h3, by omega, h5, by omega, h7⟩, h.a, by have := h.ln; omega, h.ls, h.lo, h.f, h.b, h.n⟩
theorem DI.fr {S : Nat → Prop} {w w' : World} {b0 s : Nat} {q : DR} (h : DI G w b0 s q) (hf : Fr S w w') (hS : ∀ b c t, w.heap[b]? = some (.cells c t (0, 0)) → (t = 111 ∧ b = q.D) ∨ (t = 96 ∧ b = q.A) ∨ (t = 97 ∧ b = q.B) ∨ Rest q t b → ¬ S b) : DI G w' b0 s q := by
  obtain ⟨calls, writes, bs, h1, h2, h3, h4, h5, h6, h7⟩ := h.d
  obtain ⟨lo, lm, lcap, pe, pl, pa, hp⟩ := h.p
  have hF : ∀ b, q.F b → ¬ S b := fun b hb => by
    obtain ⟨_, c, t, hc, ht⟩ := h.f b hb
    exact hS b c t hc (.inr (.inr (.inr (.inr (.inr (.inr (.inr ⟨hb, ht⟩)))))))
  refine ⟨h.l.fr hf (hS _ _ _ h.l (.inl ⟨rfl, rfl⟩)), ⟨lo, lm, lcap, pe, pl, pa, hf.keep hp (hS _ _ _ hp (.inr (.inr (.inr (.inl ⟨rfl, rfl⟩)))))⟩, ⟨calls, writes, bs, h1.fr hf (hS _ _ _ h1 (.inr (.inl ⟨rfl, rfl⟩))), ⟨hf.keep h2.1 (hS _ _ _ h2.1 (.inr (.inr (.inl ⟨rfl, rfl⟩)))), h2.2⟩, h3, h4, h5, h6, G.fr h7 hf hF⟩, h.a.fr hf (fun b c t hb ht => hS b c t hb (.inr (.inr (.inr (.inr (by rcases ht with h | h | h; exact .inl h; exact .inr (.inl h); exact .inr (.inr (.inl h)))))))), h.ln, h.ls, h.lo, fun b hb => ?_, h.b, h.n⟩
  obtain ⟨h0, c, t, hc, ht⟩ := h.f b hb
  exact ⟨h0, c, t, hf.keep hc (hF b hb), ht⟩
def Apart (p q : DR) : Prop := p.D ≠ q.D ∧ p.A ≠ q.A ∧ p.B ≠ q.B ∧ p.Pp ≠ q.Pp ∧ ∀ b, p.F b → ¬ q.F b

/-- The script's world behind s steps. -/
def Inv (G : Prg) (w : World) (b0 W0 s : Nat) (qs : List DR) : Prop := ∃ kv rv sv dv fv k r st kxs rxs sts fxs,
  WI w b0 W0 kv rv sv dv fv k r st qs.length kxs rxs (scells sts) (qs.map DR.D) fxs ∧ sts.length = st ∧ k ≤ s ∧ r ≤ s ∧ st ≤ s ∧ qs.length ≤ s ∧ (∀ q ∈ qs, DI G w b0 s q) ∧ qs.Pairwise Apart
theorem Inv.frz {w w' : World} {b0 W0 s s' : Nat} {qs : List DR} (h : Inv G w b0 W0 s qs) (hf : Fr (fun _ => False) w w') (hs : s ≤ s') : Inv G w' b0 W0 s' qs := by
  obtain ⟨kv, rv, sv, dv, fv, k, r, st, kxs, rxs, sts, fxs, h1, h0, h2, h3, h4, h5, h6, h7⟩ := h
  exact ⟨kv, rv, sv, dv, fv, k, r, st, kxs, rxs, sts, fxs, h1.frz hf, h0, by omega, by omega, by omega, by omega, fun q hq => ((h6 q hq).fr hf (fun _ _ _ _ _ => id)).mono hs, h7⟩
theorem frz_below {w w' : World} {b0 : Nat} (hf : Fr (fun _ => False) w w') (hb : b0 ≤ w.heap.size) : Below b0 w w' := hf.below hb (fun _ h => h.elim)
theorem Inv.size {w : World} {b0 W0 s : Nat} {qs : List DR} (h : Inv G w b0 W0 s qs) : b0 ≤ w.heap.size := by
  obtain ⟨kv, rv, sv, dv, fv, k, r, st, kxs, rxs, sts, fxs, h1, _⟩ := h
  have := lt_of_heap h1.hw
  have := h1.w0
  omega
/-- A step of the script, as a value. -/
def opv (K X a b : Int) (s t : ByteArray) : Array Value := #[.int .i64 K, .int .i64 X, .int .i64 a, .int .i64 b, .string s, .string t]
def OwnPost (G : Prg) (w : World) (b0 W0 s : Nat) (e : Ending) (w' : World) : Prop := ∃ qs', e = .returned (.bool true) ∧ Inv G w' b0 W0 (s + 1) qs' ∧ Below b0 w w'

set_option maxRecDepth 100000 in
set_option maxHeartbeats 1000000 in
theorem owner_other {w : World} {W0 : Nat} (K X a b : Int) (S T : ByteArray) (hK : K < 1 ∨ 6 < K) :
    Calls Tryz.prog 49 #[.pointer (some ⟨W0, 0, none⟩), .agg (opv K X a b S T)] w fun e w' => e = .returned (.bool false) ∧ Fr (fun _ => False) w w' := by
  have e1 : (K == 1) = false := by simp; omega
  have e2 : (K == 2) = false := by simp; omega
  have e3 : (K == 3) = false := by simp; omega
  have e4 : (K == 4) = false := by simp; omega
  have e5 : (K == 5) = false := by simp; omega
  have e6 : (K == 6) = false := by simp; omega
  unfold opv
  go_enter Tryz.func49, Tryz.ntmps49
  go_wp2
  go_ret
  exact ⟨rfl, (Fr.refl _ _).alloc _⟩
end Go.Proofs.YteebjgfalllbjaaGreatDoor
namespace Go.Proofs.YteebjgfalllbjaaGreatDoor
open Go.RowKit
variable {G : Prg}

set_option maxRecDepth 100000 in
set_option maxHeartbeats 2000000 in
theorem owner_keep {w : World} {b0 W0 s : Nat} {qs : List DR} (h : Inv G w b0 W0 s qs) (hs : s < 100000) (X a b : Int) (S T : ByteArray) :
    Calls Tryz.prog 49 #[.pointer (some ⟨W0, 0, none⟩), .agg (opv 1 X a b S T)] w fun e w' => OwnPost G w b0 W0 s e w' := by
  have hsz := h.size
  obtain ⟨kv, rv, sv, dv, fv, k, r, st, kxs, rxs, sts, fxs, hI, hsn, hk, hr, hst, hm, hDs, hPw⟩ := h
  unfold opv
  obtain ⟨v0, HV⟩ : ∃ v0, Hid (v0 = kv) := ⟨_, rfl⟩
  obtain ⟨k0, HK0⟩ : ∃ k0, Hid (k0 = k) := ⟨_, rfl⟩
  obtain ⟨xs0, HX⟩ : ∃ xs0, Hid (xs0 = kxs) := ⟨_, rfl⟩
  have hk0 : k0 ≤ s := by rw [HK0.out]; assumption
  go_enter Tryz.func49, Tryz.ntmps49
  go_wp2_with fail
  · have hlift : Tryz.prog.follows .mixedOrders = true := by kernel_rfl
    obtain ⟨W, HW⟩ : ∃ W, Hid (W = (w.alloc (.cells #[.int .i64 1, .int .i64 X, .int .i64 a, .int .i64 b, .string S, .string T] 74)).drew) := ⟨_, rfl⟩
    obtain ⟨O, HO⟩ : ∃ O, Hid (O = w.heap.size) := ⟨_, rfl⟩
    have hFW : Fr (fun _ => False) w W := by rw [HW.out]; exact ((Fr.refl _ _).alloc _).drew
    have hIW := hI.frz hFW
    have hDW : ∀ q ∈ qs, DI G W b0 s q := fun q hq => (hDs q hq).fr hFW (fun _ _ _ _ _ => id)
    have hOW : W.heap[O]? = some (.cells #[.int .i64 1, .int .i64 X, .int .i64 a, .int .i64 b, .string S, .string T] 74 (0, 0)) := by rw [HW.out, HO.out]; exact heap_alloc_at _ _
    have hOl := lt_of_heap hOW
    have hbW : b0 ≤ W.heap.size := Nat.le_trans hsz hFW.size
    have hown : W.ownsRow b0 3 1 v0 k0 xs0 := by rw [HV.out, HK0.out, HX.out]; exact hIW.hk
    have hvw : W.cell? ⟨W0, 0, none⟩ = some v0 := by rw [HV.out]; exact hIW.c0
    have hOW0 : O ≠ W0 := by
      intro e; subst e
      have := hIW.hw.symm.trans hOW
      simp at this
    have hWv : ∀ b, v0.ownBlock = some b → b = W0 → False := by
      intro b hb e; subst e
      rcases hown.2 with ⟨rfl, _⟩ | ⟨g, cap, cur, rfl, _, hg, _⟩
      · simp [Value.ownBlock] at hb
      · simp only [Value.ownBlock, Option.some.injEq] at hb
        subst hb
        have := hIW.hw.symm.trans hg
        simp at this
    have hOv : ∀ b, v0.ownBlock = some b → b = O → False := by
      intro b hb e; subst e
      rcases hown.2 with ⟨rfl, _⟩ | ⟨g, cap, cur, rfl, _, hg, _⟩
      · simp [Value.ownBlock] at hb
      · simp only [Value.ownBlock, Option.some.injEq] at hb
        subst hb
        have := hOW.symm.trans hg
        simp at this
    let S : World → Prop := fun w' => w'.cell? ⟨O, 2, none⟩ = some (.int .i64 a)
    have hS : S W := by show W.cell? _ = _; rw [cell_of_row W O 2 _ _ _ hOW]; rfl
    obtain ⟨inf, hi0, hz0, hz1, hz2⟩ := info_parts int_info
    have hl1 : (Instr.loadAt 24 (.pointer (some ⟨W0, 0, none⟩))).run Tryz.prog W = .ok v0 W := run_loadAt_one hvw Tryz.underlying24 rfl
    have hbs : (Instr.buildSlice 24 1 #[(0, .int .i64 a)]).run Tryz.prog W = .ok (.slice (some ⟨W.heap.size, 0, none⟩) 1 1) (W.alloc (.cells #[.int .i64 a] 3)) :=
      run_buildSlice_one W 24 3 inf _ _ Tryz.underlying24 hi0 hz0 (by rw [hz1]; rfl) (by rw [hz1]; decide) (by rw [hz1]; decide)
    have hFA : Fr (fun _ => False) W (W.alloc (.cells #[.int .i64 a] 3)) := (Fr.refl _ _).alloc _
    have hWA : (W.alloc (.cells #[.int .i64 a] 3)).heap[W0]? = some (.cells #[kv, rv, sv, dv, fv] 80 (0, 0)) := hFA.keep hIW.hw id
    have hl2 : (Instr.loadAt 24 (.pointer (some ⟨W0, 0, none⟩))).run Tryz.prog (W.alloc (.cells #[.int .i64 a] 3)) = .ok v0 (W.alloc (.cells #[.int .i64 a] 3)) := run_loadAt_one (hFA.cell hvw id) Tryz.underlying24 rfl
    have hownA := hown.alloc (.cells #[.int .i64 a] 3)
    have hnewsA := World.news_of_block (w := W.alloc (.cells #[.int .i64 a] 3)) (B := W.heap.size) (heap_alloc_at W (.cells #[.int .i64 a] 3))
    have hSA : S (W.alloc (.cells #[.int .i64 a] 3)) := hFA.cell (p := ⟨O, 2, none⟩) hS id
    have hzA : b0 ≤ (W.alloc (.cells #[.int .i64 a] 3)).heap.size := by simp; omega
    have fin : ∀ (gn cap : Nat) (wn : World), wn.ownsRow b0 3 1 (.slice (some ⟨gn, 0, none⟩) (k0 + 1) cap) (k0 + 1) (xs0 ++ [.int .i64 a]) → (W.alloc (.cells #[.int .i64 a] 3)).grownBy wn v0.ownBlock →
        (v0.ownBlock = some gn ∨ gn = (W.alloc (.cells #[.int .i64 a] 3)).heap.size) → gn < wn.heap.size → wn.heap[W0]? = some (.cells #[kv, rv, sv, dv, fv] 80 (0, 0)) →
        ∃ qs', Inv G (wn.setCell ⟨W0, 0, none⟩ (.slice (some ⟨gn, 0, none⟩) (k0 + 1) cap)) b0 W0 (s + 1) qs' ∧ Below b0 w (wn.setCell ⟨W0, 0, none⟩ (.slice (some ⟨gn, 0, none⟩) (k0 + 1) cap)) := by
      intro gn cap wn hon hgrow hat hlt hWn
      have hF1 : Fr (fun b => v0.ownBlock = some b) W wn := (hFA.mono (fun _ _ h => h.elim)).grown hgrow (fun b _ hb => hb)
      have hF2 : Fr (fun b => b = W0 ∨ v0.ownBlock = some b) W (wn.setCell ⟨W0, 0, none⟩ (.slice (some ⟨gn, 0, none⟩) (k0 + 1) cap)) := Fr.setCell (S := fun b => b = W0 ∨ v0.ownBlock = some b) (hF1.mono (fun _ _ h => Or.inr h)) ⟨W0, 0, none⟩ (fun _ => Or.inl rfl) _
      have hvt : ∀ b c t, W.heap[b]? = some (.cells c t (0, 0)) → v0.ownBlock = some b → t = 3 := by
        intro b c t hb hv
        rcases hown.2 with ⟨rfl, _⟩ | ⟨g, cap', cur, rfl, _, hg, _⟩
        · simp [Value.ownBlock] at hv
        · simp only [Value.ownBlock, Option.some.injEq] at hv
          subst hv
          rw [hb] at hg
          simp at hg
          exact hg.2
      have hgW : v0.ownBlock = some gn ∨ W.heap.size ≤ gn := by
        rcases hat with e | e
        · exact .inl e
        · right; simp at e; omega
      have hot : ∀ {e' : Nat}, e' ≠ 3 → e' ≠ 80 → ∀ b c, W.heap[b]? = some (.cells c e' (0, 0)) → ¬ (b = W0 ∨ v0.ownBlock = some b) := by
        rintro e' he1 he2 b c hb (rfl | hv)
        · rw [hIW.hw] at hb; simp at hb; exact he2 hb.2.symm
        · exact he1 (hvt b c e' hb hv)
      have hoth : (wn.setCell ⟨W0, 0, none⟩ (.slice (some ⟨gn, 0, none⟩) (k0 + 1) cap)).ownsRow b0 3 1 rv r rxs := own_fr hIW.hr hF2 (by
        rintro b c hb hrb (rfl | hv)
        · rw [hIW.hw] at hb; simp at hb
        · exact hIW.ne b (by rw [← HV.out]; exact hv) hrb)
      have hne : ∀ b, (Value.slice (some ⟨gn, 0, none⟩) (k0 + 1) cap).ownBlock = some b → rv.ownBlock ≠ some b := by
        intro b hb hrb
        simp only [Value.ownBlock, Option.some.injEq] at hb
        subst hb
        rcases hgW with e | e
        · exact hIW.ne gn (by rw [← HV.out]; exact e) hrb
        · have := (hIW.hr.lt gn hrb).2; omega
      refine ⟨qs, ⟨(.slice (some ⟨gn, 0, none⟩) (k0 + 1) cap), rv, sv, dv, fv, k0 + 1, r, st, xs0 ++ [.int .i64 a], rxs, sts, fxs, ⟨heap_setCell_at wn W0 0 _ _ _ hWn, own_set hWn (by decide) hon, hoth, own_fr hIW.hs hF2 (fun b c hb _ => hot (by decide) (by decide) b c hb), own_fr hIW.hd hF2 (fun b c hb _ => hot (by decide) (by decide) b c hb), own_fr hIW.hf hF2 (fun b c hb _ => hot (by decide) (by decide) b c hb), hne, hIW.ro, hIW.so, hIW.w0⟩, hsn, by omega, by omega, by omega, by omega, fun q hq => ((hDW q hq).fr hF2 ?_).mono (by omega), hPw⟩, (frz_below hFW hsz).trans (hF2.below hbW ?_)⟩
      · intro b c t hb ht
        rcases ht with ⟨rfl, _⟩ | ⟨rfl, _⟩ | ⟨rfl, _⟩ | ht
        · exact hot (by decide) (by decide) b c hb
        · exact hot (by decide) (by decide) b c hb
        · exact hot (by decide) (by decide) b c hb
        · first | exact hot ht.ne.1 ht.ne.2.1 b c hb | exact hot ht.ne.2.1 ht.ne.1 b c hb
      · rintro b (rfl | hv)
        · exact hIW.w0
        · exact (hown.lt b hv).1
    rw [← HO.out]
    refine wp_region_held (S := S) hlift ?_
    change wpAnyH _ _ _ _ S _ _ _ (World.drew _)
    rw [← HW.out]
    refine wpAnyH_take (S := S) (i := 0) (oi := ⟨some 11, .move (.tmp 0), _, _, _, none⟩) (v := .pointer (some ⟨W0, 0, none⟩)) rfl (by kernel_rfl) (by kernel_rfl) (by kernel_rfl) (fun _ _ _ h => h) (Or.inl ⟨rfl, fun _ _ => rfl⟩) hS ?_
    simp only [Act.put, List.setIfInBounds_toArray, List.set_cons_zero, List.set_cons_succ]
    refine wpAnyH_take (S := S) (i := 1) (oi := ⟨some 12, .move (.tmp 0), _, _, _, none⟩) (v := .pointer (some ⟨W0, 0, none⟩)) rfl (by kernel_rfl) (by kernel_rfl) (by kernel_rfl) (fun _ _ _ h => h) (Or.inl ⟨rfl, fun _ _ => rfl⟩) hS ?_
    simp only [Act.put, List.setIfInBounds_toArray, List.set_cons_zero, List.set_cons_succ]
    refine wpAnyH_take (S := S) (i := 2) (oi := ⟨some 13, .nilCheck (.tmp 12), _, _, _, none⟩) (v := .pointer (some ⟨W0, 0, none⟩)) rfl (by kernel_rfl) (by kernel_rfl) (by kernel_rfl) (fun _ _ _ h => h) (Or.inl ⟨rfl, fun _ _ => rfl⟩) hS ?_
    simp only [Act.put, List.setIfInBounds_toArray, List.set_cons_zero, List.set_cons_succ]
    refine wpAnyH_take (S := S) (i := 3) (oi := ⟨some 14, .fieldAddr 80 (.tmp 13) 0, _, _, _, none⟩) (v := .pointer (some ⟨W0, 0, none⟩)) rfl (by kernel_rfl) (by kernel_rfl) (by kernel_rfl) (fun _ _ _ h => h) (Or.inl ⟨rfl, fun _ _ => by kernel_rfl⟩) hS ?_
    simp only [Act.put, List.setIfInBounds_toArray, List.set_cons_zero, List.set_cons_succ]
    refine wpAnyH_take (S := S) (i := 5) (oi := ⟨some 16, .fieldAddr 74 (.tmp 3) 2, _, _, _, none⟩) (v := .pointer (some ⟨O, 2, none⟩)) rfl (by kernel_rfl) (by kernel_rfl) (by kernel_rfl) (fun _ _ _ h => h) (Or.inl ⟨rfl, fun _ _ => by kernel_rfl⟩) hS ?_
    simp only [Act.put, List.setIfInBounds_toArray, List.set_cons_zero, List.set_cons_succ]
    refine wpAnyH_take (S := S) (i := 6) (oi := ⟨some 17, .load 3 (.tmp 16), _, _, _, none⟩) (v := .int .i64 a) rfl (by kernel_rfl) (by kernel_rfl) (by kernel_rfl) (fun _ _ _ h => h) (Or.inl ⟨rfl, fun w' hs => exec_load 3 (.tmp 16) rfl ⟨O, 2, none⟩ rfl (run_loadAt_one hs Tryz.underlying3 rfl)⟩) hS ?_
    simp only [Act.put, List.setIfInBounds_toArray, List.set_cons_zero, List.set_cons_succ]
    refine wpAnyH_all (rs := [4, 7]) (by kernel_rfl) (by simp) ?_
    intro i4 hi4
    simp only [List.mem_cons, List.not_mem_nil, or_false] at hi4
    rcases hi4 with rfl | rfl
    · skip
      refine wpOp_value (o := ⟨some 15, .load 24 (.tmp 14), _, _, _, none⟩) rfl rfl (exec_load 24 (.tmp 14) rfl ⟨W0, 0, none⟩ rfl hl1) ⟨hS, ?_⟩
      simp only [Act.put, List.setIfInBounds_toArray, List.set_cons_zero, List.set_cons_succ]
      refine wpAnyH_all (rs := [7]) (by kernel_rfl) (by simp) ?_
      intro i7 hi7
      obtain rfl : i7 = 7 := by simpa using hi7
      refine wpOp_value (o := ⟨some 18, .buildSlice 24 1 #[(0, .tmp 17)], _, _, _, none⟩) rfl rfl (exec_buildSlice 24 1 #[(0, .tmp 17)] rfl #[(0, .int .i64 a)] (by simp [Act.eval]) hbs) ⟨hSA, ?_⟩
      simp only [Act.put, List.setIfInBounds_toArray, List.set_cons_zero, List.set_cons_succ]
      refine wpAnyH_all (rs := [8]) (by kernel_rfl) (by simp) ?_
      intro i8 hi8
      obtain rfl : i8 = 8 := by simpa using hi8
      refine wpOp_of_wp (o := ⟨some 19, .call { callee := .builtin .append, args := #[.tmp 15, .tmp 18], argTypes := #[24, 24] }, _, _, _, none⟩) rfl rfl ?_
      refine wp_append_lies _ (.tmp 15) (.tmp 18) 24 rfl b0 3 inf (.int .i64 0) 1 8 Tryz.underlying24 hi0 hz0 hz1 hz2 rfl (by decide) v0 k0 xs0 rfl hownA ⟨W.heap.size, 0, none⟩ 1 1 [.int .i64 a] rfl rfl hnewsA (by simp [Value.oneCell']) (by decide) (by unfold maxLen; omega) (by omega) hzA _ rfl ?_
      intro gn cap wn hon hgrow hat hlt
      have hSn : S wn := by
        show wn.cell? ⟨O, 2, none⟩ = _
        rw [hgrow.cell_far ⟨O, 2, none⟩ (by simp; omega) (fun e => hOv _ e.symm rfl)]; exact hSA
      refine ⟨hSn, ?_⟩
      simp only [Act.put, List.setIfInBounds_toArray, List.set_cons_zero, List.set_cons_succ]
      refine wpAnyH_take (S := S) (i := 9) (oi := ⟨some 20, .nilCheck (.tmp 11), _, _, _, none⟩) (v := .pointer (some ⟨W0, 0, none⟩)) rfl (by kernel_rfl) (by kernel_rfl) (by kernel_rfl) (fun _ _ _ h => h) (Or.inl ⟨rfl, fun _ _ => rfl⟩) hSn ?_
      simp only [Act.put, List.setIfInBounds_toArray, List.set_cons_zero, List.set_cons_succ]
      refine wpAnyH_take (S := S) (i := 10) (oi := ⟨some 21, .fieldAddr 80 (.tmp 20) 0, _, _, _, none⟩) (v := .pointer (some ⟨W0, 0, none⟩)) rfl (by kernel_rfl) (by kernel_rfl) (by kernel_rfl) (fun _ _ _ h => h) (Or.inl ⟨rfl, fun _ _ => by kernel_rfl⟩) hSn ?_
      simp only [Act.put, List.setIfInBounds_toArray, List.set_cons_zero, List.set_cons_succ]
      refine wpAnyH_all (rs := [11]) (by kernel_rfl) (by simp) ?_
      intro i11 hi11
      obtain rfl : i11 = 11 := by simpa using hi11
      have hWn : wn.heap[W0]? = some (.cells #[kv, rv, sv, dv, fv] 80 (0, 0)) := by rw [hgrow.block W0 (lt_of_heap hWA) (fun e => hWv _ e.symm rfl)]; exact hWA
      have hcn : wn.cell? ⟨W0, 0, none⟩ = some v0 := by rw [cell_of_row wn W0 0 _ _ _ hWn, HV.out]; rfl
      have hSw : S (wn.setCell ⟨W0, 0, none⟩ (.slice (some ⟨gn, 0, none⟩) (k0 + 1) cap)) := by
        show (wn.setCell _ _).cell? ⟨O, 2, none⟩ = _
        rw [World.cell?_setCell_other _ _ _ _ (fun e => hOW0 (congrArg Addr.block e).symm)]; exact hSn
      refine wpOp_skip (o := ⟨none, .store 24 (.tmp 21) (.tmp 19), _, _, _, none⟩) rfl rfl (exec_store 24 (.tmp 21) (.tmp 19) rfl ⟨W0, 0, none⟩ (.slice (some ⟨gn, 0, none⟩) (k0 + 1) cap) rfl rfl (run_storeAt_one hcn (frozen_of_row wn W0 0 _ _ hWn) (by kernel_rfl) rfl)) ⟨hSw, ?_⟩
      simp only [Act.put]
      refine wpAnyH_done (by kernel_rfl) ?_ _
      have HE : Hid (OwnPost G w b0 W0 s (.returned (.bool true)) (wn.setCell ⟨W0, 0, none⟩ (.slice (some ⟨gn, 0, none⟩) (k0 + 1) cap))) := by
        obtain ⟨qs', e1, e2⟩ := fin gn cap wn hon hgrow hat hlt hWn
        exact ⟨qs', rfl, e1, e2⟩
      clear hSw hSn hcn hWn hon hgrow hat fin hl1 hl2 hbs hFA hWA hownA hnewsA hSA hzA hS hOv hWv hvw hown hOW hIW hDW hFW
      go_wp2
      go_ret
      exact HE.out
    · skip
      refine wpOp_value (o := ⟨some 18, .buildSlice 24 1 #[(0, .tmp 17)], _, _, _, none⟩) rfl rfl (exec_buildSlice 24 1 #[(0, .tmp 17)] rfl #[(0, .int .i64 a)] (by simp [Act.eval]) hbs) ⟨hSA, ?_⟩
      simp only [Act.put, List.setIfInBounds_toArray, List.set_cons_zero, List.set_cons_succ]
      refine wpAnyH_all (rs := [4]) (by kernel_rfl) (by simp) ?_
      intro i5 hi5
      obtain rfl : i5 = 4 := by simpa using hi5
      refine wpOp_value (o := ⟨some 15, .load 24 (.tmp 14), _, _, _, none⟩) rfl rfl (exec_load 24 (.tmp 14) rfl ⟨W0, 0, none⟩ rfl hl2) ⟨hSA, ?_⟩
      simp only [Act.put, List.setIfInBounds_toArray, List.set_cons_zero, List.set_cons_succ]
      refine wpAnyH_all (rs := [8]) (by kernel_rfl) (by simp) ?_
      intro i8 hi8
      obtain rfl : i8 = 8 := by simpa using hi8
      refine wpOp_of_wp (o := ⟨some 19, .call { callee := .builtin .append, args := #[.tmp 15, .tmp 18], argTypes := #[24, 24] }, _, _, _, none⟩) rfl rfl ?_
      refine wp_append_lies _ (.tmp 15) (.tmp 18) 24 rfl b0 3 inf (.int .i64 0) 1 8 Tryz.underlying24 hi0 hz0 hz1 hz2 rfl (by decide) v0 k0 xs0 rfl hownA ⟨W.heap.size, 0, none⟩ 1 1 [.int .i64 a] rfl rfl hnewsA (by simp [Value.oneCell']) (by decide) (by unfold maxLen; omega) (by omega) hzA _ rfl ?_
      intro gn cap wn hon hgrow hat hlt
      have hSn : S wn := by
        show wn.cell? ⟨O, 2, none⟩ = _
        rw [hgrow.cell_far ⟨O, 2, none⟩ (by simp; omega) (fun e => hOv _ e.symm rfl)]; exact hSA
      refine ⟨hSn, ?_⟩
      simp only [Act.put, List.setIfInBounds_toArray, List.set_cons_zero, List.set_cons_succ]
      refine wpAnyH_take (S := S) (i := 9) (oi := ⟨some 20, .nilCheck (.tmp 11), _, _, _, none⟩) (v := .pointer (some ⟨W0, 0, none⟩)) rfl (by kernel_rfl) (by kernel_rfl) (by kernel_rfl) (fun _ _ _ h => h) (Or.inl ⟨rfl, fun _ _ => rfl⟩) hSn ?_
      simp only [Act.put, List.setIfInBounds_toArray, List.set_cons_zero, List.set_cons_succ]
      refine wpAnyH_take (S := S) (i := 10) (oi := ⟨some 21, .fieldAddr 80 (.tmp 20) 0, _, _, _, none⟩) (v := .pointer (some ⟨W0, 0, none⟩)) rfl (by kernel_rfl) (by kernel_rfl) (by kernel_rfl) (fun _ _ _ h => h) (Or.inl ⟨rfl, fun _ _ => by kernel_rfl⟩) hSn ?_
      simp only [Act.put, List.setIfInBounds_toArray, List.set_cons_zero, List.set_cons_succ]
      refine wpAnyH_all (rs := [11]) (by kernel_rfl) (by simp) ?_
      intro i11 hi11
      obtain rfl : i11 = 11 := by simpa using hi11
      have hWn : wn.heap[W0]? = some (.cells #[kv, rv, sv, dv, fv] 80 (0, 0)) := by rw [hgrow.block W0 (lt_of_heap hWA) (fun e => hWv _ e.symm rfl)]; exact hWA
      have hcn : wn.cell? ⟨W0, 0, none⟩ = some v0 := by rw [cell_of_row wn W0 0 _ _ _ hWn, HV.out]; rfl
      have hSw : S (wn.setCell ⟨W0, 0, none⟩ (.slice (some ⟨gn, 0, none⟩) (k0 + 1) cap)) := by
        show (wn.setCell _ _).cell? ⟨O, 2, none⟩ = _
        rw [World.cell?_setCell_other _ _ _ _ (fun e => hOW0 (congrArg Addr.block e).symm)]; exact hSn
      refine wpOp_skip (o := ⟨none, .store 24 (.tmp 21) (.tmp 19), _, _, _, none⟩) rfl rfl (exec_store 24 (.tmp 21) (.tmp 19) rfl ⟨W0, 0, none⟩ (.slice (some ⟨gn, 0, none⟩) (k0 + 1) cap) rfl rfl (run_storeAt_one hcn (frozen_of_row wn W0 0 _ _ hWn) (by kernel_rfl) rfl)) ⟨hSw, ?_⟩
      simp only [Act.put]
      refine wpAnyH_done (by kernel_rfl) ?_ _
      have HE : Hid (OwnPost G w b0 W0 s (.returned (.bool true)) (wn.setCell ⟨W0, 0, none⟩ (.slice (some ⟨gn, 0, none⟩) (k0 + 1) cap))) := by
        obtain ⟨qs', e1, e2⟩ := fin gn cap wn hon hgrow hat hlt hWn
        exact ⟨qs', rfl, e1, e2⟩
      clear hSw hSn hcn hWn hon hgrow hat fin hl1 hl2 hbs hFA hWA hownA hnewsA hSA hzA hS hOv hWv hvw hown hOW hIW hDW hFW
      go_wp2
      go_ret
      exact HE.out

set_option maxRecDepth 100000 in
set_option maxHeartbeats 2000000 in
theorem owner_reply {w : World} {b0 W0 s : Nat} {qs : List DR} (h : Inv G w b0 W0 s qs) (hs : s < 100000) (X a b : Int) (S T : ByteArray) :
    Calls Tryz.prog 49 #[.pointer (some ⟨W0, 0, none⟩), .agg (opv 3 X a b S T)] w fun e w' => OwnPost G w b0 W0 s e w' := by
  have hsz := h.size
  obtain ⟨kv, rv, sv, dv, fv, k, r, st, kxs, rxs, sts, fxs, hI, hsn, hk, hr, hst, hm, hDs, hPw⟩ := h
  unfold opv
  obtain ⟨v0, HV⟩ : ∃ v0, Hid (v0 = rv) := ⟨_, rfl⟩
  obtain ⟨k0, HK0⟩ : ∃ k0, Hid (k0 = r) := ⟨_, rfl⟩
  obtain ⟨xs0, HX⟩ : ∃ xs0, Hid (xs0 = rxs) := ⟨_, rfl⟩
  have hk0 : k0 ≤ s := by rw [HK0.out]; assumption
  go_enter Tryz.func49, Tryz.ntmps49
  go_wp2_with fail
  · have hlift : Tryz.prog.follows .mixedOrders = true := by kernel_rfl
    obtain ⟨W, HW⟩ : ∃ W, Hid (W = (w.alloc (.cells #[.int .i64 3, .int .i64 X, .int .i64 a, .int .i64 b, .string S, .string T] 74)).drew) := ⟨_, rfl⟩
    obtain ⟨O, HO⟩ : ∃ O, Hid (O = w.heap.size) := ⟨_, rfl⟩
    have hFW : Fr (fun _ => False) w W := by rw [HW.out]; exact ((Fr.refl _ _).alloc _).drew
    have hIW := hI.frz hFW
    have hDW : ∀ q ∈ qs, DI G W b0 s q := fun q hq => (hDs q hq).fr hFW (fun _ _ _ _ _ => id)
    have hOW : W.heap[O]? = some (.cells #[.int .i64 3, .int .i64 X, .int .i64 a, .int .i64 b, .string S, .string T] 74 (0, 0)) := by rw [HW.out, HO.out]; exact heap_alloc_at _ _
    have hOl := lt_of_heap hOW
    have hbW : b0 ≤ W.heap.size := Nat.le_trans hsz hFW.size
    have hown : W.ownsRow b0 3 1 v0 k0 xs0 := by rw [HV.out, HK0.out, HX.out]; exact hIW.hr
    have hvw : W.cell? ⟨W0, 1, none⟩ = some v0 := by rw [HV.out]; exact hIW.c1
    have hOW0 : O ≠ W0 := by
      intro e; subst e
      have := hIW.hw.symm.trans hOW
      simp at this
    have hWv : ∀ b, v0.ownBlock = some b → b = W0 → False := by
      intro b hb e; subst e
      rcases hown.2 with ⟨rfl, _⟩ | ⟨g, cap, cur, rfl, _, hg, _⟩
      · simp [Value.ownBlock] at hb
      · simp only [Value.ownBlock, Option.some.injEq] at hb
        subst hb
        have := hIW.hw.symm.trans hg
        simp at this
    have hOv : ∀ b, v0.ownBlock = some b → b = O → False := by
      intro b hb e; subst e
      rcases hown.2 with ⟨rfl, _⟩ | ⟨g, cap, cur, rfl, _, hg, _⟩
      · simp [Value.ownBlock] at hb
      · simp only [Value.ownBlock, Option.some.injEq] at hb
        subst hb
        have := hOW.symm.trans hg
        simp at this
    let S : World → Prop := fun w' => w'.cell? ⟨O, 2, none⟩ = some (.int .i64 a)
    have hS : S W := by show W.cell? _ = _; rw [cell_of_row W O 2 _ _ _ hOW]; rfl
    obtain ⟨inf, hi0, hz0, hz1, hz2⟩ := info_parts int_info
    have hl1 : (Instr.loadAt 24 (.pointer (some ⟨W0, 1, none⟩))).run Tryz.prog W = .ok v0 W := run_loadAt_one hvw Tryz.underlying24 rfl
    have hbs : (Instr.buildSlice 24 1 #[(0, .int .i64 a)]).run Tryz.prog W = .ok (.slice (some ⟨W.heap.size, 0, none⟩) 1 1) (W.alloc (.cells #[.int .i64 a] 3)) :=
      run_buildSlice_one W 24 3 inf _ _ Tryz.underlying24 hi0 hz0 (by rw [hz1]; rfl) (by rw [hz1]; decide) (by rw [hz1]; decide)
    have hFA : Fr (fun _ => False) W (W.alloc (.cells #[.int .i64 a] 3)) := (Fr.refl _ _).alloc _
    have hWA : (W.alloc (.cells #[.int .i64 a] 3)).heap[W0]? = some (.cells #[kv, rv, sv, dv, fv] 80 (0, 0)) := hFA.keep hIW.hw id
    have hl2 : (Instr.loadAt 24 (.pointer (some ⟨W0, 1, none⟩))).run Tryz.prog (W.alloc (.cells #[.int .i64 a] 3)) = .ok v0 (W.alloc (.cells #[.int .i64 a] 3)) := run_loadAt_one (hFA.cell hvw id) Tryz.underlying24 rfl
    have hownA := hown.alloc (.cells #[.int .i64 a] 3)
    have hnewsA := World.news_of_block (w := W.alloc (.cells #[.int .i64 a] 3)) (B := W.heap.size) (heap_alloc_at W (.cells #[.int .i64 a] 3))
    have hSA : S (W.alloc (.cells #[.int .i64 a] 3)) := hFA.cell (p := ⟨O, 2, none⟩) hS id
    have hzA : b0 ≤ (W.alloc (.cells #[.int .i64 a] 3)).heap.size := by simp; omega
    have fin : ∀ (gn cap : Nat) (wn : World), wn.ownsRow b0 3 1 (.slice (some ⟨gn, 0, none⟩) (k0 + 1) cap) (k0 + 1) (xs0 ++ [.int .i64 a]) → (W.alloc (.cells #[.int .i64 a] 3)).grownBy wn v0.ownBlock →
        (v0.ownBlock = some gn ∨ gn = (W.alloc (.cells #[.int .i64 a] 3)).heap.size) → gn < wn.heap.size → wn.heap[W0]? = some (.cells #[kv, rv, sv, dv, fv] 80 (0, 0)) →
        ∃ qs', Inv G (wn.setCell ⟨W0, 1, none⟩ (.slice (some ⟨gn, 0, none⟩) (k0 + 1) cap)) b0 W0 (s + 1) qs' ∧ Below b0 w (wn.setCell ⟨W0, 1, none⟩ (.slice (some ⟨gn, 0, none⟩) (k0 + 1) cap)) := by
      intro gn cap wn hon hgrow hat hlt hWn
      have hF1 : Fr (fun b => v0.ownBlock = some b) W wn := (hFA.mono (fun _ _ h => h.elim)).grown hgrow (fun b _ hb => hb)
      have hF2 : Fr (fun b => b = W0 ∨ v0.ownBlock = some b) W (wn.setCell ⟨W0, 1, none⟩ (.slice (some ⟨gn, 0, none⟩) (k0 + 1) cap)) := Fr.setCell (S := fun b => b = W0 ∨ v0.ownBlock = some b) (hF1.mono (fun _ _ h => Or.inr h)) ⟨W0, 1, none⟩ (fun _ => Or.inl rfl) _
      have hvt : ∀ b c t, W.heap[b]? = some (.cells c t (0, 0)) → v0.ownBlock = some b → t = 3 := by
        intro b c t hb hv
        rcases hown.2 with ⟨rfl, _⟩ | ⟨g, cap', cur, rfl, _, hg, _⟩
        · simp [Value.ownBlock] at hv
        · simp only [Value.ownBlock, Option.some.injEq] at hv
          subst hv
          rw [hb] at hg
          simp at hg
          exact hg.2
      have hgW : v0.ownBlock = some gn ∨ W.heap.size ≤ gn := by
        rcases hat with e | e
        · exact .inl e
        · right; simp at e; omega
      have hot : ∀ {e' : Nat}, e' ≠ 3 → e' ≠ 80 → ∀ b c, W.heap[b]? = some (.cells c e' (0, 0)) → ¬ (b = W0 ∨ v0.ownBlock = some b) := by
        rintro e' he1 he2 b c hb (rfl | hv)
        · rw [hIW.hw] at hb; simp at hb; exact he2 hb.2.symm
        · exact he1 (hvt b c e' hb hv)
      have hoth : (wn.setCell ⟨W0, 1, none⟩ (.slice (some ⟨gn, 0, none⟩) (k0 + 1) cap)).ownsRow b0 3 1 kv k kxs := own_fr hIW.hk hF2 (by
        rintro b c hb hrb (rfl | hv)
        · rw [hIW.hw] at hb; simp at hb
        · exact hIW.ne b hrb (by rw [← HV.out]; exact hv))
      have hne : ∀ b, kv.ownBlock = some b → (Value.slice (some ⟨gn, 0, none⟩) (k0 + 1) cap).ownBlock ≠ some b := by
        intro b hrb hb
        simp only [Value.ownBlock, Option.some.injEq] at hb
        subst hb
        rcases hgW with e | e
        · exact hIW.ne gn hrb (by rw [← HV.out]; exact e)
        · have := (hIW.hk.lt gn hrb).2; omega
      have hro : ∀ v ∈ xs0 ++ [.int .i64 a], v.oneCell' = true := by
        intro v hv
        rcases List.mem_append.1 hv with hv | hv
        · rw [HX.out] at hv; exact hIW.ro v hv
        · rw [List.mem_singleton.1 hv]; rfl
      refine ⟨qs, ⟨kv, (.slice (some ⟨gn, 0, none⟩) (k0 + 1) cap), sv, dv, fv, k, k0 + 1, st, kxs, xs0 ++ [.int .i64 a], sts, fxs, ⟨heap_setCell_at wn W0 1 _ _ _ hWn, hoth, own_set hWn (by decide) hon, own_fr hIW.hs hF2 (fun b c hb _ => hot (by decide) (by decide) b c hb), own_fr hIW.hd hF2 (fun b c hb _ => hot (by decide) (by decide) b c hb), own_fr hIW.hf hF2 (fun b c hb _ => hot (by decide) (by decide) b c hb), hne, hro, hIW.so, hIW.w0⟩, hsn, by omega, by omega, by omega, by omega, fun q hq => ((hDW q hq).fr hF2 ?_).mono (by omega), hPw⟩, (frz_below hFW hsz).trans (hF2.below hbW ?_)⟩
      · intro b c t hb ht
        rcases ht with ⟨rfl, _⟩ | ⟨rfl, _⟩ | ⟨rfl, _⟩ | ht
        · exact hot (by decide) (by decide) b c hb
        · exact hot (by decide) (by decide) b c hb
        · exact hot (by decide) (by decide) b c hb
        · first | exact hot ht.ne.1 ht.ne.2.1 b c hb | exact hot ht.ne.2.1 ht.ne.1 b c hb
      · rintro b (rfl | hv)
        · exact hIW.w0
        · exact (hown.lt b hv).1
    rw [← HO.out]
    refine wp_region_held (S := S) hlift ?_
    change wpAnyH _ _ _ _ S _ _ _ (World.drew _)
    rw [← HW.out]
    refine wpAnyH_take (S := S) (i := 0) (oi := ⟨some 29, .move (.tmp 0), _, _, _, none⟩) (v := .pointer (some ⟨W0, 0, none⟩)) rfl (by kernel_rfl) (by kernel_rfl) (by kernel_rfl) (fun _ _ _ h => h) (Or.inl ⟨rfl, fun _ _ => rfl⟩) hS ?_
    simp only [Act.put, List.setIfInBounds_toArray, List.set_cons_zero, List.set_cons_succ]
    refine wpAnyH_take (S := S) (i := 1) (oi := ⟨some 30, .move (.tmp 0), _, _, _, none⟩) (v := .pointer (some ⟨W0, 0, none⟩)) rfl (by kernel_rfl) (by kernel_rfl) (by kernel_rfl) (fun _ _ _ h => h) (Or.inl ⟨rfl, fun _ _ => rfl⟩) hS ?_
    simp only [Act.put, List.setIfInBounds_toArray, List.set_cons_zero, List.set_cons_succ]
    refine wpAnyH_take (S := S) (i := 2) (oi := ⟨some 31, .nilCheck (.tmp 30), _, _, _, none⟩) (v := .pointer (some ⟨W0, 0, none⟩)) rfl (by kernel_rfl) (by kernel_rfl) (by kernel_rfl) (fun _ _ _ h => h) (Or.inl ⟨rfl, fun _ _ => rfl⟩) hS ?_
    simp only [Act.put, List.setIfInBounds_toArray, List.set_cons_zero, List.set_cons_succ]
    refine wpAnyH_take (S := S) (i := 3) (oi := ⟨some 32, .fieldAddr 80 (.tmp 31) 1, _, _, _, none⟩) (v := .pointer (some ⟨W0, 1, none⟩)) rfl (by kernel_rfl) (by kernel_rfl) (by kernel_rfl) (fun _ _ _ h => h) (Or.inl ⟨rfl, fun _ _ => by kernel_rfl⟩) hS ?_
    simp only [Act.put, List.setIfInBounds_toArray, List.set_cons_zero, List.set_cons_succ]
    refine wpAnyH_take (S := S) (i := 5) (oi := ⟨some 34, .fieldAddr 74 (.tmp 3) 2, _, _, _, none⟩) (v := .pointer (some ⟨O, 2, none⟩)) rfl (by kernel_rfl) (by kernel_rfl) (by kernel_rfl) (fun _ _ _ h => h) (Or.inl ⟨rfl, fun _ _ => by kernel_rfl⟩) hS ?_
    simp only [Act.put, List.setIfInBounds_toArray, List.set_cons_zero, List.set_cons_succ]
    refine wpAnyH_take (S := S) (i := 6) (oi := ⟨some 35, .load 3 (.tmp 34), _, _, _, none⟩) (v := .int .i64 a) rfl (by kernel_rfl) (by kernel_rfl) (by kernel_rfl) (fun _ _ _ h => h) (Or.inl ⟨rfl, fun w' hs => exec_load 3 (.tmp 34) rfl ⟨O, 2, none⟩ rfl (run_loadAt_one hs Tryz.underlying3 rfl)⟩) hS ?_
    simp only [Act.put, List.setIfInBounds_toArray, List.set_cons_zero, List.set_cons_succ]
    refine wpAnyH_all (rs := [4, 7]) (by kernel_rfl) (by simp) ?_
    intro i4 hi4
    simp only [List.mem_cons, List.not_mem_nil, or_false] at hi4
    rcases hi4 with rfl | rfl
    · skip
      refine wpOp_value (o := ⟨some 33, .load 24 (.tmp 32), _, _, _, none⟩) rfl rfl (exec_load 24 (.tmp 32) rfl ⟨W0, 1, none⟩ rfl hl1) ⟨hS, ?_⟩
      simp only [Act.put, List.setIfInBounds_toArray, List.set_cons_zero, List.set_cons_succ]
      refine wpAnyH_all (rs := [7]) (by kernel_rfl) (by simp) ?_
      intro i7 hi7
      obtain rfl : i7 = 7 := by simpa using hi7
      refine wpOp_value (o := ⟨some 36, .buildSlice 24 1 #[(0, .tmp 35)], _, _, _, none⟩) rfl rfl (exec_buildSlice 24 1 #[(0, .tmp 35)] rfl #[(0, .int .i64 a)] (by simp [Act.eval]) hbs) ⟨hSA, ?_⟩
      simp only [Act.put, List.setIfInBounds_toArray, List.set_cons_zero, List.set_cons_succ]
      refine wpAnyH_all (rs := [8]) (by kernel_rfl) (by simp) ?_
      intro i8 hi8
      obtain rfl : i8 = 8 := by simpa using hi8
      refine wpOp_of_wp (o := ⟨some 37, .call { callee := .builtin .append, args := #[.tmp 33, .tmp 36], argTypes := #[24, 24] }, _, _, _, none⟩) rfl rfl ?_
      refine wp_append_lies _ (.tmp 33) (.tmp 36) 24 rfl b0 3 inf (.int .i64 0) 1 8 Tryz.underlying24 hi0 hz0 hz1 hz2 rfl (by decide) v0 k0 xs0 rfl hownA ⟨W.heap.size, 0, none⟩ 1 1 [.int .i64 a] rfl rfl hnewsA (by simp [Value.oneCell']) (by decide) (by unfold maxLen; omega) (by omega) hzA _ rfl ?_
      intro gn cap wn hon hgrow hat hlt
      have hSn : S wn := by
        show wn.cell? ⟨O, 2, none⟩ = _
        rw [hgrow.cell_far ⟨O, 2, none⟩ (by simp; omega) (fun e => hOv _ e.symm rfl)]; exact hSA
      refine ⟨hSn, ?_⟩
      simp only [Act.put, List.setIfInBounds_toArray, List.set_cons_zero, List.set_cons_succ]
      refine wpAnyH_take (S := S) (i := 9) (oi := ⟨some 38, .nilCheck (.tmp 29), _, _, _, none⟩) (v := .pointer (some ⟨W0, 0, none⟩)) rfl (by kernel_rfl) (by kernel_rfl) (by kernel_rfl) (fun _ _ _ h => h) (Or.inl ⟨rfl, fun _ _ => rfl⟩) hSn ?_
      simp only [Act.put, List.setIfInBounds_toArray, List.set_cons_zero, List.set_cons_succ]
      refine wpAnyH_take (S := S) (i := 10) (oi := ⟨some 39, .fieldAddr 80 (.tmp 38) 1, _, _, _, none⟩) (v := .pointer (some ⟨W0, 1, none⟩)) rfl (by kernel_rfl) (by kernel_rfl) (by kernel_rfl) (fun _ _ _ h => h) (Or.inl ⟨rfl, fun _ _ => by kernel_rfl⟩) hSn ?_
      simp only [Act.put, List.setIfInBounds_toArray, List.set_cons_zero, List.set_cons_succ]
      refine wpAnyH_all (rs := [11]) (by kernel_rfl) (by simp) ?_
      intro i11 hi11
      obtain rfl : i11 = 11 := by simpa using hi11
      have hWn : wn.heap[W0]? = some (.cells #[kv, rv, sv, dv, fv] 80 (0, 0)) := by rw [hgrow.block W0 (lt_of_heap hWA) (fun e => hWv _ e.symm rfl)]; exact hWA
      have hcn : wn.cell? ⟨W0, 1, none⟩ = some v0 := by rw [cell_of_row wn W0 1 _ _ _ hWn, HV.out]; rfl
      have hSw : S (wn.setCell ⟨W0, 1, none⟩ (.slice (some ⟨gn, 0, none⟩) (k0 + 1) cap)) := by
        show (wn.setCell _ _).cell? ⟨O, 2, none⟩ = _
        rw [World.cell?_setCell_other _ _ _ _ (fun e => hOW0 (congrArg Addr.block e).symm)]; exact hSn
      refine wpOp_skip (o := ⟨none, .store 24 (.tmp 39) (.tmp 37), _, _, _, none⟩) rfl rfl (exec_store 24 (.tmp 39) (.tmp 37) rfl ⟨W0, 1, none⟩ (.slice (some ⟨gn, 0, none⟩) (k0 + 1) cap) rfl rfl (run_storeAt_one hcn (frozen_of_row wn W0 1 _ _ hWn) (by kernel_rfl) rfl)) ⟨hSw, ?_⟩
      simp only [Act.put]
      refine wpAnyH_done (by kernel_rfl) ?_ _
      have HE : Hid (OwnPost G w b0 W0 s (.returned (.bool true)) (wn.setCell ⟨W0, 1, none⟩ (.slice (some ⟨gn, 0, none⟩) (k0 + 1) cap))) := by
        obtain ⟨qs', e1, e2⟩ := fin gn cap wn hon hgrow hat hlt hWn
        exact ⟨qs', rfl, e1, e2⟩
      clear hSw hSn hcn hWn hon hgrow hat fin hl1 hl2 hbs hFA hWA hownA hnewsA hSA hzA hS hOv hWv hvw hown hOW hIW hDW hFW
      go_wp2
      go_ret
      exact HE.out
    · skip
      refine wpOp_value (o := ⟨some 36, .buildSlice 24 1 #[(0, .tmp 35)], _, _, _, none⟩) rfl rfl (exec_buildSlice 24 1 #[(0, .tmp 35)] rfl #[(0, .int .i64 a)] (by simp [Act.eval]) hbs) ⟨hSA, ?_⟩
      simp only [Act.put, List.setIfInBounds_toArray, List.set_cons_zero, List.set_cons_succ]
      refine wpAnyH_all (rs := [4]) (by kernel_rfl) (by simp) ?_
      intro i5 hi5
      obtain rfl : i5 = 4 := by simpa using hi5
      refine wpOp_value (o := ⟨some 33, .load 24 (.tmp 32), _, _, _, none⟩) rfl rfl (exec_load 24 (.tmp 32) rfl ⟨W0, 1, none⟩ rfl hl2) ⟨hSA, ?_⟩
      simp only [Act.put, List.setIfInBounds_toArray, List.set_cons_zero, List.set_cons_succ]
      refine wpAnyH_all (rs := [8]) (by kernel_rfl) (by simp) ?_
      intro i8 hi8
      obtain rfl : i8 = 8 := by simpa using hi8
      refine wpOp_of_wp (o := ⟨some 37, .call { callee := .builtin .append, args := #[.tmp 33, .tmp 36], argTypes := #[24, 24] }, _, _, _, none⟩) rfl rfl ?_
      refine wp_append_lies _ (.tmp 33) (.tmp 36) 24 rfl b0 3 inf (.int .i64 0) 1 8 Tryz.underlying24 hi0 hz0 hz1 hz2 rfl (by decide) v0 k0 xs0 rfl hownA ⟨W.heap.size, 0, none⟩ 1 1 [.int .i64 a] rfl rfl hnewsA (by simp [Value.oneCell']) (by decide) (by unfold maxLen; omega) (by omega) hzA _ rfl ?_
      intro gn cap wn hon hgrow hat hlt
      have hSn : S wn := by
        show wn.cell? ⟨O, 2, none⟩ = _
        rw [hgrow.cell_far ⟨O, 2, none⟩ (by simp; omega) (fun e => hOv _ e.symm rfl)]; exact hSA
      refine ⟨hSn, ?_⟩
      simp only [Act.put, List.setIfInBounds_toArray, List.set_cons_zero, List.set_cons_succ]
      refine wpAnyH_take (S := S) (i := 9) (oi := ⟨some 38, .nilCheck (.tmp 29), _, _, _, none⟩) (v := .pointer (some ⟨W0, 0, none⟩)) rfl (by kernel_rfl) (by kernel_rfl) (by kernel_rfl) (fun _ _ _ h => h) (Or.inl ⟨rfl, fun _ _ => rfl⟩) hSn ?_
      simp only [Act.put, List.setIfInBounds_toArray, List.set_cons_zero, List.set_cons_succ]
      refine wpAnyH_take (S := S) (i := 10) (oi := ⟨some 39, .fieldAddr 80 (.tmp 38) 1, _, _, _, none⟩) (v := .pointer (some ⟨W0, 1, none⟩)) rfl (by kernel_rfl) (by kernel_rfl) (by kernel_rfl) (fun _ _ _ h => h) (Or.inl ⟨rfl, fun _ _ => by kernel_rfl⟩) hSn ?_
      simp only [Act.put, List.setIfInBounds_toArray, List.set_cons_zero, List.set_cons_succ]
      refine wpAnyH_all (rs := [11]) (by kernel_rfl) (by simp) ?_
      intro i11 hi11
      obtain rfl : i11 = 11 := by simpa using hi11
      have hWn : wn.heap[W0]? = some (.cells #[kv, rv, sv, dv, fv] 80 (0, 0)) := by rw [hgrow.block W0 (lt_of_heap hWA) (fun e => hWv _ e.symm rfl)]; exact hWA
      have hcn : wn.cell? ⟨W0, 1, none⟩ = some v0 := by rw [cell_of_row wn W0 1 _ _ _ hWn, HV.out]; rfl
      have hSw : S (wn.setCell ⟨W0, 1, none⟩ (.slice (some ⟨gn, 0, none⟩) (k0 + 1) cap)) := by
        show (wn.setCell _ _).cell? ⟨O, 2, none⟩ = _
        rw [World.cell?_setCell_other _ _ _ _ (fun e => hOW0 (congrArg Addr.block e).symm)]; exact hSn
      refine wpOp_skip (o := ⟨none, .store 24 (.tmp 39) (.tmp 37), _, _, _, none⟩) rfl rfl (exec_store 24 (.tmp 39) (.tmp 37) rfl ⟨W0, 1, none⟩ (.slice (some ⟨gn, 0, none⟩) (k0 + 1) cap) rfl rfl (run_storeAt_one hcn (frozen_of_row wn W0 1 _ _ hWn) (by kernel_rfl) rfl)) ⟨hSw, ?_⟩
      simp only [Act.put]
      refine wpAnyH_done (by kernel_rfl) ?_ _
      have HE : Hid (OwnPost G w b0 W0 s (.returned (.bool true)) (wn.setCell ⟨W0, 1, none⟩ (.slice (some ⟨gn, 0, none⟩) (k0 + 1) cap))) := by
        obtain ⟨qs', e1, e2⟩ := fin gn cap wn hon hgrow hat hlt hWn
        exact ⟨qs', rfl, e1, e2⟩
      clear hSw hSn hcn hWn hon hgrow hat fin hl1 hl2 hbs hFA hWA hownA hnewsA hSA hzA hS hOv hWv hvw hown hOW hIW hDW hFW
      go_wp2
      go_ret
      exact HE.out
end Go.Proofs.YteebjgfalllbjaaGreatDoor
namespace Go.Proofs.YteebjgfalllbjaaGreatDoor
open Go.RowKit
variable {G : Prg}

/-- A field of the script's world is set; what else is known stands. -/
theorem WI.setF {w : World} {b0 W0 : Nat} {kv rv sv dv fv : Value} {k r st m : Nat} {kxs rxs sxs : List Value} {ds : List Nat} {fxs : List Value} (h : WI w b0 W0 kv rv sv dv fv k r st m kxs rxs sxs ds fxs) (i : Nat) (v : Value) {kv' rv' sv' dv' fv' : Value} {k' r' st' m' : Nat} {kxs' rxs' sxs' : List Value} {ds' : List Nat} {fxs' : List Value}
    (e : (#[kv, rv, sv, dv, fv] : Array Value).setIfInBounds i v = #[kv', rv', sv', dv', fv'])
    (hk : w.ownsRow b0 3 1 kv' k' kxs') (hr : w.ownsRow b0 3 1 rv' r' rxs') (hs : w.ownsRow b0 165 2 sv' st' sxs') (hd : w.ownsRow b0 105 1 dv' m' (ds'.map fun D => Value.pointer (some ⟨D, 0, none⟩))) (hf : w.ownsRow b0 4 1 fv' m' fxs')
    (ne : ∀ b, kv'.ownBlock = some b → rv'.ownBlock ≠ some b) (ro : ∀ v ∈ rxs', v.oneCell' = true) (so : ∀ v ∈ sxs', v.oneCell' = true) :
    WI (w.setCell ⟨W0, i, none⟩ v) b0 W0 kv' rv' sv' dv' fv' k' r' st' m' kxs' rxs' sxs' ds' fxs' :=
  ⟨by rw [heap_setCell_at w W0 i _ _ _ h.hw, e], own_set h.hw (by decide) hk, own_set h.hw (by decide) hr, own_set h.hw (by decide) hs, own_set h.hw (by decide) hd, own_set h.hw (by decide) hf, ne, ro, so, h.w0⟩
theorem DI.setW {w : World} {b0 s W0 : Nat} {q : DR} {cs : Array Value} (h : DI G w b0 s q) (hw : w.heap[W0]? = some (.cells cs 80 (0, 0))) (i : Nat) (v : Value) : DI G (w.setCell ⟨W0, i, none⟩ v) b0 s q :=
  h.fr (Fr.set1 w W0 i v) (by
    rintro b c t hb ht rfl
    rw [hw] at hb
    simp at hb
    rcases ht with ⟨e, _⟩ | ⟨e, _⟩ | ⟨e, _⟩ | e
    · rw [e] at hb; exact absurd hb.2 (by decide)
    · rw [e] at hb; exact absurd hb.2 (by decide)
    · rw [e] at hb; exact absurd hb.2 (by decide)
    · exact e.ne.1 hb.2.symm)

set_option maxRecDepth 100000 in
set_option maxHeartbeats 1000000 in
theorem owner_none {w : World} {b0 W0 s : Nat} {qs : List DR} (h : Inv G w b0 W0 s qs) (X a b : Int) (S T : ByteArray) :
    Calls Tryz.prog 49 #[.pointer (some ⟨W0, 0, none⟩), .agg (opv 2 X a b S T)] w fun e w' => OwnPost G w b0 W0 s e w' := by
  have hsz := h.size
  have hF : Fr (fun _ => False) w (w.alloc (.cells (opv 2 X a b S T) 74)) := (Fr.refl _ _).alloc _
  obtain ⟨kv, rv, sv, dv, fv, k, r, st, kxs, rxs, sts, fxs, hI, hsn, hk, hr, hst, hm, hDs, hPw⟩ := h.frz hF (Nat.le_refl _)
  have hP : Hid (OwnPost G w b0 W0 s (.returned (.bool true)) ((w.alloc (.cells (opv 2 X a b S T) 74)).setCell ⟨W0, 0, none⟩ (.slice none 0 0))) := by
    refine ⟨qs, rfl, ⟨_, rv, sv, dv, fv, 0, r, st, [], rxs, sts, fxs, hI.setF 0 _ rfl (World.ownsRow_nil _ _ _ _) hI.hr hI.hs hI.hd hI.hf (fun b hb => by simp [Value.ownBlock] at hb) hI.ro hI.so, hsn, by omega, by omega, by omega, by omega, fun q hq => ((hDs q hq).setW hI.hw _ _).mono (by omega), hPw⟩, ?_⟩
    exact (frz_below hF hsz).setCell (p := ⟨W0, 0, none⟩) hI.w0 _
  have c0 := hI.c0
  have f0 := hI.fz 0
  clear hI hDs hPw h hF
  unfold opv at *
  go_enter Tryz.func49, Tryz.ntmps49
  go_wp2
  go_ret
  exact hP.out
set_option maxRecDepth 100000 in
set_option maxHeartbeats 1000000 in
theorem owner_clear {w : World} {b0 W0 s : Nat} {qs : List DR} (h : Inv G w b0 W0 s qs) (X a b : Int) (S T : ByteArray) :
    Calls Tryz.prog 49 #[.pointer (some ⟨W0, 0, none⟩), .agg (opv 5 X a b S T)] w fun e w' => OwnPost G w b0 W0 s e w' := by
  have hsz := h.size
  have hF : Fr (fun _ => False) w (w.alloc (.cells (opv 5 X a b S T) 74)) := (Fr.refl _ _).alloc _
  obtain ⟨kv, rv, sv, dv, fv, k, r, st, kxs, rxs, sts, fxs, hI, hsn, hk, hr, hst, hm, hDs, hPw⟩ := h.frz hF (Nat.le_refl _)
  have hP : Hid (OwnPost G w b0 W0 s (.returned (.bool true)) ((w.alloc (.cells (opv 5 X a b S T) 74)).setCell ⟨W0, 2, none⟩ (.slice none 0 0))) := by
    refine ⟨qs, rfl, ⟨kv, rv, _, dv, fv, k, r, 0, kxs, rxs, [], fxs, hI.setF 2 _ rfl hI.hk hI.hr (World.ownsRow_nil _ _ _ _) hI.hd hI.hf hI.ne hI.ro (fun v hv => by cases hv), rfl, by omega, by omega, by omega, by omega, fun q hq => ((hDs q hq).setW hI.hw _ _).mono (by omega), hPw⟩, ?_⟩
    exact (frz_below hF hsz).setCell (p := ⟨W0, 2, none⟩) hI.w0 _
  have c2 := hI.c2
  have f2 := hI.fz 2
  clear hI hDs hPw h hF
  unfold opv at *
  go_enter Tryz.func49, Tryz.ntmps49
  go_wp2
  go_ret
  exact hP.out

theorem own_base {w : World} {b b' e size n : Nat} {v : Value} {xs : List Value} (h : w.ownsRow b e size v n xs) (hb : b' ≤ b) : w.ownsRow b' e size v n xs := by
  refine ⟨h.1, ?_⟩
  rcases h.2 with hn | ⟨g, cap, cur, hv, hg, rest⟩
  · exact .inl hn
  · exact .inr ⟨g, cap, cur, hv, by omega, rest⟩
theorem own_form {w : World} {b e size n : Nat} {v : Value} {xs : List Value} (h : w.ownsRow b e size v n xs) : ∃ ao cc, v = .slice ao n cc := by
  rcases h.2 with ⟨rfl, rfl⟩ | ⟨g, cap, cur, rfl, _⟩
  · exact ⟨_, _, rfl⟩
  · exact ⟨_, _, rfl⟩
theorem step_info : (Tryz.prog.info? 165).map (fun i => (i.zero, i.size, i.bytes)) = some (some (.agg #[.string ⟨#[]⟩, .string ⟨#[]⟩]), 2, 32) := by kernel_rfl
set_option maxRecDepth 100000 in
set_option maxHeartbeats 2000000 in
theorem owner_step {w : World} {b0 W0 s : Nat} {qs : List DR} (h : Inv G w b0 W0 s qs) (hs : s < 100000) (X a b : Int) (S T : ByteArray) :
    Calls Tryz.prog 49 #[.pointer (some ⟨W0, 0, none⟩), .agg (opv 4 X a b S T)] w fun e w' => OwnPost G w b0 W0 s e w' := by
  have hsz := h.size
  obtain ⟨W, HW⟩ : ∃ W, Hid (W = w.alloc (.cells (opv 4 X a b S T) 74)) := ⟨_, rfl⟩
  have hF : Fr (fun _ => False) w W := by rw [HW.out]; exact (Fr.refl _ _).alloc _
  obtain ⟨O, HO⟩ : ∃ O, Hid (O = w.heap.size) := ⟨_, rfl⟩
  have hO : W.heap[O]? = some (.cells (opv 4 X a b S T) 74 (0, 0)) := by rw [HW.out, HO.out]; exact heap_alloc_at _ _
  obtain ⟨kv, rv, sv, dv, fv, k, r, st, kxs, rxs, sts, fxs, hI, hsn, hk, hr, hst, hm, hDs, hPw⟩ := h.frz hF (Nat.le_refl _)
  obtain ⟨sxs, HSX⟩ : ∃ sxs, Hid (sxs = scells sts) := ⟨_, rfl⟩
  rw [← HSX.out] at hI
  have hbW : b0 ≤ W.heap.size := Nat.le_trans hsz hF.size
  obtain ⟨inf, hi0, hz0, hz1, hz2⟩ := info_parts step_info
  -- behind the copy of the steps: v1 owns them, in w1
  have key : ∀ (v1 : Value) (w1 : World), w1.ownsRow b0 165 2 v1 st sxs → (∀ g, v1.ownBlock = some g → W.heap.size ≤ g) → Fr (fun _ => False) W w1 → ∀ (gn cap : Nat) (wn : World),
      wn.ownsRow b0 165 2 (.slice (some ⟨gn, 0, none⟩) (st + 1) cap) (st + 1) (sxs ++ [.string S, .string T]) → (w1.alloc (.cells #[.string S, .string T] 165)).grownBy wn v1.ownBlock →
      wn.cell? ⟨W0, 2, none⟩ = some sv ∧ wn.frozen? ⟨W0, 2, none⟩ = false ∧ Hid (OwnPost G w b0 W0 s (.returned (.bool true)) (wn.setCell ⟨W0, 2, none⟩ (.slice (some ⟨gn, 0, none⟩) (st + 1) cap))) := by
    intro v1 w1 ho1 hv1 hf1 gn cap wn hon hgrow
    have hfn : Fr (fun _ => False) W wn := (hf1.alloc _).grown hgrow (fun b hb e => by have := hv1 b e; omega)
    have hIn := hI.frz hfn
    refine ⟨hIn.c2, hIn.fz 2, qs, rfl, ⟨kv, rv, _, dv, fv, k, r, st + 1, kxs, rxs, sts ++ [(S, T)], fxs, hIn.setF 2 _ rfl hIn.hk hIn.hr (by rw [scells_append, ← HSX.out]; exact hon) hIn.hd hIn.hf hIn.ne hIn.ro ?_, by simp [hsn], by omega, by omega, by omega, by omega, fun q hq => (((hDs q hq).fr hfn (fun _ _ _ _ _ => id)).setW hIn.hw _ _).mono (by omega), hPw⟩, ?_⟩
    · intro v hv
      rw [scells_append, ← HSX.out] at hv
      rcases List.mem_append.1 hv with hv | hv
      · exact hI.so v hv
      · simp only [scells, stv, List.map_cons, List.map_nil, List.flatten_cons, List.flatten_nil, List.append_nil, List.mem_cons, List.not_mem_nil, or_false] at hv
        rcases hv with rfl | rfl <;> rfl
    · exact (((frz_below hF hsz).trans (frz_below hfn hbW))).setCell (p := ⟨W0, 2, none⟩) hI.w0 _
  have c2 := hI.c2
  have hso := hI.so
  have ho4 : ∀ w1, Fr (fun _ => False) W w1 → w1.cell? ⟨O, 4, none⟩ = some (.string S) ∧ w1.cell? ⟨O, 5, none⟩ = some (.string T) := fun w1 hf1 => ⟨hf1.cell (p := ⟨O, 4, none⟩) (by rw [cell_of_row W O 4 _ _ _ hO]; rfl) id, hf1.cell (p := ⟨O, 5, none⟩) (by rw [cell_of_row W O 5 _ _ _ hO]; rfl) id⟩
  have hOs := hI.hs
  have H4 : Hid (∀ w1, Fr (fun _ => False) W w1 → w1.cell? ⟨O, 4, none⟩ = some (.string S) ∧ w1.cell? ⟨O, 5, none⟩ = some (.string T)) := ho4
  have HOs : Hid (W.ownsRow b0 165 2 sv st sxs) := hOs
  clear hOs ho4 hI hDs hPw h hO
  have hbox : (Instr.box 74 (.agg (opv 4 X a b S T))).run Tryz.prog w = .ok (.pointer (some ⟨O, 0, none⟩)) W := by rw [HW.out, HO.out]; rfl
  have hO0 : W.cell? ⟨O, 0, none⟩ = some (.int .i64 4) := by rw [HW.out, HO.out, cell_of_row _ w.heap.size 0 _ _ _ (heap_alloc_at _ _)]; rfl
  have app2 : ∀ (v1 : Value) (w1 : World), w1.ownsRow W.heap.size 165 2 v1 st sxs → Fr (fun _ => False) W w1 → (w1.alloc (.cells #[.string S, .string T] 165)).ownsRow W.heap.size 165 2 v1 st sxs ∧ W.heap.size ≤ (w1.alloc (.cells #[.string S, .string T] 165)).heap.size := fun v1 w1 h1 hf1 => ⟨h1.alloc _, Nat.le_trans hf1.size (by simp)⟩
  have HA2 := app2
  clear app2
  unfold opv at *
  go_enter Tryz.func49, Tryz.ntmps49
  rcases HOs.out.2 with ⟨rfl, rfl⟩ | ⟨g, cap0, cur, rfl, hbg, hgg, hnc, hcm, hcs, ht⟩
  · have hx0 : sxs = [] := List.eq_nil_of_length_eq_zero (by simpa using HOs.out.1)
    subst hx0
    have o4 := (H4.out W (Fr.refl _ _)).1
    have o5 := (H4.out W (Fr.refl _ _)).2
    go_wp2_with (first
      | (refine wpList_box 74 (.tmp 1) (v := .pointer (some ⟨O, 0, none⟩)) (w' := W) rfl rfl ?_ ?_; exact hbox)
      | (at_builtin; refine wpList_append_lies _ rfl (.tmp 49) (.tmp 55) 76 rfl W.heap.size 165 inf (.agg #[.string ⟨#[]⟩, .string ⟨#[]⟩]) 2 32 Tryz.underlying76 hi0 hz0 hz1 hz2 rfl (by decide) (.slice none 0 0) 0 [] rfl (World.ownsRow_nil _ _ _ _) ⟨W.heap.size, 0, none⟩ 1 1 [.string S, .string T] rfl rfl ?_ ?_ (by decide) ?_ (by decide) ?_ _ rfl ?_; exact World.news_of_block (cs := #[.string S, .string T]) (heap_alloc_at W _); (simp [Value.oneCell']); (unfold maxLen; decide); (simp); intro gn cap wn hon hgrow hat hlt; obtain ⟨q1, q2, q3⟩ := key (.slice none 0 0) W (World.ownsRow_nil _ _ _ _) (fun g hg => by simp [Value.ownBlock] at hg) (Fr.refl _ _) gn cap wn (own_base hon hbW) hgrow))
    go_ret
    exact q3.out
  · have hc := HOs.out.cells (g := g) rfl
    have hlen := HOs.out.1
    go_wp2_with (first
      | (refine wpList_box 74 (.tmp 1) (v := .pointer (some ⟨O, 0, none⟩)) (w' := W) rfl rfl ?_ ?_; exact hbox)
      | (at_builtin; refine wpList_append_own W rfl (.tmp 42) (.tmp 46) 76 rfl W.heap.size 165 inf (.agg #[.string ⟨#[]⟩, .string ⟨#[]⟩]) 2 32 Tryz.underlying76 hi0 hz0 hz1 hz2 rfl (by decide) (.slice none 0 0) 0 [] rfl (World.ownsRow_nil _ _ _ _) ⟨g, 0, none⟩ st cap0 sxs rfl hlen hc hso ?_ ?_ (Nat.le_refl _) ?_; (unfold maxLen; omega); omega; intro v1 w1 hown1 hgrow1 _; simp only [Nat.zero_add, List.nil_append] at hown1; obtain ⟨ao, cc, rfl⟩ := own_form hown1; have hf1 : Fr (fun _ => False) W w1 := (Fr.refl _ _).grown hgrow1 (fun _ _ h => by cases h); have o4 := (H4.out w1 hf1).1; have o5 := (H4.out w1 hf1).2)
      | (at_builtin; refine wpList_append_lies _ rfl (.tmp 49) (.tmp 55) 76 rfl W.heap.size 165 inf (.agg #[.string ⟨#[]⟩, .string ⟨#[]⟩]) 2 32 Tryz.underlying76 hi0 hz0 hz1 hz2 rfl (by decide) (.slice ao st cc) st sxs rfl (HA2 _ _ hown1 hf1).1 ⟨w1.heap.size, 0, none⟩ 1 1 [.string S, .string T] rfl rfl ?_ ?_ (by decide) ?_ ?_ (HA2 _ _ hown1 hf1).2 _ rfl ?_; exact World.news_of_block (cs := #[.string S, .string T]) (heap_alloc_at w1 _); (simp [Value.oneCell']); (unfold maxLen; omega); omega; intro gn cap wn hon hgrow hat hlt; obtain ⟨q1, q2, q3⟩ := key (.slice ao st cc) w1 (own_base hown1 hbW) (fun g hg => (hown1.lt g hg).1) hf1 gn cap wn (own_base hon hbW) hgrow))
    go_ret
    exact q3.out
end Go.Proofs.YteebjgfalllbjaaGreatDoor
