import Derived.Test.YthnmpgnaahkgkaaGreatDoorOwn
namespace Go.Proofs.YthnmpgnaahkgkaaGreatDoor
open Go.RowKit

theorem own_fr {S : Nat → Prop} {w w' : World} {base e size n : Nat} {v : Value} {xs : List Value} (h : w.ownsRow base e size v n xs) (hf : Fr S w w') (hS : ∀ b c, w.heap[b]? = some (.cells c e (0, 0)) → v.ownBlock = some b → ¬ S b) : w'.ownsRow base e size v n xs := by
  refine ⟨h.1, ?_⟩
  rcases h.2 with hn | ⟨g, cap, cur, rfl, hb, hg, rest⟩
  · exact .inl hn
  · exact .inr ⟨g, cap, cur, rfl, hb, hf.keep hg (hS g cur hg rfl), rest⟩

/-- The script's world: its five lists. -/
structure WI (w : World) (b0 W0 : Nat) (kv rv sv dv fv : Value) (k r st m : Nat) (kxs rxs sxs : List Value) (ds : List Nat) (fxs : List Value) : Prop where
  hw : w.heap[W0]? = some (.cells #[kv, rv, sv, dv, fv] 34 (0, 0))
  hk : w.ownsRow b0 3 1 kv k kxs
  hr : w.ownsRow b0 3 1 rv r rxs
  hs : w.ownsRow b0 56 2 sv st sxs
  hd : w.ownsRow b0 37 1 dv m (ds.map fun D => Value.pointer (some ⟨D, 0, none⟩))
  hf : w.ownsRow b0 4 1 fv m fxs
  ne : ∀ b, kv.ownBlock = some b → rv.ownBlock ≠ some b
  ro : ∀ v ∈ rxs, v.oneCell' = true
  so : ∀ v ∈ sxs, v.oneCell' = true
  w0 : b0 ≤ W0
section
variable {w w' : World} {b0 W0 : Nat} {kv rv sv dv fv : Value} {k r st m : Nat} {kxs rxs sxs : List Value} {ds : List Nat} {fxs : List Value}
theorem WI.c0 (h : WI w b0 W0 kv rv sv dv fv k r st m kxs rxs sxs ds fxs) : w.cell? ⟨W0, 0, none⟩ = some kv := by rw [cell_of_row w W0 0 _ _ _ h.hw]; rfl
theorem WI.c1 (h : WI w b0 W0 kv rv sv dv fv k r st m kxs rxs sxs ds fxs) : w.cell? ⟨W0, 1, none⟩ = some rv := by rw [cell_of_row w W0 1 _ _ _ h.hw]; rfl
theorem WI.c2 (h : WI w b0 W0 kv rv sv dv fv k r st m kxs rxs sxs ds fxs) : w.cell? ⟨W0, 2, none⟩ = some sv := by rw [cell_of_row w W0 2 _ _ _ h.hw]; rfl
theorem WI.c3 (h : WI w b0 W0 kv rv sv dv fv k r st m kxs rxs sxs ds fxs) : w.cell? ⟨W0, 3, none⟩ = some dv := by rw [cell_of_row w W0 3 _ _ _ h.hw]; rfl
theorem WI.c4 (h : WI w b0 W0 kv rv sv dv fv k r st m kxs rxs sxs ds fxs) : w.cell? ⟨W0, 4, none⟩ = some fv := by rw [cell_of_row w W0 4 _ _ _ h.hw]; rfl
theorem WI.fz (h : WI w b0 W0 kv rv sv dv fv k r st m kxs rxs sxs ds fxs) (j : Nat) : w.frozen? ⟨W0, j, none⟩ = false := frozen_of_row w W0 j _ _ h.hw
/-- The world stands as it was where none of its blocks is among those that turned. -/
theorem WI.fr {S : Nat → Prop} (h : WI w b0 W0 kv rv sv dv fv k r st m kxs rxs sxs ds fxs) (hf : Fr S w w')
    (hS : ∀ b c t, w.heap[b]? = some (.cells c t (0, 0)) → t = 34 ∨ t = 3 ∨ t = 56 ∨ t = 37 ∨ t = 4 → ¬ S b) : WI w' b0 W0 kv rv sv dv fv k r st m kxs rxs sxs ds fxs :=
  ⟨hf.keep h.hw (hS _ _ _ h.hw (by simp)), own_fr h.hk hf (fun b c hb _ => hS _ _ _ hb (by simp)), own_fr h.hr hf (fun b c hb _ => hS _ _ _ hb (by simp)), own_fr h.hs hf (fun b c hb _ => hS _ _ _ hb (by simp)), own_fr h.hd hf (fun b c hb _ => hS _ _ _ hb (by simp)), own_fr h.hf hf (fun b c hb _ => hS _ _ _ hb (by simp)), h.ne, h.ro, h.so, h.w0⟩
theorem WI.frz (h : WI w b0 W0 kv rv sv dv fv k r st m kxs rxs sxs ds fxs) (hf : Fr (fun _ => False) w w') : WI w' b0 W0 kv rv sv dv fv k r st m kxs rxs sxs ds fxs := h.fr hf (fun _ _ _ _ _ => id)
end

/-- A disk of the script: where its parts lie, how many blocks it has, may there be no journal. -/
structure DR where
  D : Nat
  A : Nat
  B : Nat
  Pp : Nat
  n : Nat
  nn : Bool
/-- .. and what is known of it behind s steps. -/
def DI (w : World) (b0 s : Nat) (q : DR) : Prop := ∃ x pause calls writes bs, Whole w q.D q.A q.B q.Pp q.n q.nn x pause calls writes bs ∧
  (8 ≤ q.n → q.n ≤ 400 → bs.take 128 = if q.nn then zB else headB q.n) ∧ 0 ≤ calls ∧ calls ≤ 1000 * (s : Int) ∧ 0 ≤ writes ∧ writes ≤ 1000 * (s : Int) ∧ b0 ≤ q.D ∧ b0 ≤ q.A ∧ b0 ≤ q.B ∧ q.n < 1000
theorem DI.mono {w : World} {b0 s s' : Nat} {q : DR} (h : DI w b0 s q) (hs : s ≤ s') : DI w b0 s' q := by
  obtain ⟨x, pause, calls, writes, bs, h1, h2, h3, h4, h5, h6, h7⟩ := h
  exact ⟨x, pause, calls, writes, bs, h1, h2, h3, by omega, h5, by omega, h7⟩
theorem DI.fr {S : Nat → Prop} {w w' : World} {b0 s : Nat} {q : DR} (h : DI w b0 s q) (hf : Fr S w w') (hS : ∀ b c t, w.heap[b]? = some (.cells c t (0, 0)) → (t = 46 ∧ b = q.D) ∨ (t = 62 ∧ b = q.A) ∨ (t = 63 ∧ b = q.B) ∨ t = 76 → ¬ S b) : DI w' b0 s q := by
  obtain ⟨x, pause, calls, writes, bs, h1, h2⟩ := h
  refine ⟨x, pause, calls, writes, bs, ?_, h2⟩
  obtain ⟨lv, hp⟩ := h1.p
  exact h1.fr hf (hS _ _ _ h1.l (by simp)) (hS _ _ _ hp (by simp)) (h1.d.fr hf (hS _ _ _ h1.d (by simp))) ⟨hf.keep h1.r.1 (hS _ _ _ h1.r.1 (by simp)), h1.r.2⟩
def Apart (p q : DR) : Prop := p.D ≠ q.D ∧ p.A ≠ q.A ∧ p.B ≠ q.B

/-- The script's world behind s steps. -/
def Inv (w : World) (b0 W0 s : Nat) (qs : List DR) : Prop := ∃ kv rv sv dv fv k r st kxs rxs sxs fxs,
  WI w b0 W0 kv rv sv dv fv k r st qs.length kxs rxs sxs (qs.map DR.D) fxs ∧ k ≤ s ∧ r ≤ s ∧ st ≤ s ∧ qs.length ≤ s ∧ (∀ q ∈ qs, DI w b0 s q) ∧ qs.Pairwise Apart
theorem Inv.frz {w w' : World} {b0 W0 s s' : Nat} {qs : List DR} (h : Inv w b0 W0 s qs) (hf : Fr (fun _ => False) w w') (hs : s ≤ s') : Inv w' b0 W0 s' qs := by
  obtain ⟨kv, rv, sv, dv, fv, k, r, st, kxs, rxs, sxs, fxs, h1, h2, h3, h4, h5, h6, h7⟩ := h
  exact ⟨kv, rv, sv, dv, fv, k, r, st, kxs, rxs, sxs, fxs, h1.frz hf, by omega, by omega, by omega, by omega, fun q hq => ((h6 q hq).fr hf (fun _ _ _ _ _ => id)).mono hs, h7⟩
theorem frz_below {w w' : World} {b0 : Nat} (hf : Fr (fun _ => False) w w') (hb : b0 ≤ w.heap.size) : Below b0 w w' := hf.below hb (fun _ h => h.elim)
theorem Inv.size {w : World} {b0 W0 s : Nat} {qs : List DR} (h : Inv w b0 W0 s qs) : b0 ≤ w.heap.size := by
  obtain ⟨kv, rv, sv, dv, fv, k, r, st, kxs, rxs, sxs, fxs, h1, _⟩ := h
  have := lt_of_heap h1.hw
  have := h1.w0
  omega
/-- A step of the script, as a value. -/
def opv (K X a b : Int) (s t : ByteArray) : Array Value := #[.int .i64 K, .int .i64 X, .int .i64 a, .int .i64 b, .string s, .string t]
def OwnPost (w : World) (b0 W0 s : Nat) (e : Ending) (w' : World) : Prop := ∃ qs', e = .returned (.bool true) ∧ Inv w' b0 W0 (s + 1) qs' ∧ Below b0 w w'

set_option maxRecDepth 100000 in
set_option maxHeartbeats 1000000 in
theorem owner_other {w : World} {W0 : Nat} (K X a b : Int) (S T : ByteArray) (hK : K < 1 ∨ 6 < K) :
    Calls Tryz.prog 11 #[.pointer (some ⟨W0, 0, none⟩), .agg (opv K X a b S T)] w fun e w' => e = .returned (.bool false) ∧ Fr (fun _ => False) w w' := by
  have e1 : (K == 1) = false := by simp; omega
  have e2 : (K == 2) = false := by simp; omega
  have e3 : (K == 3) = false := by simp; omega
  have e4 : (K == 4) = false := by simp; omega
  have e5 : (K == 5) = false := by simp; omega
  have e6 : (K == 6) = false := by simp; omega
  unfold opv
  go_enter Tryz.func11, Tryz.ntmps11
  go_wp2
  go_ret
  exact ⟨rfl, (Fr.refl _ _).alloc _⟩
end Go.Proofs.YthnmpgnaahkgkaaGreatDoor
