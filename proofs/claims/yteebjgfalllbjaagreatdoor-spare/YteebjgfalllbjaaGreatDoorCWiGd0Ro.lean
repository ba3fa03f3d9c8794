import Derived.Test.YteebjgfalllbjaaGreatDoorCNsNtOwn
import Derived.Test.YteebjgfalllbjaaGreatDoorCOpCmCl
namespace Go.Proofs.YteebjgfalllbjaaGreatDoor
open Go.RowKit

theorem own_fr {S : Nat → Prop} {w w' : World} {base e size n : Nat} {v : Value} {xs : List Value} (h : w.ownsRow base e size v n xs) (hf : Fr S w w') (hS : ∀ b c, w.heap[b]? = some (.cells c e (0, 0)) → v.ownBlock = some b → ¬ S b) : w'.ownsRow base e size v n xs := by
  refine ⟨h.1, ?_⟩
  rcases h.2 with hn | ⟨g, cap, cur, rfl, hb, hg, rest⟩
  · exact .inl hn
  · exact .inr ⟨g, cap, cur, rfl, hb, hf.keep hg (hS g cur hg rfl), rest⟩

/-- The script's world: its five lists. -/
structure WI (w : World) (b0 W0 : Nat) (kv rv sv dv fv : Value) (k r st m : Nat) (kxs rxs sxs : List Value) (ds : List Nat) (fxs : List Value) : Prop where
  hw : w.heap[W0]? = some (.cells #[kv, rv, sv, dv, fv] 80 (0, 0))
  hk : w.ownsRow b0 3 1 kv k kxs
  hr : w.ownsRow b0 3 1 rv r rxs
  hs : w.ownsRow b0 165 2 sv st sxs
  hd : w.ownsRow b0 105 1 dv m (ds.map fun D => Value.pointer (some ⟨D, 0, none⟩))
  hf : w.ownsRow b0 4 1 fv m fxs
  ne : ∀ b, kv.ownBlock = some b → rv.ownBlock ≠ some b
  ro : ∀ v ∈ rxs, v.oneCell' = true
  so : ∀ v ∈ sxs, v.oneCell' = true
  w0 : b0 ≤ W0
section
variable {w w' : World} {b0 W0 : Nat} {kv rv sv dv fv : Value} {k r st m : Nat} {kxs rxs sxs : List Value} {ds : List Nat} {fxs : List Value}
theorem WI.c0 (h : WI w b0 W0 kv rv sv dv fv k r st m kxs rxs sxs ds fxs) : w.cell? ⟨W0, 0, none⟩ = some kv := by rw [cell_of_row w W0 0 _ _ _ h.hw]; rfl
theorem WI.c1 (h : WI w b0 W0 kv rv sv dv fv k r st m kxs rxs sxs ds fxs) : w.cell? ⟨W0, 1, none⟩ = some rv := by rw [cell_of_row w W0 1 _ _ _ h.hw]; rfl
theorem WI.c2 (h : WI w b0 W0 kv rv sv dv fv k r st m kxs rxs sxs ds fxs) : w.cell? ⟨W0, 2, none⟩ = some sv := by rw [cell_of_row w W0 2 _ _ _ h.hw]; rfl
theorem WI.c3 (h : WI w b0 W0 kv rv sv dv fv k r st m kxs rxs sxs ds fxs) : w.cell? ⟨W0, 3, none⟩ = some dv := by rw [cell_of_row w W0 3 _ _ _ h.hw]; rfl
theorem WI.c4 (h : WI w b0 W0 kv rv sv dv fv k r st m kxs rxs sxs ds fxs) : w.cell? ⟨W0, 4, none⟩ = some fv := by rw [cell_of_row w W0 4 _ _ _ h.hw]; rfl
theorem WI.fz (h : WI w b0 W0 kv rv sv dv fv k r st m kxs rxs sxs ds fxs) (j : Nat) : w.frozen? ⟨W0, j, none⟩ = false := frozen_of_row w W0 j _ _ h.hw
/-- The world stands as it was where none of its blocks is among those that turned. -/
theorem WI.fr {S : Nat → Prop} (h : WI w b0 W0 kv rv sv dv fv k r st m kxs rxs sxs ds fxs) (hf : Fr S w w')
    (hS : ∀ b c t, w.heap[b]? = some (.cells c t (0, 0)) → t = 80 ∨ t = 3 ∨ t = 165 ∨ t = 105 ∨ t = 4 → ¬ S b) : WI w' b0 W0 kv rv sv dv fv k r st m kxs rxs sxs ds fxs :=
  ⟨hf.keep h.hw (hS _ _ _ h.hw (by simp)), own_fr h.hk hf (fun b c hb _ => hS _ _ _ hb (by simp)), own_fr h.hr hf (fun b c hb _ => hS _ _ _ hb (by simp)), own_fr h.hs hf (fun b c hb _ => hS _ _ _ hb (by simp)), own_fr h.hd hf (fun b c hb _ => hS _ _ _ hb (by simp)), own_fr h.hf hf (fun b c hb _ => hS _ _ _ hb (by simp)), h.ne, h.ro, h.so, h.w0⟩
theorem WI.frz (h : WI w b0 W0 kv rv sv dv fv k r st m kxs rxs sxs ds fxs) (hf : Fr (fun _ => False) w w') : WI w' b0 W0 kv rv sv dv fv k r st m kxs rxs sxs ds fxs := h.fr hf (fun _ _ _ _ _ => id)
end

/-- A disk of the script: where its parts lie, how many blocks it has, may there be no journal; its engine, what the document says of its sagas; which blocks are the engine's. -/
structure DR where
  D : Nat
  A : Nat
  B : Nat
  Pp : Nat
  n : Nat
  nn : Bool
  x : Option Addr
  pause : Int
  clock : Int
  Lv : Value
  L : List RS
  F : Nat → Prop
/-- A saga as it stands, wherever it lies. -/
structure AS where
  id : Int
  st : List SS
  S : SP
  tries : Int
  due : Int
def RS.a (r : RS) : AS := ⟨r.id, r.st, r.S, r.tries, r.due⟩
/-- A device, its partner, its engine, how the sagas stand; which blocks are the engine's. -/
structure DK where
  A : Nat
  B : Nat
  Pp : Nat
  n : Nat
  nn : Bool
  x : Option Addr
  pause : Int
  clock : Int
  L : List AS
  F : Nat → Prop
def DR.k (q : DR) : DK := ⟨q.A, q.B, q.Pp, q.n, q.nn, q.x, q.pause, q.clock, q.L.map RS.a, q.F⟩
/-- No block of the script, of its disks, of what was handed in. -/
def EngT (t : TypeId) : Prop := t ≠ 80 ∧ t ≠ 3 ∧ t ≠ 165 ∧ t ≠ 105 ∧ t ≠ 4 ∧ t ≠ 111 ∧ t ≠ 96 ∧ t ≠ 97 ∧ t ≠ 48 ∧ t ≠ 223 ∧ t ≠ 220 ∧ t ≠ 58 ∧ t ≠ 119 ∧ t ≠ 74
/-- The types of what else is known of a disk. -/
def Rest (q : DR) (t : TypeId) (b : Nat) : Prop := (t = 48 ∧ b = q.Pp) ∨ t = 223 ∨ t = 165 ∨ t = 220 ∨ (q.F b ∧ EngT t)
theorem Rest.ne {q : DR} {t : TypeId} {b : Nat} (h : Rest q t b) : t ≠ 80 ∧ t ≠ 3 ∧ t ≠ 105 ∧ t ≠ 4 ∧ t ≠ 111 ∧ t ≠ 96 ∧ t ≠ 97 ∧ t ≠ 74 := by
  rcases h with ⟨rfl, _⟩ | rfl | rfl | rfl | ⟨_, h⟩
  · decide
  · decide
  · decide
  · decide
  · exact ⟨h.1, h.2.1, h.2.2.2.1, h.2.2.2.2.1, h.2.2.2.2.2.1, h.2.2.2.2.2.2.1, h.2.2.2.2.2.2.2.1, h.2.2.2.2.2.2.2.2.2.2.2.2.2⟩
/-- What is known of a program: how its journal and its engine lie. -/
structure Prg where
  Dev : World → DK → List Value → Prop
  fr : ∀ {S : Nat → Prop} {w w' : World} {q : DK} {bs : List Value}, Dev w q bs → Fr S w w' → (∀ b, q.F b → ¬ S b) → Dev w' q bs
  new : ∀ (w : World) (A B Pp n : Nat), Dev w ⟨A, B, Pp, n, true, none, 0, 0, [], fun _ => False⟩ (List.replicate (n * 128) (.int .u8 0))
/-- A device at rest, behind s steps. -/
def DevI (G : Prg) (w : World) (s : Nat) (k : DK) : Prop := ∃ calls writes bs, DiskAt w k.A k.B k.n (.slice none 0 0) calls writes ∧ RowsAt w k.B k.n bs ∧ 0 ≤ calls ∧ calls ≤ 1000 * (s : Int) ∧ 0 ≤ writes ∧ writes ≤ 1000 * (s : Int) ∧ G.Dev w k bs
variable {G : Prg}
/-- .. and what is known of it behind s steps. -/
structure DI (G : Prg) (w : World) (b0 s : Nat) (q : DR) : Prop where
  l : LawAt w q.D q.A q.Pp q.n q.nn (.pointer q.x) q.pause q.clock q.Lv
  p : ∃ lo lm lcap pe pl pa, w.heap[q.Pp]? = some (.cells #[.slice lo lm lcap, pe, pl, pa] 48 (0, 0))
  d : DevI G w s q.k
  a : LAt w b0 q.Lv q.L
  ln : q.L.length ≤ s
  ls : ∀ r ∈ q.L, r.S.1 ≠ 0 ∧ sagaOk r.id r.st = true
  lo : q.L.Pairwise (fun a b => a.id < b.id)
  f : ∀ b, q.F b → b0 ≤ b ∧ ∃ c t, w.heap[b]? = some (.cells c t (0, 0)) ∧ EngT t
  b : b0 ≤ q.D ∧ b0 ≤ q.A ∧ b0 ≤ q.B ∧ b0 ≤ q.Pp
  n : q.n < 1000
theorem DI.mono {w : World} {b0 s s' : Nat} {q : DR} (h : DI G w b0 s q) (hs : s ≤ s') : DI G w b0 s' q := by
  obtain ⟨calls, writes, bs, h1, h2, h3, h4, h5, h6, h7⟩ := h.d
  exact ⟨h.l, h.p, ⟨calls, writes, bs, h1, h2, h3, by omega, h5, by omega, h7⟩, h.a, by have := h.ln; omega, h.ls, h.lo, h.f, h.b, h.n⟩
theorem DI.fr {S : Nat → Prop} {w w' : World} {b0 s : Nat} {q : DR} (h : DI G w b0 s q) (hf : Fr S w w') (hS : ∀ b c t, w.heap[b]? = some (.cells c t (0, 0)) → (t = 111 ∧ b = q.D) ∨ (t = 96 ∧ b = q.A) ∨ (t = 97 ∧ b = q.B) ∨ Rest q t b → ¬ S b) : DI G w' b0 s q := by
  obtain ⟨calls, writes, bs, h1, h2, h3, h4, h5, h6, h7⟩ := h.d
  obtain ⟨lo, lm, lcap, pe, pl, pa, hp⟩ := h.p
  have hF : ∀ b, q.F b → ¬ S b := fun b hb => by
    obtain ⟨_, c, t, hc, ht⟩ := h.f b hb
    exact hS b c t hc (.inr (.inr (.inr (.inr (.inr (.inr (.inr ⟨hb, ht⟩)))))))
  refine ⟨h.l.fr hf (hS _ _ _ h.l (.inl ⟨rfl, rfl⟩)), ⟨lo, lm, lcap, pe, pl, pa, hf.keep hp (hS _ _ _ hp (.inr (.inr (.inr (.inl ⟨rfl, rfl⟩)))))⟩, ⟨calls, writes, bs, h1.fr hf (hS _ _ _ h1 (.inr (.inl ⟨rfl, rfl⟩))), ⟨hf.keep h2.1 (hS _ _ _ h2.1 (.inr (.inr (.inl ⟨rfl, rfl⟩)))), h2.2⟩, h3, h4, h5, h6, G.fr h7 hf hF⟩, h.a.fr hf (fun b c t hb ht => hS b c t hb (.inr (.inr (.inr (.inr (by rcases ht with h | h | h; exact .inl h; exact .inr (.inl h); exact .inr (.inr (.inl h)))))))), h.ln, h.ls, h.lo, fun b hb => ?_, h.b, h.n⟩
  obtain ⟨h0, c, t, hc, ht⟩ := h.f b hb
  exact ⟨h0, c, t, hf.keep hc (hF b hb), ht⟩
def Apart (p q : DR) : Prop := p.D ≠ q.D ∧ p.A ≠ q.A ∧ p.B ≠ q.B ∧ p.Pp ≠ q.Pp ∧ ∀ b, p.F b → ¬ q.F b

/-- The script's world behind s steps. -/
def Inv (G : Prg) (w : World) (b0 W0 s : Nat) (qs : List DR) : Prop := ∃ kv rv sv dv fv k r st kxs rxs sts fxs,
  WI w b0 W0 kv rv sv dv fv k r st qs.length kxs rxs (scells sts) (qs.map DR.D) fxs ∧ sts.length = st ∧ k ≤ s ∧ r ≤ s ∧ st ≤ s ∧ qs.length ≤ s ∧ (∀ q ∈ qs, DI G w b0 s q) ∧ qs.Pairwise Apart
theorem Inv.frz {w w' : World} {b0 W0 s s' : Nat} {qs : List DR} (h : Inv G w b0 W0 s qs) (hf : Fr (fun _ => False) w w') (hs : s ≤ s') : Inv G w' b0 W0 s' qs := by
  obtain ⟨kv, rv, sv, dv, fv, k, r, st, kxs, rxs, sts, fxs, h1, h0, h2, h3, h4, h5, h6, h7⟩ := h
  exact ⟨kv, rv, sv, dv, fv, k, r, st, kxs, rxs, sts, fxs, h1.frz hf, h0, by omega, by omega, by omega, by omega, fun q hq => ((h6 q hq).fr hf (fun _ _ _ _ _ => id)).mono hs, h7⟩
theorem frz_below {w w' : World} {b0 : Nat} (hf : Fr (fun _ => False) w w') (hb : b0 ≤ w.heap.size) : Below b0 w w' := hf.below hb (fun _ h => h.elim)
theorem Inv.size {w : World} {b0 W0 s : Nat} {qs : List DR} (h : Inv G w b0 W0 s qs) : b0 ≤ w.heap.size := by
  obtain ⟨kv, rv, sv, dv, fv, k, r, st, kxs, rxs, sts, fxs, h1, _⟩ := h
  have := lt_of_heap h1.hw
  have := h1.w0
  omega
/-- A step of the script, as a value. -/
def opv (K X a b : Int) (s t : ByteArray) : Array Value := #[.int .i64 K, .int .i64 X, .int .i64 a, .int .i64 b, .string s, .string t]
def OwnPost (G : Prg) (w : World) (b0 W0 s : Nat) (e : Ending) (w' : World) : Prop := ∃ qs', e = .returned (.bool true) ∧ Inv G w' b0 W0 (s + 1) qs' ∧ Below b0 w w'

set_option maxRecDepth 100000 in
set_option maxHeartbeats 1000000 in
theorem owner_other {w : World} {W0 : Nat} (K X a b : Int) (S T : ByteArray) (hK : K < 1 ∨ 6 < K) :
    Calls Tryz.prog 49 #[.pointer (some ⟨W0, 0, none⟩), .agg (opv K X a b S T)] w fun e w' => e = .returned (.bool false) ∧ Fr (fun _ => False) w w' := by
  have e1 : (K == 1) = false := by simp; omega
  have e2 : (K == 2) = false := by simp; omega
  have e3 : (K == 3) = false := by simp; omega
  have e4 : (K == 4) = false := by simp; omega
  have e5 : (K == 5) = false := by simp; omega
  have e6 : (K == 6) = false := by simp; omega
  unfold opv
  go_enter Tryz.func49, Tryz.ntmps49
  go_wp2
  go_ret
  exact ⟨rfl, (Fr.refl _ _).alloc _⟩
end Go.Proofs.YteebjgfalllbjaaGreatDoor
namespace Go.Proofs.YteebjgfalllbjaaGreatDoor
open Go.RowKit

def AS.zero (a : AS) : AS := ⟨a.id, a.st, a.S, 0, 0⟩
def AS.told (a : AS) : ST := ⟨a.id, a.S.1, a.S.2, a.st.length, a.tries, a.due⟩
def DK.shut (k : DK) : DK := ⟨k.A, k.B, k.Pp, k.n, k.nn, none, k.pause, k.clock, k.L, fun _ => False⟩
def DK.fmt (k : DK) : DK := ⟨k.A, k.B, k.Pp, k.n, false, none, 0, 0, [], fun _ => False⟩
def DK.opened (k : DK) (x : Option Addr) (p : Int) (F : Nat → Prop) : DK := ⟨k.A, k.B, k.Pp, k.n, false, x, p, 0, k.L.map AS.zero, F⟩
def DK.with (k : DK) (L : List AS) (F : Nat → Prop) : DK := ⟨k.A, k.B, k.Pp, k.n, k.nn, k.x, k.pause, k.clock, L, F⟩
/-- The engine's blocks are of its own types. -/
def FT (w : World) (lo : Nat) (F : Nat → Prop) : Prop := ∀ b, F b → lo ≤ b ∧ ∃ c t, w.heap[b]? = some (.cells c t (0, 0)) ∧ EngT t
/-- The sagas of a device are sagas, by rising ids. -/
def OkL (L : List AS) : Prop := L.Pairwise (fun a b => a.id < b.id) ∧ ∀ a ∈ L, a.S.1 ≠ 0 ∧ sagaOk a.id a.st = true
/-- A saga more. -/
def insA (a : AS) (L : List AS) : List AS := L.takeWhile (fun b => decide (b.id < a.id)) ++ a :: L.dropWhile (fun b => decide (b.id < a.id))
def StatA (L : List AS) (id : Int) (w : World) (e : Ending) (w' : World) : Prop := ∃ s v, e = .returned (.tuple #[.agg s.cs.toArray, v]) ∧ Fr (fun _ => False) w w' ∧ ((∃ a ∈ L, a.id = id ∧ s = a.told ∧ ErrAt w' v 0) ∨ ((∀ a ∈ L, a.id ≠ id) ∧ s = zST ∧ ErrAt w' v 9))
def needA (L : List AS) (k : Nat) : Nat := 4 + 2 * k + 2 + (L.map fun a => 2 * a.st.length + 2).sum
/-- What Submit answers, and what is there then. -/
def SubA (L : List AS) (id : Int) (st : List SS) (n : Nat) (k : Int) (L' : List AS) : Prop :=
  (sagaOk id st = false ∧ k = 1 ∧ L' = L) ∨ (sagaOk id st = true ∧ ∃ a ∈ L, a.id = id ∧ (k = if a.st = st then 0 else 2) ∧ L' = L) ∨
  (sagaOk id st = true ∧ (∀ a ∈ L, a.id ≠ id) ∧ ((k = 0 ∧ L' = insA ⟨id, st, (1, 1), 0, 0⟩ L) ∨ (k = 3 ∧ n < needA L st.length ∧ L' = L)))
end Go.Proofs.YteebjgfalllbjaaGreatDoor
namespace Go.Proofs.YteebjgfalllbjaaGreatDoor
open Go.RowKit

/-- An entry of the roll: the saga, and how it stands. -/
def entC (a : AS) : List Value := sagaC a.id a.st.length (six a.st) ++ a.told.cs
theorem entC_len (a : AS) (h : a.st.length ≤ 6) : (entC a).length = 20 := by
  rw [entC, List.length_append, sagaC_len _ _ _ (six_len _ h)]; rfl
def epv (p : Nat × AS) : Value := .pointer (some ⟨p.1, 0, none⟩)
/-- The roll of an engine. -/
structure RollAt (w : World) (R base : Nat) (room : Int) (ev : Value) (es : List (Nat × AS)) : Prop where
  r : w.heap[R]? = some (.cells #[ev, .int .i64 room] 176 (0, 0))
  o : w.ownsRow base 136 1 ev es.length (es.map epv)
  e : ∀ p ∈ es, base ≤ p.1 ∧ w.heap[p.1]? = some (.cells (entC p.2).toArray 140 (0, 0))
/-- The blocks of a roll. -/
def RollF (R : Nat) (ev : Value) (es : List (Nat × AS)) (b : Nat) : Prop := b = R ∨ ev.ownBlock = some b ∨ ∃ p ∈ es, b = p.1
section
variable {w w' : World} {R base : Nat} {room : Int} {ev : Value} {es : List (Nat × AS)}
theorem RollAt.fr {S : Nat → Prop} (h : RollAt w R base room ev es) (hf : Fr S w w') (hS : ∀ b, RollF R ev es b → ¬ S b) : RollAt w' R base room ev es :=
  ⟨hf.keep h.r (hS _ (.inl rfl)), own_fr h.o hf (fun b _ _ hb => hS b (.inr (.inl hb))), fun p hp => ⟨(h.e p hp).1, hf.keep (h.e p hp).2 (hS _ (.inr (.inr ⟨p, hp, rfl⟩)))⟩⟩
theorem RollAt.frz (h : RollAt w R base room ev es) (hf : Fr (fun _ => False) w w') : RollAt w' R base room ev es := h.fr hf (fun _ _ => id)
theorem RollAt.form (h : RollAt w R base room ev es) : ∃ ao cap, ev = .slice ao es.length cap := by
  rcases h.o.2 with ⟨rfl, hn⟩ | ⟨g, cap, cur, rfl, _⟩
  · exact ⟨none, 0, by rw [hn]⟩
  · exact ⟨_, _, rfl⟩
theorem RollAt.c0 (h : RollAt w R base room ev es) : w.cell? ⟨R, 0, none⟩ = some ev := (cell_of_row w R 0 _ _ _ h.r).trans rfl
theorem RollAt.c1 (h : RollAt w R base room ev es) : w.cell? ⟨R, 1, none⟩ = some (.int .i64 room) := (cell_of_row w R 1 _ _ _ h.r).trans rfl
theorem RollAt.fz (h : RollAt w R base room ev es) (j : Nat) : w.frozen? ⟨R, j, none⟩ = false := frozen_of_row w R j _ _ h.r
theorem own_cell {w : World} {base n : Nat} {t : TypeId} {ao : Option Addr} {cap : Nat} {xs : List Value} (h : w.ownsRow base t 1 (.slice ao n cap) n xs) {i : Nat} {v : Value} (hi : xs[i]? = some v) : ∃ g, ao = some ⟨g, 0, none⟩ ∧ w.cell? ⟨g, i, none⟩ = some v := by
  rcases h.2 with ⟨hv, hn⟩ | ⟨g, cap', cur, hv, _, hg, _, _, _, hx⟩
  · have := h.1
    have h2 := (List.getElem?_eq_some_iff.1 hi).1
    omega
  · cases hv
    refine ⟨g, rfl, (cell_of_row w g i _ _ _ hg).trans ?_⟩
    rw [← hx] at hi
    rw [List.getElem?_take] at hi
    split at hi
    · simpa using hi
    · cases hi
theorem RollAt.ent {ao : Option Addr} {cap : Nat} (h : RollAt w R base room (.slice ao es.length cap) es) : EntsAt w ao (es.map fun p => (p.1, p.2.id)) := by
  intro i p hp
  rw [List.getElem?_map] at hp
  obtain ⟨q, hq, rfl⟩ := Option.map_eq_some_iff.1 hp
  obtain ⟨g, e1, e2⟩ := own_cell h.o (i := i) (v := epv q) (by rw [List.getElem?_map, hq]; rfl)
  refine ⟨g, 0, e1, by rw [Nat.zero_add]; exact e2, (cell_of_row w q.1 0 _ _ _ (h.e q (List.mem_of_getElem? hq)).2).trans ?_⟩
  simp [entC, sagaC]
end
section
variable {w : World} {R base : Nat} {room : Int} {ev : Value} {es : List (Nat × AS)}
def idsOf (es : List (Nat × AS)) : List (Nat × Int) := es.map fun p => (p.1, p.2.id)
def Sorted (es : List (Nat × AS)) : Prop := es.Pairwise (fun a b => a.2.id < b.2.id)
theorem sorted_ids (h : Sorted es) : (idsOf es).Pairwise (fun a b => a.2 < b.2) := by
  unfold idsOf; rw [List.pairwise_map]; exact h
set_option maxRecDepth 100000 in
theorem place_ok (h : RollAt w R base room ev es) (hs : Sorted es) (hn : es.length ≤ 100000) (id : Int) : Calls Tryz.prog 99 #[.pointer (some ⟨R, 0, none⟩), .int .i64 id] w fun e w' => SearchQ (idsOf es) id w e w' := by
  have hmf : ∀ (fn : Fn) (first cap : Array Value) (w : World), (Instr.makeFunc fn first cap).run Tryz.prog w = .ok (.func fn first cap) w := fun _ _ _ _ => rfl
  obtain ⟨ao, cap, rfl⟩ := h.form
  have c0 := h.c0
  have HS := Search_ok (cap := cap) (es := idsOf es) h.ent (by simpa [idsOf] using hn) (sorted_ids hs) id
  rw [show (idsOf es).length = es.length by simp [idsOf]] at HS
  go_enter Tryz.func99, Tryz.ntmps99
  go_wp2_with fail
  refine HS.mono ?_
  rintro e w2 ⟨k, t, rfl, hp, hf⟩
  go_wp2
  go_ret2
  exact ⟨k, t, rfl, hp, hf⟩
def FindE (es : List (Nat × AS)) (id : Int) (v : Value) : Prop := (∃ p ∈ es, p.2.id = id ∧ v = epv p) ∨ ((∀ p ∈ es, p.2.id ≠ id) ∧ v = .pointer none)
theorem placed_find (hs : Sorted es) {id : Int} {k : Nat} (hp : Placed (idsOf es) id k false) : ∀ p ∈ es, p.2.id ≠ id := by
  intro p hpe e
  obtain ⟨j, hj, rfl⟩ := List.mem_iff_getElem.1 hpe
  have hj' : (idsOf es)[j]? = some (es[j].1, es[j].2.id) := by simp [idsOf, List.getElem?_eq_getElem hj]
  rcases Nat.lt_trichotomy j k with h | h | h
  · have := hp.2.1 j _ h hj'; simp at this; omega
  · subst h; have := hp.2.2.2.2 ⟨_, hj', e⟩; simp at this
  · have hk : k < (idsOf es).length := by simp [idsOf]; omega
    have h1 := hp.2.2.1 _ (List.getElem?_eq_getElem hk)
    have h2 := List.pairwise_iff_getElem.1 (sorted_ids hs) k j hk (by simp [idsOf]; exact hj) h
    simp [idsOf] at h1 h2
    omega
set_option maxRecDepth 100000 in
theorem rfind_ok (h : RollAt w R base room ev es) (hs : Sorted es) (hn : es.length ≤ 100000) (id : Int) : Calls Tryz.prog 67 #[.pointer (some ⟨R, 0, none⟩), .int .i64 id] w fun e w' => ∃ v, e = .returned v ∧ FindE es id v ∧ Fr (fun _ => False) w w' := by
  go_enter Tryz.func67, Tryz.ntmps67
  go_wp2_with fail
  refine (place_ok h hs hn id).mono ?_
  rintro e w2 ⟨k, t, rfl, hp, hf⟩
  have h2 := h.frz hf
  have c0 := h2.c0
  cases t
  · go_wp2
    go_ret
    exact ⟨_, rfl, .inr ⟨placed_find hs hp, rfl⟩, hf⟩
  · obtain ⟨q, hq, hid⟩ := hp.2.2.2.1 rfl
    rw [idsOf, List.getElem?_map] at hq
    obtain ⟨p, hpk, rfl⟩ := Option.map_eq_some_iff.1 hq
    obtain ⟨ao, cap, rfl⟩ := h.form
    obtain ⟨g, rfl, hc⟩ := own_cell h2.o (i := k) (v := epv p) (by rw [List.getElem?_map, hpk]; rfl)
    have hkl : k < es.length := (List.getElem?_eq_some_iff.1 hpk).1
    have hkl' : (k : Int) < es.length := by omega
    unfold epv at hc
    go_wp2
    go_ret
    exact ⟨_, rfl, .inl ⟨p, List.mem_of_getElem? hpk, hid, rfl⟩, hf⟩
end
end Go.Proofs.YteebjgfalllbjaaGreatDoor
