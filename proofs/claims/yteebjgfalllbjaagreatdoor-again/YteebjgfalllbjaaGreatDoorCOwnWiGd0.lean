import Derived.Test.YteebjgfalllbjaaGreatDoorCLmLnLp
import Derived.Laws.AppendOwnNone
namespace Go.Proofs.YteebjgfalllbjaaGreatDoor
open Go.RowKit

/-- How many blocks a number asks for. -/
def nblk (a : Int) : Nat := if a < 0 then 0 else (a % 1000).toNat
theorem nblk_lt (a : Int) : nblk a < 1000 := by unfold nblk; split <;> omega
theorem arr_info : (Tryz.prog.info? 97).map (fun i => (i.zero, i.size, i.bytes)) = some (some (.agg z128), 128, 128) := by kernel_rfl
theorem made_get (n j : Nat) (h : j < n) : (madeCells z128 n)[j]? = some (.int .u8 0) := by
  have hm : j % 128 < 128 := Nat.mod_lt _ (by decide)
  have hz : z128[j % 128]! = .int .u8 0 := by
    rw [getElem!_pos z128 (j % 128) (by rw [z128_size]; exact hm)]; simp [z128]
  simp [madeCells, h, z128_size, hz]
theorem made_bs (n : Nat) : (madeCells z128 n).toList = List.replicate n (.int .u8 0) := by
  apply List.ext_getElem?
  intro i
  by_cases h : i < n
  · rw [List.getElem?_replicate, if_pos h, Array.getElem?_toList]; exact made_get n i h
  · rw [List.getElem?_replicate, if_neg h, List.getElem?_eq_none (by rw [Array.length_toList, size_madeCells]; omega)]
/-- A row that owns all it has is known whole. -/
theorem own_whole {w : World} {base e size g n : Nat} {xs : List Value} (h : w.ownsRow base e size (.slice (some ⟨g, 0, none⟩) n n) n xs) : w.heap[g]? = some (.cells xs.toArray e (0, 0)) := by
  rcases h.2 with ⟨hv, _⟩ | ⟨g', cap, cur, hv, hb, hg, _, _, hc, ht⟩
  · cases hv
  · simp only [Value.slice.injEq, Option.some.injEq, Addr.mk.injEq, and_true, true_and] at hv
    obtain ⟨rfl, rfl⟩ := hv
    rw [hg]
    have : cur = xs.toArray := by rw [← ht, List.take_of_length_le (by simp; omega)]
    rw [this]
def NewDiskPost (w : World) (a : Int) (e : Ending) (w' : World) : Prop := ∃ A B, e = .returned (.pointer (some ⟨A, 0, none⟩)) ∧ w.heap.size ≤ A ∧ w.heap.size ≤ B ∧
    DiskAt w' A B (nblk a) (.slice none 0 0) 0 0 ∧ RowsAt w' B (nblk a) (List.replicate (nblk a * 128) (.int .u8 0)) ∧ Fr (fun _ => False) w w'
set_option maxRecDepth 100000 in
set_option maxHeartbeats 1000000 in
theorem NewDisk_ok (a : Int) (w : World) : Calls Tryz.prog 39 #[.int .i64 a] w fun e w' => NewDiskPost w a e w' := by
  have hl := nblk_lt a
  obtain ⟨i0, hi, hz0, hz1, hz2⟩ := info_parts arr_info
  have key : ∀ w1 : World, w1.ownsRow w.heap.size 97 128 (.slice (some ⟨w.heap.size, 0, none⟩) (nblk a) (nblk a)) (nblk a) (madeCells z128 (nblk a * 128)).toList → w.grownBy w1 none →
      w.heap.size ≤ w1.heap.size ∧ DiskAt (w1.alloc (.cells (dcells w.heap.size (nblk a) (.slice none 0 0) 0 0) 96)) w1.heap.size w.heap.size (nblk a) (.slice none 0 0) 0 0 ∧ RowsAt (w1.alloc (.cells (dcells w.heap.size (nblk a) (.slice none 0 0) 0 0) 96)) w.heap.size (nblk a) (List.replicate (nblk a * 128) (.int .u8 0)) ∧ Fr (fun _ => False) w (w1.alloc (.cells (dcells w.heap.size (nblk a) (.slice none 0 0) 0 0) 96)) := by
    intro w1 ho hg
    have hw := own_whole ho
    rw [made_bs] at hw
    have hlt := lt_of_heap hw
    refine ⟨hg.size, heap_alloc_at _ _, ⟨by rw [heap_alloc_lt _ _ _ hlt]; exact hw, by simp, fun v hv => by rw [List.mem_replicate] at hv; rw [hv.2]; rfl⟩, ((Fr.refl _ _).grown hg (fun _ _ h => by cases h)).alloc _⟩
  have HK := key
  clear key
  by_cases h : a < 0
  · have e0 : nblk a = 0 := by simp [nblk, h]
    have E0 : Hid (nblk a = 0) := e0
    clear e0
    go_enter Tryz.func39, Tryz.ntmps39
    go_wp2_with (first | (at_make; refine wpList_make_full w rfl (.tmp 6) (.tmp 6) 93 rfl w.heap.size 97 i0 (.agg z128) 128 Tryz.underlying93 hi hz0 hz1 .i64 .i64 0 0 0 rfl rfl rfl rfl ?_ ?_ ?_ ?_; (rw [hz2]; decide); (unfold maxLen; decide); exact Nat.le_refl _; intro w1 ho hg))
    go_ret
    unfold NewDiskPost
    rw [show ((nblk a : Nat)) = 0 from E0.out] at HK ⊢
    obtain ⟨k1, k2, k3, k4⟩ := HK w1 ho hg
    exact ⟨_, _, rfl, k1, Nat.le_refl _, k2, k3, k4⟩
  · have e0 : a % 1000 = ((nblk a : Nat) : Int) := by simp [nblk, h]; omega
    have E0 : Hid (a % 1000 = ((nblk a : Nat) : Int)) := e0
    clear e0
    go_enter Tryz.func39, Tryz.ntmps39
    go_wp2_with (first | (at_make; refine wpList_make_full w rfl (.tmp 6) (.tmp 6) 93 rfl w.heap.size 97 i0 (.agg z128) 128 Tryz.underlying93 hi hz0 hz1 .i64 .i64 (a % 1000) (a % 1000) (nblk a) rfl rfl E0.out E0.out ?_ ?_ ?_ ?_; (rw [hz2]; omega); (unfold maxLen; omega); exact Nat.le_refl _; intro w1 ho hg))
    go_ret
    obtain ⟨k1, k2, k3, k4⟩ := HK w1 ho hg
    exact ⟨_, _, rfl, k1, Nat.le_refl _, k2, k3, k4⟩

/-- The numbers that a partner replies by are copied. -/
theorem int_info : (Tryz.prog.info? 3).map (fun i => (i.zero, i.size, i.bytes)) = some (some (.int .i64 0), 1, 8) := by kernel_rfl
end Go.Proofs.YteebjgfalllbjaaGreatDoor
namespace Go.Proofs.YteebjgfalllbjaaGreatDoor
open Go.RowKit

theorem own_fr {S : Nat → Prop} {w w' : World} {base e size n : Nat} {v : Value} {xs : List Value} (h : w.ownsRow base e size v n xs) (hf : Fr S w w') (hS : ∀ b c, w.heap[b]? = some (.cells c e (0, 0)) → v.ownBlock = some b → ¬ S b) : w'.ownsRow base e size v n xs := by
  refine ⟨h.1, ?_⟩
  rcases h.2 with hn | ⟨g, cap, cur, rfl, hb, hg, rest⟩
  · exact .inl hn
  · exact .inr ⟨g, cap, cur, rfl, hb, hf.keep hg (hS g cur hg rfl), rest⟩

/-- The script's world: its five lists. -/
structure WI (w : World) (b0 W0 : Nat) (kv rv sv dv fv : Value) (k r st m : Nat) (kxs rxs sxs : List Value) (ds : List Nat) (fxs : List Value) : Prop where
  hw : w.heap[W0]? = some (.cells #[kv, rv, sv, dv, fv] 80 (0, 0))
  hk : w.ownsRow b0 3 1 kv k kxs
  hr : w.ownsRow b0 3 1 rv r rxs
  hs : w.ownsRow b0 165 2 sv st sxs
  hd : w.ownsRow b0 105 1 dv m (ds.map fun D => Value.pointer (some ⟨D, 0, none⟩))
  hf : w.ownsRow b0 4 1 fv m fxs
  ne : ∀ b, kv.ownBlock = some b → rv.ownBlock ≠ some b
  ro : ∀ v ∈ rxs, v.oneCell' = true
  so : ∀ v ∈ sxs, v.oneCell' = true
  w0 : b0 ≤ W0
section
variable {w w' : World} {b0 W0 : Nat} {kv rv sv dv fv : Value} {k r st m : Nat} {kxs rxs sxs : List Value} {ds : List Nat} {fxs : List Value}
end

/-- A disk of the script: where its parts lie, how many blocks it has, may there be no journal; its engine, what the document says of its sagas; which blocks are the engine's. -/
structure DR where
  D : Nat
  A : Nat
  B : Nat
  Pp : Nat
  n : Nat
  nn : Bool
  x : Option Addr
  pause : Int
  clock : Int
  Lv : Value
  L : List RS
  F : Nat → Prop
  fl : Bool
/-- A saga as it stands, wherever it lies. -/
structure AS where
  id : Int
  st : List SS
  S : SP
  tries : Int
  due : Int
def RS.a (r : RS) : AS := ⟨r.id, r.st, r.S, r.tries, r.due⟩
/-- A device, its partner, its engine, how the sagas stand; which blocks are the engine's. -/
structure DK where
  A : Nat
  B : Nat
  Pp : Nat
  n : Nat
  nn : Bool
  x : Option Addr
  pause : Int
  clock : Int
  L : List AS
  F : Nat → Prop
  fl : Bool
def DR.k (q : DR) : DK := ⟨q.A, q.B, q.Pp, q.n, q.nn, q.x, q.pause, q.clock, q.L.map RS.a, q.F, q.fl⟩
/-- No block of the script, of its disks, of what was handed in. -/
def EngT (t : TypeId) : Prop := t ≠ 80 ∧ t ≠ 165 ∧ t ≠ 105 ∧ t ≠ 4 ∧ t ≠ 111 ∧ t ≠ 96 ∧ t ≠ 97 ∧ t ≠ 48 ∧ t ≠ 223 ∧ t ≠ 220 ∧ t ≠ 58 ∧ t ≠ 119 ∧ t ≠ 74
/-- The numbers by which a partner replies. -/
def RlOk (rl : List Int) : Prop := rl.length ≤ 100000 ∧ ∀ z ∈ rl, -9223372036854775808 ≤ z ∧ z ≤ 9223372036854775807
/-- What is known of a program: how its journal, its engine and its partner lie. -/
structure Prg where
  Dev : World → Nat → DK → List Value → Prop
  fr : ∀ {S : Nat → Prop} {w w' : World} {s : Nat} {q : DK} {bs : List Value}, Dev w s q bs → Fr S w w' → ¬ S q.A → ¬ S q.B → ¬ S q.Pp → (∀ b, q.F b → ¬ S b) → Dev w' s q bs
  mono : ∀ {w : World} {s s' : Nat} {q : DK} {bs : List Value}, Dev w s q bs → s ≤ s' → Dev w s' q bs
  new : ∀ {w : World} {A B Pp n s b1 : Nat} {F : Nat → Prop} {lv : Value} {rl : List Int}, w.heap[Pp]? = some (.cells #[.slice none 0 0, .slice none 0 0, lv, .int .i64 0] 48 (0, 0)) → w.ownsRow b1 3 1 lv rl.length (rl.map fun x => Value.int .i64 x) → b1 ≤ w.heap.size → RlOk rl → (∀ b, lv.ownBlock = some b → F b) → Dev w s ⟨A, B, Pp, n, true, none, 0, 0, [], F, false⟩ (List.replicate (n * 128) (.int .u8 0))
/-- A device at rest, behind s steps. -/
def DevI (G : Prg) (w : World) (s : Nat) (k : DK) : Prop := ∃ calls writes bs, DiskAt w k.A k.B k.n (.slice none 0 0) calls writes ∧ RowsAt w k.B k.n bs ∧ 0 ≤ calls ∧ calls ≤ 1000 * (s : Int) ∧ 0 ≤ writes ∧ writes ≤ 1000 * (s : Int) ∧ G.Dev w s k bs
variable {G : Prg}
/-- .. and what is known of it behind s steps. -/
structure DI (G : Prg) (w : World) (b0 s : Nat) (q : DR) : Prop where
  l : LawAt w q.D q.A q.Pp q.n q.nn (.pointer q.x) q.pause q.clock q.Lv
  p : ∃ lo lm lcap pe pl pa, w.heap[q.Pp]? = some (.cells #[.slice lo lm lcap, pe, pl, pa] 48 (0, 0))
  d : DevI G w s q.k
  a : LAt w b0 q.Lv q.L
  ln : q.L.length ≤ s
  ls : ∀ r ∈ q.L, r.S.1 ≠ 0 ∧ sagaOk r.id r.st = true
  lo : q.L.Pairwise (fun a b => a.id < b.id)
  f : ∀ b, q.F b → b0 ≤ b ∧ ∃ c t, w.heap[b]? = some (.cells c t (0, 0)) ∧ EngT t
  b : b0 ≤ q.D ∧ b0 ≤ q.A ∧ b0 ≤ q.B ∧ b0 ≤ q.Pp
  n : q.n < 1000
def Apart (p q : DR) : Prop := p.D ≠ q.D ∧ p.A ≠ q.A ∧ p.B ≠ q.B ∧ p.Pp ≠ q.Pp ∧ (∀ b, p.F b → ¬ q.F b) ∧ ∀ b, p.Lv.ownBlock = some b → q.Lv.ownBlock ≠ some b
/-- What else is known of the script's lists. -/
structure PwX (kv rv : Value) (rxs fxs : List Value) (qs : List DR) (fs : List Bool) : Prop where
  pw : qs.Pairwise Apart
  fx : fxs = fs.map Value.bool
  rx : ∃ rl : List Int, rxs = rl.map (fun x => Value.int .i64 x) ∧ RlOk rl
  kr : ∀ q ∈ qs, ∀ b, q.F b → kv.ownBlock ≠ some b ∧ rv.ownBlock ≠ some b
/-- The script's world behind s steps; which engines' partners fail. -/
def InvF (G : Prg) (w : World) (b0 W0 s : Nat) (qs : List DR) (fs : List Bool) : Prop := ∃ kv rv sv dv fv k r st kxs rxs sts fxs,
  WI w b0 W0 kv rv sv dv fv k r st qs.length kxs rxs (scells sts) (qs.map DR.D) fxs ∧ sts.length = st ∧ k ≤ s ∧ r ≤ s ∧ st ≤ s ∧ qs.length ≤ s ∧ (∀ q ∈ qs, DI G w b0 s q) ∧ PwX kv rv rxs fxs qs fs
def Inv (G : Prg) (w : World) (b0 W0 s : Nat) (qs : List DR) : Prop := InvF G w b0 W0 s qs (qs.map DR.fl)
theorem frz_below {w w' : World} {b0 : Nat} (hf : Fr (fun _ => False) w w') (hb : b0 ≤ w.heap.size) : Below b0 w w' := hf.below hb (fun _ h => h.elim)

end Go.Proofs.YteebjgfalllbjaaGreatDoor
namespace Go.Proofs.YteebjgfalllbjaaGreatDoor
open Go.RowKit

def AS.zero (a : AS) : AS := ⟨a.id, a.st, a.S, 0, 0⟩
def AS.told (a : AS) : ST := ⟨a.id, a.S.1, a.S.2, a.st.length, a.tries, a.due⟩
def DK.with (k : DK) (L : List AS) (F : Nat → Prop) : DK := ⟨k.A, k.B, k.Pp, k.n, k.nn, k.x, k.pause, k.clock, L, F, k.fl⟩
/-- A saga more. -/
def insA (a : AS) (L : List AS) : List AS := L.takeWhile (fun b => decide (b.id < a.id)) ++ a :: L.dropWhile (fun b => decide (b.id < a.id))
def StatA (L : List AS) (id : Int) (w : World) (e : Ending) (w' : World) : Prop := ∃ s v, e = .returned (.tuple #[.agg s.cs.toArray, v]) ∧ Fr (fun _ => False) w w' ∧ ((∃ a ∈ L, a.id = id ∧ s = a.told ∧ ErrAt w' v 0) ∨ ((∀ a ∈ L, a.id ≠ id) ∧ s = zST ∧ ErrAt w' v 9))
end Go.Proofs.YteebjgfalllbjaaGreatDoor
