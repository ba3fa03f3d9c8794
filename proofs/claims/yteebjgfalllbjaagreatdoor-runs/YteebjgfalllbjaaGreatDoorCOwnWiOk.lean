import Derived.Test.YteebjgfalllbjaaGreatDoorCLpLqLr
import Derived.Laws.AppendOwnNone
namespace Go.Proofs.YteebjgfalllbjaaGreatDoor
open Go.RowKit

theorem pick_ok (c n : Int) (w : World) (h1 : -9223372036854775808 ≤ c) (h2 : c ≤ 9223372036854775807) (hn : 0 < n) (hn2 : n ≤ 1000000) :
    Calls Tryz.prog 50 #[.int .i64 c, .int .i64 n] w fun e w' => (∃ r : Int, e = .returned (.int .i64 r) ∧ 0 ≤ r ∧ r < n) ∧ w' = w := by
  have hn0 : ¬ n = 0 := by omega
  by_cases hc : c < 0
  · have ht : 0 ≤ (-(c + 1)).tmod n ∧ (-(c + 1)).tmod n < n := ⟨Int.tmod_nonneg n (by omega), Int.tmod_lt_of_pos _ hn⟩
    have HT : Hid (0 ≤ (-(c + 1)).tmod n ∧ (-(c + 1)).tmod n < n) := ht
    clear ht
    go_enter Tryz.func50, Tryz.ntmps50
    go_wp2
    go_ret
    refine ⟨⟨-(c + 1).tmod n, rfl, ?_⟩, rfl⟩
    have := HT.out
    rw [Int.neg_tmod] at this
    exact this
  · have ht : 0 ≤ c % n ∧ c % n < n := ⟨Int.emod_nonneg _ hn0, Int.emod_lt_of_pos _ hn⟩
    go_enter Tryz.func50, Tryz.ntmps50
    go_wp2
    go_ret
    exact ⟨⟨c % n, rfl, ht⟩, rfl⟩
theorem near_ok (c : Int) (w : World) (h1 : -9223372036854775808 ≤ c) (h2 : c ≤ 9223372036854775807) :
    Calls Tryz.prog 51 #[.int .i64 c] w fun e w' => (∃ r : Int, e = .returned (.int .i64 r)) ∧ w' = w := by
  go_enter Tryz.func51, Tryz.ntmps51
  go_wp2_with fail
  refine (pick_ok c 600 w h1 h2 (by decide) (by decide)).mono ?_
  rintro e w' ⟨⟨r, rfl, _, _⟩, rfl⟩
  go_wp2
  go_ret
  exact ⟨⟨r, rfl⟩, rfl⟩
/-- How many blocks a number asks for. -/
def nblk (a : Int) : Nat := if a < 0 then 0 else (a % 1000).toNat
theorem nblk_lt (a : Int) : nblk a < 1000 := by unfold nblk; split <;> omega
theorem blocks_ok (a : Int) (w : World) : Calls Tryz.prog 79 #[.int .i64 a] w fun e w' => e = .returned (.int .i64 (nblk a)) ∧ w' = w := by
  by_cases h : a < 0
  · have e0 : nblk a = 0 := by simp [nblk, h]
    rw [e0]
    clear e0
    go_enter Tryz.func79, Tryz.ntmps79
    go_wp2
    go_ret
    exact ⟨rfl, rfl⟩
  · have e0 : ((nblk a : Nat) : Int) = a % 1000 := by simp [nblk, h]; omega
    rw [e0]
    clear e0
    go_enter Tryz.func79, Tryz.ntmps79
    go_wp2
    go_ret
    exact ⟨rfl, rfl⟩
theorem arr_info : (Tryz.prog.info? 97).map (fun i => (i.zero, i.size, i.bytes)) = some (some (.agg z128), 128, 128) := by kernel_rfl
theorem made_get (n j : Nat) (h : j < n) : (madeCells z128 n)[j]? = some (.int .u8 0) := by
  have hm : j % 128 < 128 := Nat.mod_lt _ (by decide)
  have hz : z128[j % 128]! = .int .u8 0 := by
    rw [getElem!_pos z128 (j % 128) (by rw [z128_size]; exact hm)]; simp [z128]
  simp [madeCells, h, z128_size, hz]
theorem made_bs (n : Nat) : (madeCells z128 n).toList = List.replicate n (.int .u8 0) := by
  apply List.ext_getElem?
  intro i
  by_cases h : i < n
  · rw [List.getElem?_replicate, if_pos h, Array.getElem?_toList]; exact made_get n i h
  · rw [List.getElem?_replicate, if_neg h, List.getElem?_eq_none (by rw [Array.length_toList, size_madeCells]; omega)]
/-- A row that owns all it has is known whole. -/
theorem own_whole {w : World} {base e size g n : Nat} {xs : List Value} (h : w.ownsRow base e size (.slice (some ⟨g, 0, none⟩) n n) n xs) : w.heap[g]? = some (.cells xs.toArray e (0, 0)) := by
  rcases h.2 with ⟨hv, _⟩ | ⟨g', cap, cur, hv, hb, hg, _, _, hc, ht⟩
  · cases hv
  · simp only [Value.slice.injEq, Option.some.injEq, Addr.mk.injEq, and_true, true_and] at hv
    obtain ⟨rfl, rfl⟩ := hv
    rw [hg]
    have : cur = xs.toArray := by rw [← ht, List.take_of_length_le (by simp; omega)]
    rw [this]
def NewDiskPost (w : World) (a : Int) (e : Ending) (w' : World) : Prop := ∃ A B, e = .returned (.pointer (some ⟨A, 0, none⟩)) ∧ w.heap.size ≤ A ∧ w.heap.size ≤ B ∧
    DiskAt w' A B (nblk a) (.slice none 0 0) 0 0 ∧ RowsAt w' B (nblk a) (List.replicate (nblk a * 128) (.int .u8 0)) ∧ Fr (fun _ => False) w w'
set_option maxRecDepth 100000 in
set_option maxHeartbeats 1000000 in
theorem NewDisk_ok (a : Int) (w : World) : Calls Tryz.prog 39 #[.int .i64 a] w fun e w' => NewDiskPost w a e w' := by
  have hl := nblk_lt a
  obtain ⟨i0, hi, hz0, hz1, hz2⟩ := info_parts arr_info
  have key : ∀ w1 : World, w1.ownsRow w.heap.size 97 128 (.slice (some ⟨w.heap.size, 0, none⟩) (nblk a) (nblk a)) (nblk a) (madeCells z128 (nblk a * 128)).toList → w.grownBy w1 none →
      w.heap.size ≤ w1.heap.size ∧ DiskAt (w1.alloc (.cells (dcells w.heap.size (nblk a) (.slice none 0 0) 0 0) 96)) w1.heap.size w.heap.size (nblk a) (.slice none 0 0) 0 0 ∧ RowsAt (w1.alloc (.cells (dcells w.heap.size (nblk a) (.slice none 0 0) 0 0) 96)) w.heap.size (nblk a) (List.replicate (nblk a * 128) (.int .u8 0)) ∧ Fr (fun _ => False) w (w1.alloc (.cells (dcells w.heap.size (nblk a) (.slice none 0 0) 0 0) 96)) := by
    intro w1 ho hg
    have hw := own_whole ho
    rw [made_bs] at hw
    have hlt := lt_of_heap hw
    refine ⟨hg.size, heap_alloc_at _ _, ⟨by rw [heap_alloc_lt _ _ _ hlt]; exact hw, by simp, fun v hv => by rw [List.mem_replicate] at hv; rw [hv.2]; rfl⟩, ((Fr.refl _ _).grown hg (fun _ _ h => by cases h)).alloc _⟩
  have HK := key
  clear key
  by_cases h : a < 0
  · have e0 : nblk a = 0 := by simp [nblk, h]
    have E0 : Hid (nblk a = 0) := e0
    clear e0
    go_enter Tryz.func39, Tryz.ntmps39
    go_wp2_with (first | (at_make; refine wpList_make_full w rfl (.tmp 6) (.tmp 6) 93 rfl w.heap.size 97 i0 (.agg z128) 128 Tryz.underlying93 hi hz0 hz1 .i64 .i64 0 0 0 rfl rfl rfl rfl ?_ ?_ ?_ ?_; (rw [hz2]; decide); (unfold maxLen; decide); exact Nat.le_refl _; intro w1 ho hg))
    go_ret
    unfold NewDiskPost
    rw [show ((nblk a : Nat)) = 0 from E0.out] at HK ⊢
    obtain ⟨k1, k2, k3, k4⟩ := HK w1 ho hg
    exact ⟨_, _, rfl, k1, Nat.le_refl _, k2, k3, k4⟩
  · have e0 : a % 1000 = ((nblk a : Nat) : Int) := by simp [nblk, h]; omega
    have E0 : Hid (a % 1000 = ((nblk a : Nat) : Int)) := e0
    clear e0
    go_enter Tryz.func39, Tryz.ntmps39
    go_wp2_with (first | (at_make; refine wpList_make_full w rfl (.tmp 6) (.tmp 6) 93 rfl w.heap.size 97 i0 (.agg z128) 128 Tryz.underlying93 hi hz0 hz1 .i64 .i64 (a % 1000) (a % 1000) (nblk a) rfl rfl E0.out E0.out ?_ ?_ ?_ ?_; (rw [hz2]; omega); (unfold maxLen; omega); exact Nat.le_refl _; intro w1 ho hg))
    go_ret
    obtain ⟨k1, k2, k3, k4⟩ := HK w1 ho hg
    exact ⟨_, _, rfl, k1, Nat.le_refl _, k2, k3, k4⟩

/-- The numbers that a partner replies by are copied. -/
theorem int_info : (Tryz.prog.info? 3).map (fun i => (i.zero, i.size, i.bytes)) = some (some (.int .i64 0), 1, 8) := by kernel_rfl
def NewPartPost (w : World) (r : Nat) (rxs : List Value) (e : Ending) (w' : World) : Prop := ∃ Pp lv, e = .returned (.pointer (some ⟨Pp, 0, none⟩)) ∧ w.heap.size ≤ Pp ∧ PartAt w' Pp lv ∧ w'.ownsRow w.heap.size 3 1 lv r rxs ∧ Fr (fun _ => False) w w'
set_option maxRecDepth 100000 in
set_option maxHeartbeats 1000000 in
theorem NewPartner_ok {w : World} {b0 r : Nat} {rv : Value} {rxs : List Value} (ho : w.ownsRow b0 3 1 rv r rxs) (h1 : ∀ v ∈ rxs, v.oneCell' = true) (hr : r < 1000000) :
    Calls Tryz.prog 18 #[rv] w fun e w' => NewPartPost w r rxs e w' := by
  obtain ⟨i0, hi, hz0, hz1, hz2⟩ := info_parts int_info
  rcases ho.2 with ⟨rfl, rfl⟩ | ⟨g, cap, cur, rfl, hb, hg, hnc, hcm, hcs, ht⟩
  · go_enter Tryz.func18, Tryz.ntmps18
    go_wp2
    go_ret
    have hx0 : rxs = [] := List.eq_nil_of_length_eq_zero (by simpa using ho.1)
    subst hx0
    exact ⟨_, _, rfl, Nat.le_refl _, heap_alloc_at _ _, World.ownsRow_nil _ _ _ _, (Fr.refl _ _).alloc _⟩
  · have hc := ho.cells (g := g) rfl
    go_enter Tryz.func18, Tryz.ntmps18
    go_wp2_with (first | (at_builtin; refine wpList_append_own w rfl (.const (.slice none 0 0)) (.tmp 3) 24 rfl w.heap.size 3 i0 (.int .i64 0) 1 8 Tryz.underlying24 hi hz0 hz1 hz2 rfl (by decide) (.slice none 0 0) 0 [] rfl (World.ownsRow_nil _ _ _ _) ⟨g, 0, none⟩ r cap rxs rfl ?_ hc h1 ?_ ?_ ?_ ?_; (have := ho.1; omega); (unfold maxLen; omega); omega; exact Nat.le_refl _; intro v' w1 hown' hgrow _; obtain ⟨ao, nn, cc, rfl⟩ : ∃ ao nn cc, v' = .slice ao nn cc := by (rcases hown'.2 with ⟨rfl, _⟩ | ⟨_, _, _, rfl, _⟩ <;> exact ⟨_, _, _, rfl⟩)))
    go_ret
    have hown2 : w1.ownsRow w.heap.size 3 1 (.slice ao nn cc) r rxs := by simpa using hown'
    exact ⟨_, _, rfl, hgrow.size, heap_alloc_at _ _, hown2.alloc _, ((Fr.refl _ _).grown hgrow (fun _ _ h => by cases h)).alloc _⟩
end Go.Proofs.YteebjgfalllbjaaGreatDoor
namespace Go.Proofs.YteebjgfalllbjaaGreatDoor
open Go.RowKit

theorem own_fr {S : Nat → Prop} {w w' : World} {base e size n : Nat} {v : Value} {xs : List Value} (h : w.ownsRow base e size v n xs) (hf : Fr S w w') (hS : ∀ b c, w.heap[b]? = some (.cells c e (0, 0)) → v.ownBlock = some b → ¬ S b) : w'.ownsRow base e size v n xs := by
  refine ⟨h.1, ?_⟩
  rcases h.2 with hn | ⟨g, cap, cur, rfl, hb, hg, rest⟩
  · exact .inl hn
  · exact .inr ⟨g, cap, cur, rfl, hb, hf.keep hg (hS g cur hg rfl), rest⟩

theorem own_tyS {w : World} {base e size n : Nat} {v : Value} {xs : List Value} (h : w.ownsRow base e size v n xs) {b : Nat} (hb : v.ownBlock = some b) : ∃ cs, w.heap[b]? = some (.cells cs e (0, 0)) := by
  rcases h.2 with ⟨rfl, _⟩ | ⟨g, cap, cur, rfl, _, hg, _⟩
  · cases hb
  · simp only [Value.ownBlock, Option.some.injEq] at hb
    subst hb
    exact ⟨cur, hg⟩
/-- The script's world: its five lists. -/
structure WI (w : World) (b0 W0 : Nat) (kv rv sv dv fv : Value) (k r st m : Nat) (kxs rxs sxs : List Value) (ds : List Nat) (fxs : List Value) : Prop where
  hw : w.heap[W0]? = some (.cells #[kv, rv, sv, dv, fv] 80 (0, 0))
  hk : w.ownsRow b0 3 1 kv k kxs
  hr : w.ownsRow b0 3 1 rv r rxs
  hs : w.ownsRow b0 165 2 sv st sxs
  hd : w.ownsRow b0 105 1 dv m (ds.map fun D => Value.pointer (some ⟨D, 0, none⟩))
  hf : w.ownsRow b0 4 1 fv m fxs
  ne : ∀ b, kv.ownBlock = some b → rv.ownBlock ≠ some b
  ro : ∀ v ∈ rxs, v.oneCell' = true
  so : ∀ v ∈ sxs, v.oneCell' = true
  w0 : b0 ≤ W0
section
variable {w w' : World} {b0 W0 : Nat} {kv rv sv dv fv : Value} {k r st m : Nat} {kxs rxs sxs : List Value} {ds : List Nat} {fxs : List Value}
theorem WI.c0 (h : WI w b0 W0 kv rv sv dv fv k r st m kxs rxs sxs ds fxs) : w.cell? ⟨W0, 0, none⟩ = some kv := by rw [cell_of_row w W0 0 _ _ _ h.hw]; rfl
theorem WI.c1 (h : WI w b0 W0 kv rv sv dv fv k r st m kxs rxs sxs ds fxs) : w.cell? ⟨W0, 1, none⟩ = some rv := by rw [cell_of_row w W0 1 _ _ _ h.hw]; rfl
theorem WI.c2 (h : WI w b0 W0 kv rv sv dv fv k r st m kxs rxs sxs ds fxs) : w.cell? ⟨W0, 2, none⟩ = some sv := by rw [cell_of_row w W0 2 _ _ _ h.hw]; rfl
theorem WI.c3 (h : WI w b0 W0 kv rv sv dv fv k r st m kxs rxs sxs ds fxs) : w.cell? ⟨W0, 3, none⟩ = some dv := by rw [cell_of_row w W0 3 _ _ _ h.hw]; rfl
theorem WI.c4 (h : WI w b0 W0 kv rv sv dv fv k r st m kxs rxs sxs ds fxs) : w.cell? ⟨W0, 4, none⟩ = some fv := by rw [cell_of_row w W0 4 _ _ _ h.hw]; rfl
theorem WI.fz (h : WI w b0 W0 kv rv sv dv fv k r st m kxs rxs sxs ds fxs) (j : Nat) : w.frozen? ⟨W0, j, none⟩ = false := frozen_of_row w W0 j _ _ h.hw
/-- The world stands as it was where none of its blocks is among those that turned. -/
theorem WI.fr {S : Nat → Prop} (h : WI w b0 W0 kv rv sv dv fv k r st m kxs rxs sxs ds fxs) (hf : Fr S w w')
    (hS : ∀ b c t, w.heap[b]? = some (.cells c t (0, 0)) → t = 80 ∨ t = 165 ∨ t = 105 ∨ t = 4 → ¬ S b) (hI : ∀ b, kv.ownBlock = some b ∨ rv.ownBlock = some b → ¬ S b) : WI w' b0 W0 kv rv sv dv fv k r st m kxs rxs sxs ds fxs :=
  ⟨hf.keep h.hw (hS _ _ _ h.hw (by simp)), own_fr h.hk hf (fun b c hb ho => hI b (.inl ho)), own_fr h.hr hf (fun b c hb ho => hI b (.inr ho)), own_fr h.hs hf (fun b c hb _ => hS _ _ _ hb (by simp)), own_fr h.hd hf (fun b c hb _ => hS _ _ _ hb (by simp)), own_fr h.hf hf (fun b c hb _ => hS _ _ _ hb (by simp)), h.ne, h.ro, h.so, h.w0⟩
theorem WI.frz (h : WI w b0 W0 kv rv sv dv fv k r st m kxs rxs sxs ds fxs) (hf : Fr (fun _ => False) w w') : WI w' b0 W0 kv rv sv dv fv k r st m kxs rxs sxs ds fxs := h.fr hf (fun _ _ _ _ _ => id) (fun _ _ => id)
end

/-- A disk of the script: where its parts lie, how many blocks it has, may there be no journal; its engine, what the document says of its sagas; which blocks are the engine's. -/
structure DR where
  D : Nat
  A : Nat
  B : Nat
  Pp : Nat
  n : Nat
  nn : Bool
  x : Option Addr
  pause : Int
  clock : Int
  Lv : Value
  L : List RS
  F : Nat → Prop
  fl : Bool
/-- A saga as it stands, wherever it lies. -/
structure AS where
  id : Int
  st : List SS
  S : SP
  tries : Int
  due : Int
def RS.a (r : RS) : AS := ⟨r.id, r.st, r.S, r.tries, r.due⟩
/-- A device, its partner, its engine, how the sagas stand; which blocks are the engine's. -/
structure DK where
  A : Nat
  B : Nat
  Pp : Nat
  n : Nat
  nn : Bool
  x : Option Addr
  pause : Int
  clock : Int
  L : List AS
  F : Nat → Prop
  fl : Bool
def DR.k (q : DR) : DK := ⟨q.A, q.B, q.Pp, q.n, q.nn, q.x, q.pause, q.clock, q.L.map RS.a, q.F, q.fl⟩
/-- No block of the script, of its disks, of what was handed in. -/
def EngT (t : TypeId) : Prop := t ≠ 80 ∧ t ≠ 165 ∧ t ≠ 105 ∧ t ≠ 4 ∧ t ≠ 111 ∧ t ≠ 96 ∧ t ≠ 97 ∧ t ≠ 48 ∧ t ≠ 223 ∧ t ≠ 220 ∧ t ≠ 58 ∧ t ≠ 119 ∧ t ≠ 74
/-- The types of what else is known of a disk. -/
def Rest (q : DR) (t : TypeId) (b : Nat) : Prop := (t = 48 ∧ b = q.Pp) ∨ (t = 223 ∧ q.Lv.ownBlock = some b) ∨ t = 165 ∨ t = 220 ∨ (q.F b ∧ EngT t)
theorem Rest.ne {q : DR} {t : TypeId} {b : Nat} (h : Rest q t b) : t ≠ 80 ∧ (t = 3 → q.F b) ∧ t ≠ 105 ∧ t ≠ 4 ∧ t ≠ 111 ∧ t ≠ 96 ∧ t ≠ 97 ∧ t ≠ 74 := by
  rcases h with ⟨rfl, _⟩ | ⟨rfl, _⟩ | rfl | rfl | ⟨hF, h⟩
  · refine ⟨?_, fun e => absurd e ?_, ?_⟩ <;> decide
  · refine ⟨?_, fun e => absurd e ?_, ?_⟩ <;> decide
  · refine ⟨?_, fun e => absurd e ?_, ?_⟩ <;> decide
  · refine ⟨?_, fun e => absurd e ?_, ?_⟩ <;> decide
  · exact ⟨h.1, fun _ => hF, h.2.2.1, h.2.2.2.1, h.2.2.2.2.1, h.2.2.2.2.2.1, h.2.2.2.2.2.2.1, h.2.2.2.2.2.2.2.2.2.2.2.2⟩
/-- The numbers by which a partner replies. -/
def RlOk (rl : List Int) : Prop := rl.length ≤ 100000 ∧ ∀ z ∈ rl, -9223372036854775808 ≤ z ∧ z ≤ 9223372036854775807
/-- What is known of a program: how its journal, its engine and its partner lie. -/
structure Prg where
  Dev : World → Nat → DK → List Value → Prop
  fr : ∀ {S : Nat → Prop} {w w' : World} {s : Nat} {q : DK} {bs : List Value}, Dev w s q bs → Fr S w w' → ¬ S q.A → ¬ S q.B → ¬ S q.Pp → (∀ b, q.F b → ¬ S b) → Dev w' s q bs
  mono : ∀ {w : World} {s s' : Nat} {q : DK} {bs : List Value}, Dev w s q bs → s ≤ s' → Dev w s' q bs
  new : ∀ {w : World} {A B Pp n s b1 : Nat} {F : Nat → Prop} {lv : Value} {rl : List Int}, w.heap[Pp]? = some (.cells #[.slice none 0 0, .slice none 0 0, lv, .int .i64 0] 48 (0, 0)) → w.ownsRow b1 3 1 lv rl.length (rl.map fun x => Value.int .i64 x) → b1 ≤ w.heap.size → RlOk rl → (∀ b, lv.ownBlock = some b → F b) → Dev w s ⟨A, B, Pp, n, true, none, 0, 0, [], F, false⟩ (List.replicate (n * 128) (.int .u8 0))
/-- A device at rest, behind s steps. -/
def DevI (G : Prg) (w : World) (s : Nat) (k : DK) : Prop := ∃ calls writes bs, DiskAt w k.A k.B k.n (.slice none 0 0) calls writes ∧ RowsAt w k.B k.n bs ∧ 0 ≤ calls ∧ calls ≤ 1000 * (s : Int) ∧ 0 ≤ writes ∧ writes ≤ 1000 * (s : Int) ∧ G.Dev w s k bs
variable {G : Prg}
/-- .. and what is known of it behind s steps. -/
structure DI (G : Prg) (w : World) (b0 s : Nat) (q : DR) : Prop where
  l : LawAt w q.D q.A q.Pp q.n q.nn (.pointer q.x) q.pause q.clock q.Lv
  p : ∃ lo lm lcap pe pl pa, w.heap[q.Pp]? = some (.cells #[.slice lo lm lcap, pe, pl, pa] 48 (0, 0))
  d : DevI G w s q.k
  a : LAt w b0 q.Lv q.L
  ln : q.L.length ≤ s
  ls : ∀ r ∈ q.L, r.S.1 ≠ 0 ∧ sagaOk r.id r.st = true
  lo : q.L.Pairwise (fun a b => a.id < b.id)
  f : ∀ b, q.F b → b0 ≤ b ∧ ∃ c t, w.heap[b]? = some (.cells c t (0, 0)) ∧ EngT t
  b : b0 ≤ q.D ∧ b0 ≤ q.A ∧ b0 ≤ q.B ∧ b0 ≤ q.Pp
  n : q.n < 1000
theorem DI.mono {w : World} {b0 s s' : Nat} {q : DR} (h : DI G w b0 s q) (hs : s ≤ s') : DI G w b0 s' q := by
  obtain ⟨calls, writes, bs, h1, h2, h3, h4, h5, h6, h7⟩ := h.d
  exact ⟨h.l, h.p, ⟨calls, writes, bs, h1, h2, h3, by omega, h5, by omega, G.mono h7 hs⟩, h.a, by have := h.ln; omega, h.ls, h.lo, h.f, h.b, h.n⟩
theorem LAt.fr2 {S : Nat → Prop} {w w' : World} {b : Nat} {Lv : Value} {L : List RS} (h : LAt w b Lv L) (hf : Fr S w w') (hS : ∀ b c t, w.heap[b]? = some (.cells c t (0, 0)) → (t = 223 ∧ Lv.ownBlock = some b) ∨ t = 165 ∨ t = 220 → ¬ S b) : LAt w' b Lv L :=
  ⟨own_fr h.o hf (fun b c hb ho => hS b c _ hb (.inl ⟨rfl, ho⟩)), fun r hr => (h.s r hr).fr hf (fun b c hb => hS b c _ hb (.inr (.inl rfl))), fun r hr => ⟨(h.m r hr).1.fr hf (fun b c hb => hS b c _ hb (.inr (.inr rfl))), (h.m r hr).2⟩, h.n⟩
theorem DI.fr {S : Nat → Prop} {w w' : World} {b0 s : Nat} {q : DR} (h : DI G w b0 s q) (hf : Fr S w w') (hS : ∀ b c t, w.heap[b]? = some (.cells c t (0, 0)) → (t = 111 ∧ b = q.D) ∨ (t = 96 ∧ b = q.A) ∨ (t = 97 ∧ b = q.B) ∨ Rest q t b → ¬ S b) : DI G w' b0 s q := by
  obtain ⟨calls, writes, bs, h1, h2, h3, h4, h5, h6, h7⟩ := h.d
  obtain ⟨lo, lm, lcap, pe, pl, pa, hp⟩ := h.p
  have hF : ∀ b, q.F b → ¬ S b := fun b hb => by
    obtain ⟨_, c, t, hc, ht⟩ := h.f b hb
    exact hS b c t hc (.inr (.inr (.inr (.inr (.inr (.inr (.inr ⟨hb, ht⟩)))))))
  have hP := hS _ _ _ hp (.inr (.inr (.inr (.inl ⟨rfl, rfl⟩))))
  have hA := hS _ _ _ h1 (.inr (.inl ⟨rfl, rfl⟩))
  have hB := hS _ _ _ h2.1 (.inr (.inr (.inl ⟨rfl, rfl⟩)))
  refine ⟨h.l.fr hf (hS _ _ _ h.l (.inl ⟨rfl, rfl⟩)), ⟨lo, lm, lcap, pe, pl, pa, hf.keep hp hP⟩, ⟨calls, writes, bs, h1.fr hf hA, ⟨hf.keep h2.1 hB, h2.2⟩, h3, h4, h5, h6, G.fr h7 hf hA hB hP hF⟩, h.a.fr2 hf (fun b c t hb ht => hS b c t hb (.inr (.inr (.inr (.inr (by rcases ht with h | h | h; exact .inl h; exact .inr (.inl h); exact .inr (.inr (.inl h)))))))), h.ln, h.ls, h.lo, fun b hb => ?_, h.b, h.n⟩
  obtain ⟨h0, c, t, hc, ht⟩ := h.f b hb
  exact ⟨h0, c, t, hf.keep hc (hF b hb), ht⟩
def Apart (p q : DR) : Prop := p.D ≠ q.D ∧ p.A ≠ q.A ∧ p.B ≠ q.B ∧ p.Pp ≠ q.Pp ∧ (∀ b, p.F b → ¬ q.F b) ∧ ∀ b, p.Lv.ownBlock = some b → q.Lv.ownBlock ≠ some b
/-- What else is known of the script's lists. -/
structure PwX (kv rv : Value) (rxs fxs : List Value) (qs : List DR) (fs : List Bool) : Prop where
  pw : qs.Pairwise Apart
  fx : fxs = fs.map Value.bool
  rx : ∃ rl : List Int, rxs = rl.map (fun x => Value.int .i64 x) ∧ RlOk rl
  kr : ∀ q ∈ qs, ∀ b, q.F b → kv.ownBlock ≠ some b ∧ rv.ownBlock ≠ some b
/-- The script's world behind s steps; which engines' partners fail. -/
def InvF (G : Prg) (w : World) (b0 W0 s : Nat) (qs : List DR) (fs : List Bool) : Prop := ∃ kv rv sv dv fv k r st kxs rxs sts fxs,
  WI w b0 W0 kv rv sv dv fv k r st qs.length kxs rxs (scells sts) (qs.map DR.D) fxs ∧ sts.length = st ∧ k ≤ s ∧ r ≤ s ∧ st ≤ s ∧ qs.length ≤ s ∧ (∀ q ∈ qs, DI G w b0 s q) ∧ PwX kv rv rxs fxs qs fs
def Inv (G : Prg) (w : World) (b0 W0 s : Nat) (qs : List DR) : Prop := InvF G w b0 W0 s qs (qs.map DR.fl)
theorem InvF.frz {w w' : World} {b0 W0 s s' : Nat} {qs : List DR} {fs : List Bool} (h : InvF G w b0 W0 s qs fs) (hf : Fr (fun _ => False) w w') (hs : s ≤ s') : InvF G w' b0 W0 s' qs fs := by
  obtain ⟨kv, rv, sv, dv, fv, k, r, st, kxs, rxs, sts, fxs, h1, h0, h2, h3, h4, h5, h6, h7⟩ := h
  exact ⟨kv, rv, sv, dv, fv, k, r, st, kxs, rxs, sts, fxs, h1.frz hf, h0, by omega, by omega, by omega, by omega, fun q hq => ((h6 q hq).fr hf (fun _ _ _ _ _ => id)).mono hs, h7⟩
theorem Inv.frz {w w' : World} {b0 W0 s s' : Nat} {qs : List DR} (h : Inv G w b0 W0 s qs) (hf : Fr (fun _ => False) w w') (hs : s ≤ s') : Inv G w' b0 W0 s' qs := InvF.frz h hf hs
theorem frz_below {w w' : World} {b0 : Nat} (hf : Fr (fun _ => False) w w') (hb : b0 ≤ w.heap.size) : Below b0 w w' := hf.below hb (fun _ h => h.elim)
theorem InvF.size {w : World} {b0 W0 s : Nat} {qs : List DR} {fs : List Bool} (h : InvF G w b0 W0 s qs fs) : b0 ≤ w.heap.size := by
  obtain ⟨kv, rv, sv, dv, fv, k, r, st, kxs, rxs, sts, fxs, h1, _⟩ := h
  have := lt_of_heap h1.hw
  have := h1.w0
  omega
theorem Inv.size {w : World} {b0 W0 s : Nat} {qs : List DR} (h : Inv G w b0 W0 s qs) : b0 ≤ w.heap.size := InvF.size h
/-- A step of the script, as a value. -/
def opv (K X a b : Int) (s t : ByteArray) : Array Value := #[.int .i64 K, .int .i64 X, .int .i64 a, .int .i64 b, .string s, .string t]
def OwnPost (G : Prg) (w : World) (b0 W0 s : Nat) (e : Ending) (w' : World) : Prop := ∃ qs', e = .returned (.bool true) ∧ Inv G w' b0 W0 (s + 2) qs' ∧ Below b0 w w'

set_option maxRecDepth 100000 in
set_option maxHeartbeats 1000000 in
theorem owner_other {w : World} {W0 : Nat} (K X a b : Int) (S T : ByteArray) (hK : K < 1 ∨ 6 < K) :
    Calls Tryz.prog 49 #[.pointer (some ⟨W0, 0, none⟩), .agg (opv K X a b S T)] w fun e w' => e = .returned (.bool false) ∧ Fr (fun _ => False) w w' := by
  have e1 : (K == 1) = false := by simp; omega
  have e2 : (K == 2) = false := by simp; omega
  have e3 : (K == 3) = false := by simp; omega
  have e4 : (K == 4) = false := by simp; omega
  have e5 : (K == 5) = false := by simp; omega
  have e6 : (K == 6) = false := by simp; omega
  unfold opv
  go_enter Tryz.func49, Tryz.ntmps49
  go_wp2
  go_ret
  exact ⟨rfl, (Fr.refl _ _).alloc _⟩
end Go.Proofs.YteebjgfalllbjaaGreatDoor
namespace Go.Proofs.YteebjgfalllbjaaGreatDoor
open Go.RowKit
variable {G : Prg}

set_option maxRecDepth 100000 in
set_option maxHeartbeats 2000000 in
theorem owner_keep {w : World} {b0 W0 s : Nat} {qs : List DR} (h : Inv G w b0 W0 s qs) (hs : s < 100000) (X a b : Int) (S T : ByteArray) :
    Calls Tryz.prog 49 #[.pointer (some ⟨W0, 0, none⟩), .agg (opv 1 X a b S T)] w fun e w' => OwnPost G w b0 W0 s e w' := by
  have hsz := h.size
  obtain ⟨kv, rv, sv, dv, fv, k, r, st, kxs, rxs, sts, fxs, hI, hsn, hk, hr, hst, hm, hDs, hPw⟩ := h
  unfold opv
  obtain ⟨v0, HV⟩ : ∃ v0, Hid (v0 = kv) := ⟨_, rfl⟩
  obtain ⟨k0, HK0⟩ : ∃ k0, Hid (k0 = k) := ⟨_, rfl⟩
  obtain ⟨xs0, HX⟩ : ∃ xs0, Hid (xs0 = kxs) := ⟨_, rfl⟩
  have hk0 : k0 ≤ s := by rw [HK0.out]; assumption
  go_enter Tryz.func49, Tryz.ntmps49
  go_wp2_with fail
  · have hlift : Tryz.prog.follows .mixedOrders = true := by kernel_rfl
    obtain ⟨W, HW⟩ : ∃ W, Hid (W = (w.alloc (.cells #[.int .i64 1, .int .i64 X, .int .i64 a, .int .i64 b, .string S, .string T] 74)).drew) := ⟨_, rfl⟩
    obtain ⟨O, HO⟩ : ∃ O, Hid (O = w.heap.size) := ⟨_, rfl⟩
    have hFW : Fr (fun _ => False) w W := by rw [HW.out]; exact ((Fr.refl _ _).alloc _).drew
    have hIW := hI.frz hFW
    have hDW : ∀ q ∈ qs, DI G W b0 s q := fun q hq => (hDs q hq).fr hFW (fun _ _ _ _ _ => id)
    have hOW : W.heap[O]? = some (.cells #[.int .i64 1, .int .i64 X, .int .i64 a, .int .i64 b, .string S, .string T] 74 (0, 0)) := by rw [HW.out, HO.out]; exact heap_alloc_at _ _
    have hOl := lt_of_heap hOW
    have hbW : b0 ≤ W.heap.size := Nat.le_trans hsz hFW.size
    have hown : W.ownsRow b0 3 1 v0 k0 xs0 := by rw [HV.out, HK0.out, HX.out]; exact hIW.hk
    have hvw : W.cell? ⟨W0, 0, none⟩ = some v0 := by rw [HV.out]; exact hIW.c0
    have hOW0 : O ≠ W0 := by
      intro e; subst e
      have := hIW.hw.symm.trans hOW
      simp at this
    have hWv : ∀ b, v0.ownBlock = some b → b = W0 → False := by
      intro b hb e; subst e
      rcases hown.2 with ⟨rfl, _⟩ | ⟨g, cap, cur, rfl, _, hg, _⟩
      · simp [Value.ownBlock] at hb
      · simp only [Value.ownBlock, Option.some.injEq] at hb
        subst hb
        have := hIW.hw.symm.trans hg
        simp at this
    have hOv : ∀ b, v0.ownBlock = some b → b = O → False := by
      intro b hb e; subst e
      rcases hown.2 with ⟨rfl, _⟩ | ⟨g, cap, cur, rfl, _, hg, _⟩
      · simp [Value.ownBlock] at hb
      · simp only [Value.ownBlock, Option.some.injEq] at hb
        subst hb
        have := hOW.symm.trans hg
        simp at this
    let S : World → Prop := fun w' => w'.cell? ⟨O, 2, none⟩ = some (.int .i64 a)
    have hS : S W := by show W.cell? _ = _; rw [cell_of_row W O 2 _ _ _ hOW]; rfl
    obtain ⟨inf, hi0, hz0, hz1, hz2⟩ := info_parts int_info
    have hl1 : (Instr.loadAt 24 (.pointer (some ⟨W0, 0, none⟩))).run Tryz.prog W = .ok v0 W := run_loadAt_one hvw Tryz.underlying24 rfl
    have hbs : (Instr.buildSlice 24 1 #[(0, .int .i64 a)]).run Tryz.prog W = .ok (.slice (some ⟨W.heap.size, 0, none⟩) 1 1) (W.alloc (.cells #[.int .i64 a] 3)) :=
      run_buildSlice_one W 24 3 inf _ _ Tryz.underlying24 hi0 hz0 (by rw [hz1]; rfl) (by rw [hz1]; decide) (by rw [hz1]; decide)
    have hFA : Fr (fun _ => False) W (W.alloc (.cells #[.int .i64 a] 3)) := (Fr.refl _ _).alloc _
    have hWA : (W.alloc (.cells #[.int .i64 a] 3)).heap[W0]? = some (.cells #[kv, rv, sv, dv, fv] 80 (0, 0)) := hFA.keep hIW.hw id
    have hl2 : (Instr.loadAt 24 (.pointer (some ⟨W0, 0, none⟩))).run Tryz.prog (W.alloc (.cells #[.int .i64 a] 3)) = .ok v0 (W.alloc (.cells #[.int .i64 a] 3)) := run_loadAt_one (hFA.cell hvw id) Tryz.underlying24 rfl
    have hownA := hown.alloc (.cells #[.int .i64 a] 3)
    have hnewsA := World.news_of_block (w := W.alloc (.cells #[.int .i64 a] 3)) (B := W.heap.size) (heap_alloc_at W (.cells #[.int .i64 a] 3))
    have hSA : S (W.alloc (.cells #[.int .i64 a] 3)) := hFA.cell (p := ⟨O, 2, none⟩) hS id
    have hzA : b0 ≤ (W.alloc (.cells #[.int .i64 a] 3)).heap.size := by simp; omega
    have fin : ∀ (gn cap : Nat) (wn : World), wn.ownsRow b0 3 1 (.slice (some ⟨gn, 0, none⟩) (k0 + 1) cap) (k0 + 1) (xs0 ++ [.int .i64 a]) → (W.alloc (.cells #[.int .i64 a] 3)).grownBy wn v0.ownBlock →
        (v0.ownBlock = some gn ∨ gn = (W.alloc (.cells #[.int .i64 a] 3)).heap.size) → gn < wn.heap.size → wn.heap[W0]? = some (.cells #[kv, rv, sv, dv, fv] 80 (0, 0)) →
        ∃ qs', Inv G (wn.setCell ⟨W0, 0, none⟩ (.slice (some ⟨gn, 0, none⟩) (k0 + 1) cap)) b0 W0 (s + 2) qs' ∧ Below b0 w (wn.setCell ⟨W0, 0, none⟩ (.slice (some ⟨gn, 0, none⟩) (k0 + 1) cap)) := by
      intro gn cap wn hon hgrow hat hlt hWn
      have hF1 : Fr (fun b => v0.ownBlock = some b) W wn := (hFA.mono (fun _ _ h => h.elim)).grown hgrow (fun b _ hb => hb)
      have hF2 : Fr (fun b => b = W0 ∨ v0.ownBlock = some b) W (wn.setCell ⟨W0, 0, none⟩ (.slice (some ⟨gn, 0, none⟩) (k0 + 1) cap)) := Fr.setCell (S := fun b => b = W0 ∨ v0.ownBlock = some b) (hF1.mono (fun _ _ h => Or.inr h)) ⟨W0, 0, none⟩ (fun _ => Or.inl rfl) _
      have hvt : ∀ b c t, W.heap[b]? = some (.cells c t (0, 0)) → v0.ownBlock = some b → t = 3 := by
        intro b c t hb hv
        rcases hown.2 with ⟨rfl, _⟩ | ⟨g, cap', cur, rfl, _, hg, _⟩
        · simp [Value.ownBlock] at hv
        · simp only [Value.ownBlock, Option.some.injEq] at hv
          subst hv
          rw [hb] at hg
          simp at hg
          exact hg.2
      have hgW : v0.ownBlock = some gn ∨ W.heap.size ≤ gn := by
        rcases hat with e | e
        · exact .inl e
        · right; simp at e; omega
      have hot : ∀ {e' : Nat}, e' ≠ 3 → e' ≠ 80 → ∀ b c, W.heap[b]? = some (.cells c e' (0, 0)) → ¬ (b = W0 ∨ v0.ownBlock = some b) := by
        rintro e' he1 he2 b c hb (rfl | hv)
        · rw [hIW.hw] at hb; simp at hb; exact he2 hb.2.symm
        · exact he1 (hvt b c e' hb hv)
      have hoth : (wn.setCell ⟨W0, 0, none⟩ (.slice (some ⟨gn, 0, none⟩) (k0 + 1) cap)).ownsRow b0 3 1 rv r rxs := own_fr hIW.hr hF2 (by
        rintro b c hb hrb (rfl | hv)
        · rw [hIW.hw] at hb; simp at hb
        · exact hIW.ne b (by rw [← HV.out]; exact hv) hrb)
      have hne : ∀ b, (Value.slice (some ⟨gn, 0, none⟩) (k0 + 1) cap).ownBlock = some b → rv.ownBlock ≠ some b := by
        intro b hb hrb
        simp only [Value.ownBlock, Option.some.injEq] at hb
        subst hb
        rcases hgW with e | e
        · exact hIW.ne gn (by rw [← HV.out]; exact e) hrb
        · have := (hIW.hr.lt gn hrb).2; omega
      refine ⟨qs, ⟨(.slice (some ⟨gn, 0, none⟩) (k0 + 1) cap), rv, sv, dv, fv, k0 + 1, r, st, xs0 ++ [.int .i64 a], rxs, sts, fxs, ⟨heap_setCell_at wn W0 0 _ _ _ hWn, own_set hWn (by decide) hon, hoth, own_fr hIW.hs hF2 (fun b c hb _ => hot (by decide) (by decide) b c hb), own_fr hIW.hd hF2 (fun b c hb _ => hot (by decide) (by decide) b c hb), own_fr hIW.hf hF2 (fun b c hb _ => hot (by decide) (by decide) b c hb), hne, hIW.ro, hIW.so, hIW.w0⟩, hsn, by omega, by omega, by omega, by omega, fun q hq => ((hDW q hq).fr hF2 ?_).mono (by omega), ⟨hPw.pw, hPw.fx, hPw.rx, fun q hq b hb => ⟨fun e => ?_, (hPw.kr q hq b hb).2⟩⟩⟩, (frz_below hFW hsz).trans (hF2.below hbW ?_)⟩
      · intro b c t hb ht
        rcases ht with ⟨rfl, _⟩ | ⟨rfl, _⟩ | ⟨rfl, _⟩ | ht
        · exact hot (by decide) (by decide) b c hb
        · exact hot (by decide) (by decide) b c hb
        · exact hot (by decide) (by decide) b c hb
        · rintro (rfl | hv)
          · rw [hIW.hw] at hb; simp at hb; exact ht.ne.1 hb.2.symm
          · exact (hPw.kr q hq b (ht.ne.2.1 (hvt b c t hb hv))).1 (by rw [← HV.out]; exact hv)
      · simp only [Value.ownBlock, Option.some.injEq] at e
        subst e
        rcases hgW with e | e
        · exact (hPw.kr q hq gn hb).1 (by rw [← HV.out]; exact e)
        · obtain ⟨_, c, t, hc, _⟩ := (hDW q hq).f gn hb
          have := lt_of_heap hc; omega
      · rintro b (rfl | hv)
        · exact hIW.w0
        · exact (hown.lt b hv).1
    rw [← HO.out]
    refine wp_region_held (S := S) hlift ?_
    change wpAnyH _ _ _ _ S _ _ _ (World.drew _)
    rw [← HW.out]
    refine tkE (S := S) (i := 0) (oi := ⟨some 11, .move (.tmp 0), _, _, _, none⟩) (v := .pointer (some ⟨W0, 0, none⟩)) rfl hS ?_
    simp only [Act.put, lsE, lsZ, lsS]
    refine tkE (S := S) (i := 1) (oi := ⟨some 12, .move (.tmp 0), _, _, _, none⟩) (v := .pointer (some ⟨W0, 0, none⟩)) rfl hS ?_
    simp only [Act.put, lsE, lsZ, lsS]
    refine tkE (S := S) (i := 2) (oi := ⟨some 13, .nilCheck (.tmp 12), _, _, _, none⟩) (v := .pointer (some ⟨W0, 0, none⟩)) rfl hS ?_
    simp only [Act.put, lsE, lsZ, lsS]
    refine tkE (S := S) (i := 3) (oi := ⟨some 14, .fieldAddr 80 (.tmp 13) 0, _, _, _, none⟩) (v := .pointer (some ⟨W0, 0, none⟩)) rfl hS ?_
    simp only [Act.put, lsE, lsZ, lsS]
    refine tkE (S := S) (i := 5) (oi := ⟨some 16, .fieldAddr 74 (.tmp 3) 2, _, _, _, none⟩) (v := .pointer (some ⟨O, 2, none⟩)) rfl hS ?_
    simp only [Act.put, lsE, lsZ, lsS]
    refine tkY (S := S) (i := 6) (oi := ⟨some 17, .load 3 (.tmp 16), _, _, _, none⟩) (v := .int .i64 a) rfl (Or.inl ⟨rfl, fun w' hs => exec_load 3 (.tmp 16) rfl ⟨O, 2, none⟩ rfl (run_loadAt_one hs Tryz.underlying3 rfl)⟩) hS ?_
    simp only [Act.put, lsE, lsZ, lsS]
    refine wpAnyH_all (rs := [4, 7]) (by kernel_rfl) (by simp) ?_
    intro i4 hi4
    simp only [List.mem_cons, List.not_mem_nil, or_false] at hi4
    rcases hi4 with rfl | rfl
    · skip
      refine wpOp_value (o := ⟨some 15, .load 24 (.tmp 14), _, _, _, none⟩) rfl rfl (exec_load 24 (.tmp 14) rfl ⟨W0, 0, none⟩ rfl hl1) ⟨hS, ?_⟩
      simp only [Act.put, lsE, lsZ, lsS]
      refine wpAnyH_all (rs := [7]) (by kernel_rfl) (by simp) ?_
      intro i7 hi7
      obtain rfl : i7 = 7 := by simpa using hi7
      refine wpOp_value (o := ⟨some 18, .buildSlice 24 1 #[(0, .tmp 17)], _, _, _, none⟩) rfl rfl (exec_buildSlice 24 1 #[(0, .tmp 17)] rfl #[(0, .int .i64 a)] (by simp [Act.eval]) hbs) ⟨hSA, ?_⟩
      simp only [Act.put, lsE, lsZ, lsS]
      refine wpAnyH_all (rs := [8]) (by kernel_rfl) (by simp) ?_
      intro i8 hi8
      obtain rfl : i8 = 8 := by simpa using hi8
      refine wpOp_of_wp (o := ⟨some 19, .call { callee := .builtin .append, args := #[.tmp 15, .tmp 18], argTypes := #[24, 24] }, _, _, _, none⟩) rfl rfl ?_
      refine wp_append_lies _ (.tmp 15) (.tmp 18) 24 rfl b0 3 inf (.int .i64 0) 1 8 Tryz.underlying24 hi0 hz0 hz1 hz2 rfl (by decide) v0 k0 xs0 rfl hownA ⟨W.heap.size, 0, none⟩ 1 1 [.int .i64 a] rfl rfl hnewsA (by simp [Value.oneCell']) (by decide) (by unfold maxLen; omega) (by omega) hzA _ rfl ?_
      intro gn cap wn hon hgrow hat hlt
      have hSn : S wn := by
        show wn.cell? ⟨O, 2, none⟩ = _
        rw [hgrow.cell_far ⟨O, 2, none⟩ (by simp; omega) (fun e => hOv _ e.symm rfl)]; exact hSA
      refine ⟨hSn, ?_⟩
      simp only [Act.put, lsE, lsZ, lsS]
      refine tkE (S := S) (i := 9) (oi := ⟨some 20, .nilCheck (.tmp 11), _, _, _, none⟩) (v := .pointer (some ⟨W0, 0, none⟩)) rfl hSn ?_
      simp only [Act.put, lsE, lsZ, lsS]
      refine tkE (S := S) (i := 10) (oi := ⟨some 21, .fieldAddr 80 (.tmp 20) 0, _, _, _, none⟩) (v := .pointer (some ⟨W0, 0, none⟩)) rfl hSn ?_
      simp only [Act.put, lsE, lsZ, lsS]
      refine wpAnyH_all (rs := [11]) (by kernel_rfl) (by simp) ?_
      intro i11 hi11
      obtain rfl : i11 = 11 := by simpa using hi11
      have hWn : wn.heap[W0]? = some (.cells #[kv, rv, sv, dv, fv] 80 (0, 0)) := by rw [hgrow.block W0 (lt_of_heap hWA) (fun e => hWv _ e.symm rfl)]; exact hWA
      have hcn : wn.cell? ⟨W0, 0, none⟩ = some v0 := by rw [cell_of_row wn W0 0 _ _ _ hWn, HV.out]; rfl
      have hSw : S (wn.setCell ⟨W0, 0, none⟩ (.slice (some ⟨gn, 0, none⟩) (k0 + 1) cap)) := by
        show (wn.setCell _ _).cell? ⟨O, 2, none⟩ = _
        rw [World.cell?_setCell_other _ _ _ _ (fun e => hOW0 (congrArg Addr.block e).symm)]; exact hSn
      refine wpOp_skip (o := ⟨none, .store 24 (.tmp 21) (.tmp 19), _, _, _, none⟩) rfl rfl (exec_store 24 (.tmp 21) (.tmp 19) rfl ⟨W0, 0, none⟩ (.slice (some ⟨gn, 0, none⟩) (k0 + 1) cap) rfl rfl (run_storeAt_one hcn (frozen_of_row wn W0 0 _ _ hWn) (by kernel_rfl) rfl)) ⟨hSw, ?_⟩
      simp only [Act.put]
      refine wpAnyH_done (by kernel_rfl) ?_ _
      have HE : Hid (OwnPost G w b0 W0 s (.returned (.bool true)) (wn.setCell ⟨W0, 0, none⟩ (.slice (some ⟨gn, 0, none⟩) (k0 + 1) cap))) := by
        obtain ⟨qs', e1, e2⟩ := fin gn cap wn hon hgrow hat hlt hWn
        exact ⟨qs', rfl, e1, e2⟩
      clear hSw hSn hcn hWn hon hgrow hat fin hl1 hl2 hbs hFA hWA hownA hnewsA hSA hzA hS hOv hWv hvw hown hOW hIW hDW hFW
      go_wp2
      go_ret
      exact HE.out
    · skip
      refine wpOp_value (o := ⟨some 18, .buildSlice 24 1 #[(0, .tmp 17)], _, _, _, none⟩) rfl rfl (exec_buildSlice 24 1 #[(0, .tmp 17)] rfl #[(0, .int .i64 a)] (by simp [Act.eval]) hbs) ⟨hSA, ?_⟩
      simp only [Act.put, lsE, lsZ, lsS]
      refine wpAnyH_all (rs := [4]) (by kernel_rfl) (by simp) ?_
      intro i5 hi5
      obtain rfl : i5 = 4 := by simpa using hi5
      refine wpOp_value (o := ⟨some 15, .load 24 (.tmp 14), _, _, _, none⟩) rfl rfl (exec_load 24 (.tmp 14) rfl ⟨W0, 0, none⟩ rfl hl2) ⟨hSA, ?_⟩
      simp only [Act.put, lsE, lsZ, lsS]
      refine wpAnyH_all (rs := [8]) (by kernel_rfl) (by simp) ?_
      intro i8 hi8
      obtain rfl : i8 = 8 := by simpa using hi8
      refine wpOp_of_wp (o := ⟨some 19, .call { callee := .builtin .append, args := #[.tmp 15, .tmp 18], argTypes := #[24, 24] }, _, _, _, none⟩) rfl rfl ?_
      refine wp_append_lies _ (.tmp 15) (.tmp 18) 24 rfl b0 3 inf (.int .i64 0) 1 8 Tryz.underlying24 hi0 hz0 hz1 hz2 rfl (by decide) v0 k0 xs0 rfl hownA ⟨W.heap.size, 0, none⟩ 1 1 [.int .i64 a] rfl rfl hnewsA (by simp [Value.oneCell']) (by decide) (by unfold maxLen; omega) (by omega) hzA _ rfl ?_
      intro gn cap wn hon hgrow hat hlt
      have hSn : S wn := by
        show wn.cell? ⟨O, 2, none⟩ = _
        rw [hgrow.cell_far ⟨O, 2, none⟩ (by simp; omega) (fun e => hOv _ e.symm rfl)]; exact hSA
      refine ⟨hSn, ?_⟩
      simp only [Act.put, lsE, lsZ, lsS]
      refine tkE (S := S) (i := 9) (oi := ⟨some 20, .nilCheck (.tmp 11), _, _, _, none⟩) (v := .pointer (some ⟨W0, 0, none⟩)) rfl hSn ?_
      simp only [Act.put, lsE, lsZ, lsS]
      refine tkE (S := S) (i := 10) (oi := ⟨some 21, .fieldAddr 80 (.tmp 20) 0, _, _, _, none⟩) (v := .pointer (some ⟨W0, 0, none⟩)) rfl hSn ?_
      simp only [Act.put, lsE, lsZ, lsS]
      refine wpAnyH_all (rs := [11]) (by kernel_rfl) (by simp) ?_
      intro i11 hi11
      obtain rfl : i11 = 11 := by simpa using hi11
      have hWn : wn.heap[W0]? = some (.cells #[kv, rv, sv, dv, fv] 80 (0, 0)) := by rw [hgrow.block W0 (lt_of_heap hWA) (fun e => hWv _ e.symm rfl)]; exact hWA
      have hcn : wn.cell? ⟨W0, 0, none⟩ = some v0 := by rw [cell_of_row wn W0 0 _ _ _ hWn, HV.out]; rfl
      have hSw : S (wn.setCell ⟨W0, 0, none⟩ (.slice (some ⟨gn, 0, none⟩) (k0 + 1) cap)) := by
        show (wn.setCell _ _).cell? ⟨O, 2, none⟩ = _
        rw [World.cell?_setCell_other _ _ _ _ (fun e => hOW0 (congrArg Addr.block e).symm)]; exact hSn
      refine wpOp_skip (o := ⟨none, .store 24 (.tmp 21) (.tmp 19), _, _, _, none⟩) rfl rfl (exec_store 24 (.tmp 21) (.tmp 19) rfl ⟨W0, 0, none⟩ (.slice (some ⟨gn, 0, none⟩) (k0 + 1) cap) rfl rfl (run_storeAt_one hcn (frozen_of_row wn W0 0 _ _ hWn) (by kernel_rfl) rfl)) ⟨hSw, ?_⟩
      simp only [Act.put]
      refine wpAnyH_done (by kernel_rfl) ?_ _
      have HE : Hid (OwnPost G w b0 W0 s (.returned (.bool true)) (wn.setCell ⟨W0, 0, none⟩ (.slice (some ⟨gn, 0, none⟩) (k0 + 1) cap))) := by
        obtain ⟨qs', e1, e2⟩ := fin gn cap wn hon hgrow hat hlt hWn
        exact ⟨qs', rfl, e1, e2⟩
      clear hSw hSn hcn hWn hon hgrow hat fin hl1 hl2 hbs hFA hWA hownA hnewsA hSA hzA hS hOv hWv hvw hown hOW hIW hDW hFW
      go_wp2
      go_ret
      exact HE.out

set_option maxRecDepth 100000 in
set_option maxHeartbeats 2000000 in
theorem owner_reply {w : World} {b0 W0 s : Nat} {qs : List DR} (h : Inv G w b0 W0 s qs) (hs : s < 99000) (X a b : Int) (S T : ByteArray) (ha1 : -9223372036854775808 ≤ a) (ha2 : a ≤ 9223372036854775807) :
    Calls Tryz.prog 49 #[.pointer (some ⟨W0, 0, none⟩), .agg (opv 3 X a b S T)] w fun e w' => OwnPost G w b0 W0 s e w' := by
  have hsz := h.size
  obtain ⟨kv, rv, sv, dv, fv, k, r, st, kxs, rxs, sts, fxs, hI, hsn, hk, hr, hst, hm, hDs, hPw⟩ := h
  unfold opv
  obtain ⟨v0, HV⟩ : ∃ v0, Hid (v0 = rv) := ⟨_, rfl⟩
  obtain ⟨k0, HK0⟩ : ∃ k0, Hid (k0 = r) := ⟨_, rfl⟩
  obtain ⟨xs0, HX⟩ : ∃ xs0, Hid (xs0 = rxs) := ⟨_, rfl⟩
  have hk0 : k0 ≤ s := by rw [HK0.out]; assumption
  go_enter Tryz.func49, Tryz.ntmps49
  go_wp2_with fail
  · have hlift : Tryz.prog.follows .mixedOrders = true := by kernel_rfl
    obtain ⟨W, HW⟩ : ∃ W, Hid (W = (w.alloc (.cells #[.int .i64 3, .int .i64 X, .int .i64 a, .int .i64 b, .string S, .string T] 74)).drew) := ⟨_, rfl⟩
    obtain ⟨O, HO⟩ : ∃ O, Hid (O = w.heap.size) := ⟨_, rfl⟩
    have hFW : Fr (fun _ => False) w W := by rw [HW.out]; exact ((Fr.refl _ _).alloc _).drew
    have hIW := hI.frz hFW
    have hDW : ∀ q ∈ qs, DI G W b0 s q := fun q hq => (hDs q hq).fr hFW (fun _ _ _ _ _ => id)
    have hOW : W.heap[O]? = some (.cells #[.int .i64 3, .int .i64 X, .int .i64 a, .int .i64 b, .string S, .string T] 74 (0, 0)) := by rw [HW.out, HO.out]; exact heap_alloc_at _ _
    have hOl := lt_of_heap hOW
    have hbW : b0 ≤ W.heap.size := Nat.le_trans hsz hFW.size
    have hown : W.ownsRow b0 3 1 v0 k0 xs0 := by rw [HV.out, HK0.out, HX.out]; exact hIW.hr
    have hvw : W.cell? ⟨W0, 1, none⟩ = some v0 := by rw [HV.out]; exact hIW.c1
    have hOW0 : O ≠ W0 := by
      intro e; subst e
      have := hIW.hw.symm.trans hOW
      simp at this
    have hWv : ∀ b, v0.ownBlock = some b → b = W0 → False := by
      intro b hb e; subst e
      rcases hown.2 with ⟨rfl, _⟩ | ⟨g, cap, cur, rfl, _, hg, _⟩
      · simp [Value.ownBlock] at hb
      · simp only [Value.ownBlock, Option.some.injEq] at hb
        subst hb
        have := hIW.hw.symm.trans hg
        simp at this
    have hOv : ∀ b, v0.ownBlock = some b → b = O → False := by
      intro b hb e; subst e
      rcases hown.2 with ⟨rfl, _⟩ | ⟨g, cap, cur, rfl, _, hg, _⟩
      · simp [Value.ownBlock] at hb
      · simp only [Value.ownBlock, Option.some.injEq] at hb
        subst hb
        have := hOW.symm.trans hg
        simp at this
    let S : World → Prop := fun w' => w'.cell? ⟨O, 2, none⟩ = some (.int .i64 a)
    have hS : S W := by show W.cell? _ = _; rw [cell_of_row W O 2 _ _ _ hOW]; rfl
    obtain ⟨inf, hi0, hz0, hz1, hz2⟩ := info_parts int_info
    have hl1 : (Instr.loadAt 24 (.pointer (some ⟨W0, 1, none⟩))).run Tryz.prog W = .ok v0 W := run_loadAt_one hvw Tryz.underlying24 rfl
    have hbs : (Instr.buildSlice 24 1 #[(0, .int .i64 a)]).run Tryz.prog W = .ok (.slice (some ⟨W.heap.size, 0, none⟩) 1 1) (W.alloc (.cells #[.int .i64 a] 3)) :=
      run_buildSlice_one W 24 3 inf _ _ Tryz.underlying24 hi0 hz0 (by rw [hz1]; rfl) (by rw [hz1]; decide) (by rw [hz1]; decide)
    have hFA : Fr (fun _ => False) W (W.alloc (.cells #[.int .i64 a] 3)) := (Fr.refl _ _).alloc _
    have hWA : (W.alloc (.cells #[.int .i64 a] 3)).heap[W0]? = some (.cells #[kv, rv, sv, dv, fv] 80 (0, 0)) := hFA.keep hIW.hw id
    have hl2 : (Instr.loadAt 24 (.pointer (some ⟨W0, 1, none⟩))).run Tryz.prog (W.alloc (.cells #[.int .i64 a] 3)) = .ok v0 (W.alloc (.cells #[.int .i64 a] 3)) := run_loadAt_one (hFA.cell hvw id) Tryz.underlying24 rfl
    have hownA := hown.alloc (.cells #[.int .i64 a] 3)
    have hnewsA := World.news_of_block (w := W.alloc (.cells #[.int .i64 a] 3)) (B := W.heap.size) (heap_alloc_at W (.cells #[.int .i64 a] 3))
    have hSA : S (W.alloc (.cells #[.int .i64 a] 3)) := hFA.cell (p := ⟨O, 2, none⟩) hS id
    have hzA : b0 ≤ (W.alloc (.cells #[.int .i64 a] 3)).heap.size := by simp; omega
    have fin : ∀ (gn cap : Nat) (wn : World), wn.ownsRow b0 3 1 (.slice (some ⟨gn, 0, none⟩) (k0 + 1) cap) (k0 + 1) (xs0 ++ [.int .i64 a]) → (W.alloc (.cells #[.int .i64 a] 3)).grownBy wn v0.ownBlock →
        (v0.ownBlock = some gn ∨ gn = (W.alloc (.cells #[.int .i64 a] 3)).heap.size) → gn < wn.heap.size → wn.heap[W0]? = some (.cells #[kv, rv, sv, dv, fv] 80 (0, 0)) →
        ∃ qs', Inv G (wn.setCell ⟨W0, 1, none⟩ (.slice (some ⟨gn, 0, none⟩) (k0 + 1) cap)) b0 W0 (s + 2) qs' ∧ Below b0 w (wn.setCell ⟨W0, 1, none⟩ (.slice (some ⟨gn, 0, none⟩) (k0 + 1) cap)) := by
      intro gn cap wn hon hgrow hat hlt hWn
      have hF1 : Fr (fun b => v0.ownBlock = some b) W wn := (hFA.mono (fun _ _ h => h.elim)).grown hgrow (fun b _ hb => hb)
      have hF2 : Fr (fun b => b = W0 ∨ v0.ownBlock = some b) W (wn.setCell ⟨W0, 1, none⟩ (.slice (some ⟨gn, 0, none⟩) (k0 + 1) cap)) := Fr.setCell (S := fun b => b = W0 ∨ v0.ownBlock = some b) (hF1.mono (fun _ _ h => Or.inr h)) ⟨W0, 1, none⟩ (fun _ => Or.inl rfl) _
      have hvt : ∀ b c t, W.heap[b]? = some (.cells c t (0, 0)) → v0.ownBlock = some b → t = 3 := by
        intro b c t hb hv
        rcases hown.2 with ⟨rfl, _⟩ | ⟨g, cap', cur, rfl, _, hg, _⟩
        · simp [Value.ownBlock] at hv
        · simp only [Value.ownBlock, Option.some.injEq] at hv
          subst hv
          rw [hb] at hg
          simp at hg
          exact hg.2
      have hgW : v0.ownBlock = some gn ∨ W.heap.size ≤ gn := by
        rcases hat with e | e
        · exact .inl e
        · right; simp at e; omega
      have hot : ∀ {e' : Nat}, e' ≠ 3 → e' ≠ 80 → ∀ b c, W.heap[b]? = some (.cells c e' (0, 0)) → ¬ (b = W0 ∨ v0.ownBlock = some b) := by
        rintro e' he1 he2 b c hb (rfl | hv)
        · rw [hIW.hw] at hb; simp at hb; exact he2 hb.2.symm
        · exact he1 (hvt b c e' hb hv)
      have hoth : (wn.setCell ⟨W0, 1, none⟩ (.slice (some ⟨gn, 0, none⟩) (k0 + 1) cap)).ownsRow b0 3 1 kv k kxs := own_fr hIW.hk hF2 (by
        rintro b c hb hrb (rfl | hv)
        · rw [hIW.hw] at hb; simp at hb
        · exact hIW.ne b hrb (by rw [← HV.out]; exact hv))
      have hne : ∀ b, kv.ownBlock = some b → (Value.slice (some ⟨gn, 0, none⟩) (k0 + 1) cap).ownBlock ≠ some b := by
        intro b hrb hb
        simp only [Value.ownBlock, Option.some.injEq] at hb
        subst hb
        rcases hgW with e | e
        · exact hIW.ne gn hrb (by rw [← HV.out]; exact e)
        · have := (hIW.hk.lt gn hrb).2; omega
      have hro : ∀ v ∈ xs0 ++ [.int .i64 a], v.oneCell' = true := by
        intro v hv
        rcases List.mem_append.1 hv with hv | hv
        · rw [HX.out] at hv; exact hIW.ro v hv
        · rw [List.mem_singleton.1 hv]; rfl
      refine ⟨qs, ⟨kv, (.slice (some ⟨gn, 0, none⟩) (k0 + 1) cap), sv, dv, fv, k, k0 + 1, st, kxs, xs0 ++ [.int .i64 a], sts, fxs, ⟨heap_setCell_at wn W0 1 _ _ _ hWn, hoth, own_set hWn (by decide) hon, own_fr hIW.hs hF2 (fun b c hb _ => hot (by decide) (by decide) b c hb), own_fr hIW.hd hF2 (fun b c hb _ => hot (by decide) (by decide) b c hb), own_fr hIW.hf hF2 (fun b c hb _ => hot (by decide) (by decide) b c hb), hne, hro, hIW.so, hIW.w0⟩, hsn, by omega, by omega, by omega, by omega, fun q hq => ((hDW q hq).fr hF2 ?_).mono (by omega), ⟨hPw.pw, hPw.fx, ?_, fun q hq b hb => ⟨(hPw.kr q hq b hb).1, fun e => ?_⟩⟩⟩, (frz_below hFW hsz).trans (hF2.below hbW ?_)⟩
      · intro b c t hb ht
        rcases ht with ⟨rfl, _⟩ | ⟨rfl, _⟩ | ⟨rfl, _⟩ | ht
        · exact hot (by decide) (by decide) b c hb
        · exact hot (by decide) (by decide) b c hb
        · exact hot (by decide) (by decide) b c hb
        · rintro (rfl | hv)
          · rw [hIW.hw] at hb; simp at hb; exact ht.ne.1 hb.2.symm
          · exact (hPw.kr q hq b (ht.ne.2.1 (hvt b c t hb hv))).2 (by rw [← HV.out]; exact hv)
      · obtain ⟨rl, e1, e2⟩ := hPw.rx
        refine ⟨rl ++ [a], by rw [HX.out, e1]; simp, ?_, fun z hz => ?_⟩
        · have h1 := hIW.hr.1
          rw [e1, List.length_map] at h1
          rw [List.length_append, List.length_singleton]; omega
        · rcases List.mem_append.1 hz with hz | hz
          · exact e2.2 z hz
          · rw [List.mem_singleton.1 hz]; exact ⟨ha1, ha2⟩
      · simp only [Value.ownBlock, Option.some.injEq] at e
        subst e
        rcases hgW with e | e
        · exact (hPw.kr q hq gn hb).2 (by rw [← HV.out]; exact e)
        · obtain ⟨_, c, t, hc, _⟩ := (hDW q hq).f gn hb
          have := lt_of_heap hc; omega
      · rintro b (rfl | hv)
        · exact hIW.w0
        · exact (hown.lt b hv).1
    rw [← HO.out]
    refine wp_region_held (S := S) hlift ?_
    change wpAnyH _ _ _ _ S _ _ _ (World.drew _)
    rw [← HW.out]
    refine tkE (S := S) (i := 0) (oi := ⟨some 29, .move (.tmp 0), _, _, _, none⟩) (v := .pointer (some ⟨W0, 0, none⟩)) rfl hS ?_
    simp only [Act.put, lsE, lsZ, lsS]
    refine tkE (S := S) (i := 1) (oi := ⟨some 30, .move (.tmp 0), _, _, _, none⟩) (v := .pointer (some ⟨W0, 0, none⟩)) rfl hS ?_
    simp only [Act.put, lsE, lsZ, lsS]
    refine tkE (S := S) (i := 2) (oi := ⟨some 31, .nilCheck (.tmp 30), _, _, _, none⟩) (v := .pointer (some ⟨W0, 0, none⟩)) rfl hS ?_
    simp only [Act.put, lsE, lsZ, lsS]
    refine tkE (S := S) (i := 3) (oi := ⟨some 32, .fieldAddr 80 (.tmp 31) 1, _, _, _, none⟩) (v := .pointer (some ⟨W0, 1, none⟩)) rfl hS ?_
    simp only [Act.put, lsE, lsZ, lsS]
    refine tkE (S := S) (i := 5) (oi := ⟨some 34, .fieldAddr 74 (.tmp 3) 2, _, _, _, none⟩) (v := .pointer (some ⟨O, 2, none⟩)) rfl hS ?_
    simp only [Act.put, lsE, lsZ, lsS]
    refine tkY (S := S) (i := 6) (oi := ⟨some 35, .load 3 (.tmp 34), _, _, _, none⟩) (v := .int .i64 a) rfl (Or.inl ⟨rfl, fun w' hs => exec_load 3 (.tmp 34) rfl ⟨O, 2, none⟩ rfl (run_loadAt_one hs Tryz.underlying3 rfl)⟩) hS ?_
    simp only [Act.put, lsE, lsZ, lsS]
    refine wpAnyH_all (rs := [4, 7]) (by kernel_rfl) (by simp) ?_
    intro i4 hi4
    simp only [List.mem_cons, List.not_mem_nil, or_false] at hi4
    rcases hi4 with rfl | rfl
    · skip
      refine wpOp_value (o := ⟨some 33, .load 24 (.tmp 32), _, _, _, none⟩) rfl rfl (exec_load 24 (.tmp 32) rfl ⟨W0, 1, none⟩ rfl hl1) ⟨hS, ?_⟩
      simp only [Act.put, lsE, lsZ, lsS]
      refine wpAnyH_all (rs := [7]) (by kernel_rfl) (by simp) ?_
      intro i7 hi7
      obtain rfl : i7 = 7 := by simpa using hi7
      refine wpOp_value (o := ⟨some 36, .buildSlice 24 1 #[(0, .tmp 35)], _, _, _, none⟩) rfl rfl (exec_buildSlice 24 1 #[(0, .tmp 35)] rfl #[(0, .int .i64 a)] (by simp [Act.eval]) hbs) ⟨hSA, ?_⟩
      simp only [Act.put, lsE, lsZ, lsS]
      refine wpAnyH_all (rs := [8]) (by kernel_rfl) (by simp) ?_
      intro i8 hi8
      obtain rfl : i8 = 8 := by simpa using hi8
      refine wpOp_of_wp (o := ⟨some 37, .call { callee := .builtin .append, args := #[.tmp 33, .tmp 36], argTypes := #[24, 24] }, _, _, _, none⟩) rfl rfl ?_
      refine wp_append_lies _ (.tmp 33) (.tmp 36) 24 rfl b0 3 inf (.int .i64 0) 1 8 Tryz.underlying24 hi0 hz0 hz1 hz2 rfl (by decide) v0 k0 xs0 rfl hownA ⟨W.heap.size, 0, none⟩ 1 1 [.int .i64 a] rfl rfl hnewsA (by simp [Value.oneCell']) (by decide) (by unfold maxLen; omega) (by omega) hzA _ rfl ?_
      intro gn cap wn hon hgrow hat hlt
      have hSn : S wn := by
        show wn.cell? ⟨O, 2, none⟩ = _
        rw [hgrow.cell_far ⟨O, 2, none⟩ (by simp; omega) (fun e => hOv _ e.symm rfl)]; exact hSA
      refine ⟨hSn, ?_⟩
      simp only [Act.put, lsE, lsZ, lsS]
      refine tkE (S := S) (i := 9) (oi := ⟨some 38, .nilCheck (.tmp 29), _, _, _, none⟩) (v := .pointer (some ⟨W0, 0, none⟩)) rfl hSn ?_
      simp only [Act.put, lsE, lsZ, lsS]
      refine tkE (S := S) (i := 10) (oi := ⟨some 39, .fieldAddr 80 (.tmp 38) 1, _, _, _, none⟩) (v := .pointer (some ⟨W0, 1, none⟩)) rfl hSn ?_
      simp only [Act.put, lsE, lsZ, lsS]
      refine wpAnyH_all (rs := [11]) (by kernel_rfl) (by simp) ?_
      intro i11 hi11
      obtain rfl : i11 = 11 := by simpa using hi11
      have hWn : wn.heap[W0]? = some (.cells #[kv, rv, sv, dv, fv] 80 (0, 0)) := by rw [hgrow.block W0 (lt_of_heap hWA) (fun e => hWv _ e.symm rfl)]; exact hWA
      have hcn : wn.cell? ⟨W0, 1, none⟩ = some v0 := by rw [cell_of_row wn W0 1 _ _ _ hWn, HV.out]; rfl
      have hSw : S (wn.setCell ⟨W0, 1, none⟩ (.slice (some ⟨gn, 0, none⟩) (k0 + 1) cap)) := by
        show (wn.setCell _ _).cell? ⟨O, 2, none⟩ = _
        rw [World.cell?_setCell_other _ _ _ _ (fun e => hOW0 (congrArg Addr.block e).symm)]; exact hSn
      refine wpOp_skip (o := ⟨none, .store 24 (.tmp 39) (.tmp 37), _, _, _, none⟩) rfl rfl (exec_store 24 (.tmp 39) (.tmp 37) rfl ⟨W0, 1, none⟩ (.slice (some ⟨gn, 0, none⟩) (k0 + 1) cap) rfl rfl (run_storeAt_one hcn (frozen_of_row wn W0 1 _ _ hWn) (by kernel_rfl) rfl)) ⟨hSw, ?_⟩
      simp only [Act.put]
      refine wpAnyH_done (by kernel_rfl) ?_ _
      have HE : Hid (OwnPost G w b0 W0 s (.returned (.bool true)) (wn.setCell ⟨W0, 1, none⟩ (.slice (some ⟨gn, 0, none⟩) (k0 + 1) cap))) := by
        obtain ⟨qs', e1, e2⟩ := fin gn cap wn hon hgrow hat hlt hWn
        exact ⟨qs', rfl, e1, e2⟩
      clear hSw hSn hcn hWn hon hgrow hat fin hl1 hl2 hbs hFA hWA hownA hnewsA hSA hzA hS hOv hWv hvw hown hOW hIW hDW hFW
      go_wp2
      go_ret
      exact HE.out
    · skip
      refine wpOp_value (o := ⟨some 36, .buildSlice 24 1 #[(0, .tmp 35)], _, _, _, none⟩) rfl rfl (exec_buildSlice 24 1 #[(0, .tmp 35)] rfl #[(0, .int .i64 a)] (by simp [Act.eval]) hbs) ⟨hSA, ?_⟩
      simp only [Act.put, lsE, lsZ, lsS]
      refine wpAnyH_all (rs := [4]) (by kernel_rfl) (by simp) ?_
      intro i5 hi5
      obtain rfl : i5 = 4 := by simpa using hi5
      refine wpOp_value (o := ⟨some 33, .load 24 (.tmp 32), _, _, _, none⟩) rfl rfl (exec_load 24 (.tmp 32) rfl ⟨W0, 1, none⟩ rfl hl2) ⟨hSA, ?_⟩
      simp only [Act.put, lsE, lsZ, lsS]
      refine wpAnyH_all (rs := [8]) (by kernel_rfl) (by simp) ?_
      intro i8 hi8
      obtain rfl : i8 = 8 := by simpa using hi8
      refine wpOp_of_wp (o := ⟨some 37, .call { callee := .builtin .append, args := #[.tmp 33, .tmp 36], argTypes := #[24, 24] }, _, _, _, none⟩) rfl rfl ?_
      refine wp_append_lies _ (.tmp 33) (.tmp 36) 24 rfl b0 3 inf (.int .i64 0) 1 8 Tryz.underlying24 hi0 hz0 hz1 hz2 rfl (by decide) v0 k0 xs0 rfl hownA ⟨W.heap.size, 0, none⟩ 1 1 [.int .i64 a] rfl rfl hnewsA (by simp [Value.oneCell']) (by decide) (by unfold maxLen; omega) (by omega) hzA _ rfl ?_
      intro gn cap wn hon hgrow hat hlt
      have hSn : S wn := by
        show wn.cell? ⟨O, 2, none⟩ = _
        rw [hgrow.cell_far ⟨O, 2, none⟩ (by simp; omega) (fun e => hOv _ e.symm rfl)]; exact hSA
      refine ⟨hSn, ?_⟩
      simp only [Act.put, lsE, lsZ, lsS]
      refine tkE (S := S) (i := 9) (oi := ⟨some 38, .nilCheck (.tmp 29), _, _, _, none⟩) (v := .pointer (some ⟨W0, 0, none⟩)) rfl hSn ?_
      simp only [Act.put, lsE, lsZ, lsS]
      refine tkE (S := S) (i := 10) (oi := ⟨some 39, .fieldAddr 80 (.tmp 38) 1, _, _, _, none⟩) (v := .pointer (some ⟨W0, 1, none⟩)) rfl hSn ?_
      simp only [Act.put, lsE, lsZ, lsS]
      refine wpAnyH_all (rs := [11]) (by kernel_rfl) (by simp) ?_
      intro i11 hi11
      obtain rfl : i11 = 11 := by simpa using hi11
      have hWn : wn.heap[W0]? = some (.cells #[kv, rv, sv, dv, fv] 80 (0, 0)) := by rw [hgrow.block W0 (lt_of_heap hWA) (fun e => hWv _ e.symm rfl)]; exact hWA
      have hcn : wn.cell? ⟨W0, 1, none⟩ = some v0 := by rw [cell_of_row wn W0 1 _ _ _ hWn, HV.out]; rfl
      have hSw : S (wn.setCell ⟨W0, 1, none⟩ (.slice (some ⟨gn, 0, none⟩) (k0 + 1) cap)) := by
        show (wn.setCell _ _).cell? ⟨O, 2, none⟩ = _
        rw [World.cell?_setCell_other _ _ _ _ (fun e => hOW0 (congrArg Addr.block e).symm)]; exact hSn
      refine wpOp_skip (o := ⟨none, .store 24 (.tmp 39) (.tmp 37), _, _, _, none⟩) rfl rfl (exec_store 24 (.tmp 39) (.tmp 37) rfl ⟨W0, 1, none⟩ (.slice (some ⟨gn, 0, none⟩) (k0 + 1) cap) rfl rfl (run_storeAt_one hcn (frozen_of_row wn W0 1 _ _ hWn) (by kernel_rfl) rfl)) ⟨hSw, ?_⟩
      simp only [Act.put]
      refine wpAnyH_done (by kernel_rfl) ?_ _
      have HE : Hid (OwnPost G w b0 W0 s (.returned (.bool true)) (wn.setCell ⟨W0, 1, none⟩ (.slice (some ⟨gn, 0, none⟩) (k0 + 1) cap))) := by
        obtain ⟨qs', e1, e2⟩ := fin gn cap wn hon hgrow hat hlt hWn
        exact ⟨qs', rfl, e1, e2⟩
      clear hSw hSn hcn hWn hon hgrow hat fin hl1 hl2 hbs hFA hWA hownA hnewsA hSA hzA hS hOv hWv hvw hown hOW hIW hDW hFW
      go_wp2
      go_ret
      exact HE.out
end Go.Proofs.YteebjgfalllbjaaGreatDoor
