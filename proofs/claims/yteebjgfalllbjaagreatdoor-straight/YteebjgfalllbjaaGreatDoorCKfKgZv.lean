import Derived.Test.YteebjgfalllbjaaGreatDoorCKeKrZs
import Derived.Test.YteebjgfalllbjaaGreatDoorCJrFmJf
import Derived.Laws.MakeOwn
import Derived.Test.YteebjgfalllbjaaGreatDoorCEaTnKb
import Derived.Test.YteebjgfalllbjaaGreatDoorCPaAs1Kd
import Derived.Test.YteebjgfalllbjaaGreatDoorCZmZpZn
import Derived.Test.YteebjgfalllbjaaGreatDoorCSaSvDv
namespace Go.Proofs.YteebjgfalllbjaaGreatDoor
open Go.RowKit
def U8s (bs : List Value) : Prop := ∀ v ∈ bs, ∃ k : Nat, k < 256 ∧ v = .int .u8 k
theorem U8s.append {a b : List Value} (ha : U8s a) (hb : U8s b) : U8s (a ++ b) := fun v hv => by
 rcases List.mem_append.1 hv with h | h
 ·exact ha v h
 ·exact hb v h
theorem U8s.rep (n : Nat) : U8s (List.replicate n (Value.int .u8 0)) := fun v hv => ⟨0, by decide, (List.mem_replicate.1 hv).2⟩
end Go.Proofs.YteebjgfalllbjaaGreatDoor
namespace Go.Proofs.YteebjgfalllbjaaGreatDoor
open Go.RowKit
theorem byteCells_u8 (l : List UInt8) : U8s (Lib.byteCells l) := fun v hv => by
 obtain ⟨b, _, rfl⟩ := List.mem_map.1 hv
 exact ⟨b.toNat, b.toNat_lt, rfl⟩
theorem headB_u8 {n : Nat} (hn : n ≤ 400) : U8s (headB n) := by
 intro v hv
 simp only [headB, markB, List.mem_append, List.mem_cons, List.not_mem_nil, or_false, List.mem_map, List.mem_replicate] at hv
 rcases hv with (rfl | rfl | rfl) | ⟨b, _, rfl⟩ | ⟨_, rfl⟩
 ·exact ⟨1, by decide, rfl⟩
 ·exact ⟨n / 256, by omega, congrArg _ (by omega)⟩
 ·exact ⟨n % 256, by omega, congrArg _ (by omega)⟩
 ·exact ⟨b.toNat, b.toNat_lt, rfl⟩
 ·exact ⟨0, by decide, rfl⟩
theorem bodyS_u8 {id n : Nat} {l : List SS} (hid : id ≤ 1000) (hn : n ≤ 6) (hl : ∀ p ∈ l, p.1.size ≤ 8 ∧ p.2.size ≤ 8) (i : Nat) : U8s (bodyS id n l i) := by
 intro v hv
 simp only [bodyS, stepsB, stepB, pad8, zv, List.mem_append, List.mem_cons, List.not_mem_nil, or_false, List.mem_flatten, List.mem_map, List.mem_replicate] at hv
 rcases hv with (rfl | rfl | rfl) | ⟨x, ⟨q, hq, rfl⟩, hx⟩ | ⟨_, rfl⟩
 ·exact ⟨id / 256, by omega, rfl⟩
 ·exact ⟨id % 256, by omega, rfl⟩
 ·exact ⟨n, by omega, rfl⟩
 ·have h8 := hl q (List.mem_of_mem_take hq)
  rcases List.mem_cons.1 hx with rfl | hx
  ·exact ⟨q.1.size * 16 + q.2.size, by omega, rfl⟩
  ·rcases List.mem_append.1 hx with hx | hx
   ·rcases List.mem_append.1 hx with hx | hx
    ·exact byteCells_u8 _ _ hx
    ·exact ⟨0, by decide, (List.mem_replicate.1 hx).2⟩
   ·rcases List.mem_append.1 hx with hx | hx
    ·exact byteCells_u8 _ _ hx
    ·exact ⟨0, by decide, (List.mem_replicate.1 hx).2⟩
 ·exact ⟨0, by decide, rfl⟩
theorem ldB_u8 {k : Nat} (hk : k < 256) {bd : List Value} (h : U8s bd) (i : Nat) : U8s (ldB k bd i) := fun v hv => by
 simp only [ldB, scts, List.mem_append, List.mem_flatten, List.mem_map, List.mem_replicate] at hv
 rcases hv with ⟨x, ⟨j, _, rfl⟩, hx⟩ | ⟨_, rfl⟩
 ·rcases List.mem_cons.1 hx with rfl | hx
  ·exact ⟨k, hk, rfl⟩
  ·exact h v (List.mem_of_mem_drop (List.mem_of_mem_take hx))
 ·exact ⟨0, by decide, rfl⟩
theorem take_u8 {id : Nat} {st : List SS} (h : sagaOk (id : Int) st = true) : U8s (Rec.take id st).bytes := by
 obtain ⟨h1, h2, _, h6, h8⟩ := saga_of id st h
 exact ldB_u8 (by decide) (bodyS_u8 (by omega) h6 (six_ok h8) 6) 4
theorem move_u8 {id r : Nat} (hid : id ≤ 1000) (hr : r ≤ 2) : U8s (Rec.move id r).bytes := ldB_u8 (by decide) (bodyS_u8 (l := []) hid (Nat.le_trans hr (by decide)) (fun p hp => absurd hp (by simp)) 0) 4
theorem Rec.u8 {L : List AS} {r : Rec} (h : r.Ok L) : U8s r.bytes := by
 cases r with
 | take id st =>
  obtain ⟨h1, h2, _, h6, h8⟩ := saga_of id st h.1
  exact ldB_u8 (by decide) (bodyS_u8 (by omega) h6 (six_ok h8) 6) 4
 | move id r => exact ldB_u8 (by decide) (bodyS_u8 (l := []) h.2.1 (Nat.le_trans h.1 (by decide)) (fun p hp => absurd hp (by simp)) 0) 4
theorem lay_u8 {n : Nat} {rs : List Rec} (hn : n ≤ 400) (h : RecsOk rs) : U8s (layB n (rs.map Rec.bytes)) := by
 refine (headB_u8 hn).append (U8s.append (fun v hv => ?_) (U8s.rep _))
 obtain ⟨b, hb, hv⟩ := List.mem_flatten.1 hv
 obtain ⟨r, hr, rfl⟩ := List.mem_map.1 hb
 obtain ⟨i, hi⟩ := List.mem_iff_getElem?.1 hr
 exact Rec.u8 (h i r hi) v hv
section
variable {w : World} {A B n Pp : Nat} {calls writes : Int}
theorem open0 (p : Int) (hp1 : 1 ≤ p) (hp2 : p ≤ 64) (hd : DiskAt w A B n (.slice none 0 0) calls writes) (hr : RowsAt w B n (emptyB n)) (h0 : 0 ≤ calls) (h1 : calls ≤ 500) (h2 : 0 ≤ writes) (h3 : writes ≤ 1000) (n8 : 8 ≤ n) (n4 : n ≤ 400) :
  Calls Tryz.prog 33 #[.pointer (some ⟨A, 0, none⟩), .int .i64 p, .pointer (some ⟨Pp, 0, none⟩)] w fun e w' => ∃ X F, e = .returned (.tuple #[.pointer (some ⟨X, 0, none⟩), .nilIface]) ∧ EN w' 1 X A B n 0 p (askV Pp) [] [] F ∧ FU w' F ∧ (∀ b, F b → w.heap.size ≤ b) ∧ Fr (fun b => b = A) w w' := by
 have hAl := lt_of_heap hd
 refine pOpen_any ?_
 refine (sOpen_ok (recs := []) p (by omega) (by omega) hd hr h0 (by omega) n8 n4 (layB_nil n).symm (by simp; omega) (fun r hr => absurd hr (by simp))
  (fun R _ W => RollAt W R w.heap.size ((n : Int) - 1) (.slice none 0 0) []) (fun R W hRw hroll hsz => ⟨hroll, World.ownsRow_nil _ _ _ _, by simp⟩)
  (fun R i W W' hRw hRP hf => hRP.fr hf (fun b hb h => ?_)) (fun R i r W hRw hr => by simp at hr)).mono ?_
 ·rcases hb with rfl | hb | ⟨q, hq, _⟩
  ·omega
  ·cases hb
  ·cases hq
 ·rintro e w' ⟨X, rfl, V, R, J, cl, g1, g2, g3, g4, g5, g6, g7, g8, g9, g10⟩
  refine ⟨_, _, rfl, X, EngF X J R V (.slice none 0 0) [], rfl, ?_, ?_, ?_, g10⟩
  ·refine ⟨⟨n8, n4, Int.le_refl _, recsOk_nil, by simp [needC], rfl, by simp⟩, J, R, V, w.heap.size, (n : Int) - 1, .slice none 0 0, [], false, cl, writes, ⟨by omega, by omega, h2, by omega⟩, ⟨g1, g5, ⟨g4.v, g4.d, g4.r, g4.j⟩⟩, rfl, by simp [needC], g10.size, fun b hb => hb⟩
  ·exact es_fu (A := A) (B := B) (n := n) (calls := cl) (writes := writes) ⟨g1, g5, ⟨g4.v, g4.d, g4.r, g4.j⟩⟩
  ·rintro b (rfl | rfl | rfl | rfl | hb | ⟨q, hq, _⟩)
   ·omega
   ·omega
   ·omega
   ·omega
   ·cases hb
   ·cases hq
end
end Go.Proofs.YteebjgfalllbjaaGreatDoor
namespace Go.Proofs.YteebjgfalllbjaaGreatDoor
open Go.RowKit
structure Torn (tl : List Value) : Prop where
 len : tl.length = 128
 k : ∃ b : Nat → Nat, (∀ i, i < 4 → tl[i * 32]? = some (.int .u8 (b i))) ∧ ∃ i, i < 4 ∧ b i = 0
theorem Torn.not {tl : List Value} (h : Torn tl) : ∃ b : Nat → Nat, (∀ i, i < 4 → tl[i * 32]? = some (.int .u8 (b i))) ∧ wholeK b = false := by
 obtain ⟨b, hb, i, hi, h0⟩ := h.k
 refine ⟨b, hb, ?_⟩
 unfold wholeK
 rw [decide_eq_false_iff_not]
 rintro ⟨h1, h2⟩
 have := h1 ⟨i, hi⟩
 simp only at this
 omega
theorem zB_get {i : Nat} (h : i < 128) : zB[i]? = some (.int .u8 0) := by unfold zB; rw [List.getElem?_replicate, if_pos h]
theorem U8s.one {l : List Value} (h : U8s l) : ∀ v ∈ l, v.oneCell' = true := fun v hv => by
 obtain ⟨k, _, rfl⟩ := h v hv; rfl
theorem zB_u8 : U8s zB := U8s.rep _
def RecU (r : List Value) : Prop := RecOk r ∧ U8s r
theorem torn_zB : Torn zB := ⟨zB_len, fun _ => 0, fun i hi => zB_get (by omega), 0, by decide, rfl⟩
structure LayJ (n m : Nat) (cont : List Value) (recs : List (List Value)) (tl : List Value) : Prop where
 nm : n ≤ m
 len : cont.length = m * 128
 one : U8s cont
 head : blkOf cont 0 = headB n
 get : ∀ (i : Nat) (r : List Value), recs[i]? = some r → blkOf cont (i + 1) = r
 tail : recs.length + 1 < n → blkOf cont (recs.length + 1) = tl ∧ Torn tl
 zero : ∀ i, recs.length + 1 < i → i < n → blkOf cont i = zB
section
variable {n m : Nat} {cont : List Value} {recs : List (List Value)} {tl : List Value}
theorem LayJ.lay (h : LayJ n m cont recs tl) : LayT n cont recs tl := ⟨⟨m, h.nm, h.len⟩, h.one.one, h.head, h.get, fun hn => (h.tail hn).1, fun hn => (h.tail hn).2.not, h.zero⟩
theorem LayJ.oneS (h : LayJ n m cont recs tl) {c : List Value} {o : Nat} (hc : U8s c) : U8s (splice cont o c) := fun v hv => by
 rcases mem_splice hv with hv | hv
 ·exact h.one v hv
 ·exact hc v hv
theorem LayJ.wipe (h : LayJ n m cont recs tl) (he : recs.length + 1 < n) : LayJ n m (splice cont ((recs.length + 1) * 128) zB) recs zB := by
 have hm := h.nm
 have hb : ∀ i, i < m → blkOf (splice cont ((recs.length + 1) * 128) zB) i = if recs.length + 1 = i then zB else blkOf cont i := fun i hi => blk_splice h.len zB_len (by omega) hi
 refine ⟨h.nm, by rw [splice_len (by rw [zB_len, h.len]; omega), h.len], h.oneS zB_u8, ?_, ?_, ?_, ?_⟩
 ·rw [hb 0 (by omega), if_neg (by omega)]; exact h.head
 ·intro i r hr
  have := (List.getElem?_eq_some_iff.1 hr).1
  rw [hb (i + 1) (by omega), if_neg (by omega)]; exact h.get i r hr
 ·intro _
  rw [hb _ (by omega), if_pos rfl]; exact ⟨rfl, torn_zB⟩
 ·intro i h1 h2
  rw [hb i (by omega), if_neg (by omega)]; exact h.zero i h1 h2
theorem LayJ.add {r : List Value} (h : LayJ n m cont recs tl) (he : recs.length + 1 < n) (hl : r.length = 128) (ho : U8s r) : LayJ n m (splice cont ((recs.length + 1) * 128) r) (recs ++ [r]) zB := by
 have hm := h.nm
 have hb : ∀ i, i < m → blkOf (splice cont ((recs.length + 1) * 128) r) i = if recs.length + 1 = i then r else blkOf cont i := fun i hi => blk_splice h.len hl (by omega) hi
 refine ⟨h.nm, by rw [splice_len (by rw [hl, h.len]; omega), h.len], h.oneS ho, ?_, ?_, ?_, ?_⟩
 ·rw [hb 0 (by omega), if_neg (by omega)]; exact h.head
 ·intro i x hx
  have hlt := (List.getElem?_eq_some_iff.1 hx).1
  rw [List.length_append, List.length_singleton] at hlt
  rw [hb (i + 1) (by omega)]
  by_cases hi : recs.length = i
  ·rw [if_pos (by omega)]
   rw [← hi, List.getElem?_append_right (Nat.le_refl _), Nat.sub_self] at hx
   simpa using hx
  ·rw [if_neg (by omega)]
   rw [List.getElem?_append_left (by omega)] at hx
   exact h.get i x hx
 ·rw [List.length_append, List.length_singleton]
  intro hn
  rw [hb _ (by omega), if_neg (by omega)]
  exact ⟨h.zero _ (by omega) hn, torn_zB⟩
 ·rw [List.length_append, List.length_singleton]
  intro i h1 h2
  rw [hb i (by omega), if_neg (by omega)]; exact h.zero i (by omega) h2
end
def ZW (n e : Nat) (ents : List (Nat × List Value)) : Prop := ∀ p ∈ ents, p = (e, zB) ∧ e < n
theorem ZW.snoc {n e : Nat} {ents : List (Nat × List Value)} (h : ZW n e ents) (he : e < n) : ZW n e (ents ++ [(e, zB)]) := fun p hp => by
 rcases List.mem_append.1 hp with hp | hp
 ·exact h p hp
 ·exact ⟨List.mem_singleton.1 hp, he⟩
theorem LayJ.wipes {n m : Nat} {recs : List (List Value)} : ∀ {ents : List (Nat × List Value)} {cont tl : List Value}, LayJ n m cont recs tl → ZW n (recs.length + 1) ents → (ents = [] ∧ lain cont ents = cont) ∨ LayJ n m (lain cont ents) recs zB
 | [], _, _, _, _ => .inl ⟨rfl, rfl⟩
 | p :: l, cont, tl, h, hz => by
  obtain ⟨rfl, he⟩ := hz p (by simp)
  have h1 := h.wipe he
  have e : lain cont ((recs.length + 1, zB) :: l) = lain (splice cont ((recs.length + 1) * 128) zB) l := rfl
  rw [e]
  rcases LayJ.wipes (ents := l) h1 (fun q hq => hz q (by simp [hq])) with ⟨_, h2⟩ | h2
  ·rw [h2]; exact .inr h1
  ·exact .inr h2
theorem LayJ.wipes' {n m : Nat} {recs : List (List Value)} {ents : List (Nat × List Value)} {cont tl : List Value} (h : LayJ n m cont recs tl) (hz : ZW n (recs.length + 1) ents) : ∃ tl', LayJ n m (lain cont ents) recs tl' := by
 rcases h.wipes hz with ⟨_, h1⟩ | h1
 ·rw [h1]; exact ⟨tl, h⟩
 ·exact ⟨zB, h1⟩
def JD (n : Nat) (s : DS) (recs : List (List Value)) : Prop :=
 (∃ tl, LayJ n s.d.cap s.bs recs tl ∧ ZW n (recs.length + 1) s.ents) ∨
 (∃ rs0 r es, recs = rs0 ++ [r] ∧ LayJ n s.d.cap s.bs rs0 zB ∧ s.ents = (rs0.length + 1, r) :: es ∧ ZW n (recs.length + 1) es ∧ RecU r ∧ rs0.length + 1 < n)
def JZ (n : Nat) (s : DS) (recs : List (List Value)) : Prop := ∃ tl, LayJ n s.d.cap s.bs recs tl ∧ ZW n (recs.length + 1) s.ents
def JSet (n : Nat) (s : DS) (recs : List (List Value)) : Prop := LayJ n s.d.cap s.bs recs zB ∧ s.ents = []
section
variable {n : Nat} {s : DS} {recs : List (List Value)}
theorem JZ.jd (h : JZ n s recs) : JD n s recs := .inl h
theorem JSet.jz (h : JSet n s recs) : JZ n s recs := ⟨zB, h.1, by rw [h.2]; exact fun p hp => absurd hp (by simp)⟩
theorem JZ.keep {s' : DS} (h : JZ n s recs) (h1 : s'.ents = s.ents) (h2 : s'.bs = s.bs) (h3 : s'.d.cap = s.d.cap) : JZ n s' recs := by
 unfold JZ
 rw [h1, h2, h3]; exact h
theorem JZ.wipe {s' : DS} (h : JZ n s recs) (he : recs.length + 1 < n) (h1 : s'.ents = s.ents ++ [(recs.length + 1, zB)]) (h2 : s'.bs = s.bs) (h3 : s'.d.cap = s.d.cap) : JZ n s' recs := by
 obtain ⟨tl, h4, h5⟩ := h
 exact ⟨tl, by rw [h2, h3]; exact h4, by rw [h1]; exact h5.snoc he⟩
theorem JSet.jd (h : JSet n s recs) : JD n s recs := .inl ⟨zB, h.1, by rw [h.2]; exact fun p hp => absurd hp (by simp)⟩
theorem JD.view (h : JD n s recs) : ∃ tl, LayJ n s.d.cap (lain s.bs s.ents) recs tl := by
 rcases h with ⟨tl, h1, h2⟩ | ⟨rs0, r, es, rfl, h1, h2, h3, h4, h5⟩
 ·exact h1.wipes' h2
 ·rw [h2]
  exact (h1.add h5 h4.1.1 h4.2).wipes' h3
theorem JD.keep {s' : DS} (h : JD n s recs) (h1 : s'.ents = s.ents) (h2 : s'.bs = s.bs) (h3 : s'.d.cap = s.d.cap) : JD n s' recs := by
 unfold JD
 rw [h1, h2, h3]; exact h
theorem JD.wipe {s' : DS} (h : JD n s recs) (he : recs.length + 1 < n) (h1 : s'.ents = s.ents ++ [(recs.length + 1, zB)]) (h2 : s'.bs = s.bs) (h3 : s'.d.cap = s.d.cap) : JD n s' recs ∧ LayJ n s'.d.cap (lain s'.bs s'.ents) recs zB := by
 rw [h1, h2, h3]
 have hl : ∀ ents, lain s.bs (ents ++ [(recs.length + 1, zB)]) = splice (lain s.bs ents) ((recs.length + 1) * 128) zB := fun ents => by simp [lain]
 obtain ⟨tl, hv⟩ := h.view
 refine ⟨?_, by rw [hl]; exact hv.wipe he⟩
 rcases h with ⟨tl, h4, h5⟩ | ⟨rs0, r, es, rfl, h4, h5, h6, h7, h8⟩
 ·exact .inl ⟨tl, by rw [h2, h3]; exact h4, by rw [h1]; exact h5.snoc he⟩
 ·exact .inr ⟨rs0, r, es ++ [((rs0 ++ [r]).length + 1, zB)], rfl, by rw [h2, h3]; exact h4, by rw [h1, h5]; rfl, h6.snoc he, h7, h8⟩
theorem JSet.pend {s' : DS} {r : List Value} (h : JSet n s recs) (he : recs.length + 1 < n) (hr : RecU r) (h1 : s'.ents = s.ents ++ [(recs.length + 1, r)]) (h2 : s'.bs = s.bs) (h3 : s'.d.cap = s.d.cap) : JD n s' (recs ++ [r]) ∧ LayJ n s'.d.cap (lain s'.bs s'.ents) (recs ++ [r]) zB := by
 have e : s'.ents = [(recs.length + 1, r)] := by rw [h1, h.2]; rfl
 refine ⟨.inr ⟨recs, r, [], rfl, by rw [h2, h3]; exact h.1, e, fun p hp => absurd hp (by simp), hr, he⟩, ?_⟩
 rw [e, h2, h3]
 exact h.1.add he hr.1.1 hr.2
structure Moved (k : Int) (a b : DP) : Prop where
 c0 : a.calls ≤ b.calls
 c1 : b.calls ≤ a.calls + k
 w0 : a.writes ≤ b.writes
 w1 : b.writes ≤ a.writes + k
 t0 : a.told ≤ b.told
 t1 : b.told ≤ a.told + k
 o : b.off = a.off
 l : b.lo = a.lo
 h : b.hi = a.hi
 c : b.cap = a.cap
theorem Moved.refl (a : DP) : Moved 0 a a := ⟨by omega, by omega, by omega, by omega, by omega, by omega, rfl, rfl, rfl, rfl⟩
theorem Moved.trans {a b c : DP} {k l : Int} (h : Moved k a b) (h' : Moved l b c) : Moved (k + l) a c := by
 obtain ⟨a1, a2, a3, a4, a5, a6, a7, a8, a9, a0⟩ := h
 obtain ⟨b1, b2, b3, b4, b5, b6, b7, b8, b9, b0⟩ := h'
 exact ⟨by omega, by omega, by omega, by omega, by omega, by omega, by omega, by omega, by omega, by omega⟩
theorem Moved.mono {a b : DP} {k l : Int} (h : Moved k a b) (hk : k ≤ l) : Moved l a b := by
 obtain ⟨a1, a2, a3, a4, a5, a6, a7, a8, a9, a0⟩ := h
 exact ⟨by omega, by omega, by omega, by omega, by omega, by omega, a7, a8, a9, a0⟩
theorem moved_next (a : DP) : Moved 1 a a.next := by
 have := a.told_next
 exact ⟨by show a.calls ≤ a.calls + 1; omega, by show a.calls + 1 ≤ a.calls + 1; omega, Int.le_refl _, by show a.writes ≤ a.writes + 1; omega, this.1, this.2, rfl, rfl, rfl, rfl⟩
theorem moved_wrote (a : DP) : Moved 1 a a.next.wrote := by
 have := a.told_next
 exact ⟨by show a.calls ≤ a.calls + 1; omega, by show a.calls + 1 ≤ a.calls + 1; omega, by show a.writes ≤ a.writes + 1; omega, by show a.writes + 1 ≤ a.writes + 1; omega, this.1, this.2, rfl, rfl, rfl, rfl⟩
theorem Moved.good {a b : DP} {k : Int} (h : Moved k a b) (hg : a.good) : b.good := ⟨by rw [h.o]; exact hg.1, by rw [h.h, h.l]; exact hg.2⟩
theorem put_cases (s : DS) (i : Nat) (b : List Value) : Moved 2 s.d (s.put i b).2.d ∧ (s.d.good → (s.put i b).1 = true) ∧ (s.put i b).2.ents.length ≤ s.ents.length + 1 ∧
  (((s.put i b).1 = false ∧ (s.put i b).2.ents = s.ents ∧ (s.put i b).2.bs = s.bs) ∨ ((s.put i b).1 = false ∧ (s.put i b).2.ents = s.ents ++ [(i, b)] ∧ (s.put i b).2.bs = s.bs) ∨ ((s.put i b).1 = true ∧ (s.put i b).2.ents = [] ∧ (s.put i b).2.bs = lain s.bs (s.ents ++ [(i, b)]))) := by
 unfold DS.put
 by_cases h1 : s.d.bad = true
 ·have e : s.store i b = (false, s.fail) := by unfold DS.store; rw [if_pos h1]
  rw [e]
  refine ⟨(moved_next s.d).mono (by decide), (fun hg => by rw [hg.bad] at h1; cases h1), Nat.le_succ _, .inl ⟨rfl, rfl, rfl⟩⟩
 ·have e : s.store i b = (true, ⟨s.d.next.wrote, s.ents ++ [(i, b)], s.bs⟩) := by unfold DS.store; rw [if_neg h1]
  rw [e]
  simp only [if_true]
  unfold DS.secure
  by_cases h2 : s.d.next.wrote.bad = true
  ·rw [if_pos h2]
   refine ⟨(moved_wrote s.d).trans (moved_next _), (fun hg => by have := ((moved_wrote s.d).good hg).bad; rw [this] at h2; cases h2), by simp [DS.fail], .inr (.inl ⟨rfl, rfl, rfl⟩)⟩
  ·rw [if_neg h2]
   exact ⟨(moved_wrote s.d).trans (moved_next _), fun _ => rfl, Nat.zero_le _, .inr (.inr ⟨rfl, rfl, rfl⟩)⟩
theorem settle_jd {sb : Bool} (h : JD n s recs) (hs : sb = true → JSet n s recs) (he : recs.length + 1 < n) :
  Moved 2 s.d (settleD sb s (recs.length + 1)).2.d ∧ (s.d.good → (settleD sb s (recs.length + 1)).1 = true) ∧ (settleD sb s (recs.length + 1)).2.ents.length ≤ s.ents.length + 1 ∧ (JD n (settleD sb s (recs.length + 1)).2 recs ∧ (JZ n s recs → JZ n (settleD sb s (recs.length + 1)).2 recs)) ∧ ((settleD sb s (recs.length + 1)).1 = true → JSet n (settleD sb s (recs.length + 1)).2 recs) := by
 cases sb with
 | true => exact ⟨(Moved.refl _).mono (by decide), fun _ => rfl, Nat.le_succ _, ⟨h, fun h => h⟩, fun _ => hs rfl⟩
 | false =>
  have e : settleD false s (recs.length + 1) = s.put (recs.length + 1) zB := rfl
  rw [e]
  obtain ⟨p1, p2, p3, p4⟩ := put_cases s (recs.length + 1) zB
  refine ⟨p1, p2, p3, ?_⟩
  rcases p4 with ⟨q1, q2, q3⟩ | ⟨q1, q2, q3⟩ | ⟨q1, q2, q3⟩
  ·exact ⟨⟨h.keep q2 q3 p1.c, fun h => h.keep q2 q3 p1.c⟩, (fun h => by rw [q1] at h; cases h)⟩
  ·exact ⟨⟨(h.wipe he q2 q3 p1.c).1, fun h => h.wipe he q2 q3 p1.c⟩, fun h => by rw [q1] at h; cases h⟩
  ·have h1 := (h.wipe (s' := ⟨s.d, s.ents ++ [(recs.length + 1, zB)], s.bs⟩) he rfl rfl rfl).2
   have h2 : JSet n (s.put (recs.length + 1) zB).2 recs := ⟨by rw [q3, p1.c]; exact h1, q2⟩
   exact ⟨⟨h2.jd, fun _ => h2.jz⟩, fun _ => h2⟩
theorem add_jd {sb : Bool} {r : List Value} (h : JD n s recs) (hs : sb = true → JSet n s recs) (he : recs.length + 1 < n) (hr : RecU r) :
  Moved 4 s.d (addD sb s (recs.length + 1) r).2.d ∧ (s.d.good → (addD sb s (recs.length + 1) r).1 = true) ∧ (addD sb s (recs.length + 1) r).2.ents.length ≤ s.ents.length + 2 ∧ ((addD sb s (recs.length + 1) r).1 = true → JSet n (addD sb s (recs.length + 1) r).2 (recs ++ [r])) ∧ (¬ (addD sb s (recs.length + 1) r).1 = true → (JD n (addD sb s (recs.length + 1) r).2 recs ∧ (JZ n s recs → JZ n (addD sb s (recs.length + 1) r).2 recs)) ∨ JD n (addD sb s (recs.length + 1) r).2 (recs ++ [r])) := by
 obtain ⟨a1, a2, a3, a4, a5⟩ := settle_jd h hs he
 unfold addD
 by_cases hok : (settleD sb s (recs.length + 1)).1 = true
 ·rw [if_pos hok]
  have hS := a5 hok
  generalize (settleD sb s (recs.length + 1)).2 = s1 at *
  obtain ⟨p1, p2, p3, p4⟩ := put_cases s1 (recs.length + 1) r
  refine ⟨a1.trans p1, fun hg => p2 (a1.good hg), by omega, ?_⟩
  rcases p4 with ⟨q1, q2, q3⟩ | ⟨q1, q2, q3⟩ | ⟨q1, q2, q3⟩
  ·exact ⟨(fun h => by rw [q1] at h; cases h), fun _ => .inl ⟨a4.1.keep q2 q3 p1.c, fun _ => hS.jz.keep q2 q3 p1.c⟩⟩
  ·exact ⟨(fun h => by rw [q1] at h; cases h), fun _ => .inr (hS.pend he hr q2 q3 p1.c).1⟩
  ·have h1 := (hS.pend (s' := ⟨s1.d, s1.ents ++ [(recs.length + 1, r)], s1.bs⟩) he hr rfl rfl rfl).2
   exact ⟨fun _ => ⟨by rw [q3, p1.c]; exact h1, q2⟩, fun h => absurd q1 h⟩
 ·rw [if_neg hok]
  exact ⟨a1.mono (by decide), fun hg => absurd (a2 hg) hok, by show (settleD sb s (recs.length + 1)).2.ents.length ≤ _; omega, (fun h => by cases h), fun _ => .inl a4⟩
end
end Go.Proofs.YteebjgfalllbjaaGreatDoor
