import Derived.Test.YteebjgfalllbjaaGreatDoorCZhZiZl
import Derived.Test.YteebjgfalllbjaaGreatDoorCKcKeKr
import Derived.Test.YteebjgfalllbjaaGreatDoorCRg2FeAd
import Derived.Test.YteebjgfalllbjaaGreatDoorCFoReAk
import Derived.Test.YteebjgfalllbjaaGreatDoorCWhJrFm
namespace Go.Proofs.YteebjgfalllbjaaGreatDoor
open Go.RowKit
section
variable {w : World} {A B n : Nat} {cache : Value} {d : DP}
theorem Off_gen (h : DkAt w A B n cache d) (h0 : 0 ≤ d.calls) (h1 : d.calls < 1000000000) (k : Int) (hk : 0 ≤ k) (hk1 : k ≤ 1000) :
    Calls Tryz.prog 30 #[.pointer (some ⟨A, 0, none⟩), .int .i64 k] w fun e w' => e = .returned (.tuple #[]) ∧ DkAt w' A B n cache { d with off := d.calls + k } ∧ Fr (· = A) w w' := by
  have c2 : w.cell? ⟨A, 2, none⟩ = some (.int .i64 d.calls) := h.c rfl
  have c5 : w.cell? ⟨A, 5, none⟩ = some (.int .i64 d.off) := h.c rfl
  have f5 := h.fz 5
  have HE : Hid (DkAt (w.setCell ⟨A, 5, none⟩ (.int .i64 (d.calls + k))) A B n cache { d with off := d.calls + k } ∧ Fr (· = A) w (w.setCell ⟨A, 5, none⟩ (.int .i64 (d.calls + k)))) := ⟨h.set5 _, Fr.set1 _ _ _ _⟩
  clear h
  go_enter Tryz.func30, Tryz.ntmps30
  go_wp2
  go_end0
  exact ⟨rfl, HE.out⟩
end
/-- append to nothing: what lies there then. -/
theorem wpList_append_new {P : Program} {w : World} {ops : Array Oper} {rest : List Oper} {o : Oper} {a : Act} {Q : Exit → Act → World → Prop} (hgd : o.guard = none) (s x : Operand) (t : TypeId)
    (ho : o.op = .call { callee := .builtin .append, args := #[s, x], argTypes := #[t, t] })
    (e : TypeId) (i : TypeInfo) (z : Value) (size bytes : Nat) (ht : P.underlying t = some (.slice e)) (hi : P.info? e = some i) (hz : i.zero = some z) (hsize : i.size = size) (hby : i.bytes = bytes)
    (hs : a.eval s = .slice none 0 0) (ad : Addr) (m c : Nat) (news : List Value) (hx : a.eval x = .slice (some ad) m c) (hl : news.length = m * size) (hnews : ∀ j u, news[j]? = some u → w.cell? (ad.add j) = some u)
    (h0 : 0 < m) (h63 : m < 1000000) (h48 : m * bytes ≤ 281474976710656)
    (h : ∀ g cap w', m ≤ cap → Hid (g = w.heap.size) → Hid (w' = w.drew.alloc (.cells (news.toArray ++ Builtin.zeroCells z.cells (cap - m)) e)) → wpList P ops Q rest (a.put o.dst (.slice (some ⟨g, 0, none⟩) m cap)) w') : wpList P ops Q (o :: rest) a w := by
  subst hsize hby
  have hr := run_append_nil (P := P) w t o.type e i z ht hi hz ad m c news hl hnews h0 (by omega) h48
  refine wpList_plain hgd fun K hK => ?_
  unfold Oper.wp execOp
  simp only [ho, resolve, invoke, builtin, Sem.run_bind, Sem.run_pure, Result.andThen_ok, List.map_toArray, List.map_cons, List.map_nil, hs, hx, hr]
  exact hK _ _ (h _ _ _ (grownCap_ge _ _ _ _) rfl rfl)
/-- Is this sector of a write there? -/
def bitZ (z : Int) (t : Nat) : Bool := bits BinOp.and IntKind.i64 (z / 2 ^ t) 1 == 1
/-- A write of which some sectors are there: the first t of them are looked at. -/
def cutS (b : List Value) (a : Nat) (dd : List Value) (z : Int) : Nat → List Value
  | 0 => b
  | t + 1 => if bitZ z t = true then splice (cutS b a dd z t) (a * 128 + t * 32) ((dd.drop (t * 32)).take 32) else cutS b a dd z t
theorem cutS_zero (b : List Value) (a : Nat) (dd : List Value) (z : Int) : cutS b a dd z 0 = b := rfl
def cutL (b : List Value) (l : List ((Nat × List Value) × Int)) : List Value := l.foldl (fun b p => cutS b p.1.1 p.1.2 p.2 4) b
theorem zero128 (m : Nat) : (Builtin.zeroCells (Value.agg z128).cells m).toList = List.replicate (m * 128) (.int .u8 0) := by
  have e : (Value.agg z128).cells = z128 := rfl
  rw [e]
  apply List.ext_getElem?
  intro i
  by_cases h : i < m * 128
  · rw [List.getElem?_replicate, if_pos h, Array.getElem?_toList]
    simp [Builtin.zeroCells, z128_size, h]
    have : i % 128 < 128 := Nat.mod_lt _ (by decide)
    simp [z128, this]
  · rw [List.getElem?_replicate, if_neg h, List.getElem?_eq_none (by rw [Array.length_toList, size_zeroCells, z128_size]; omega)]
/-- The new disk on the way. -/
def AfI (w : World) (A' B' n cap' base k : Nat) (cache : Value) (ents : List (Nat × List Value)) (bs : List Value) (wr : World) : Prop :=
  DkAt wr A' B' n (.slice none 0 0) ⟨0, 0, 0, -1, 0, 0, cap'⟩ ∧ RowsAt wr B' cap' bs ∧ EnqAt wr base k n cache ents ∧ Fr (fun _ => False) w wr ∧ w.heap.size ≤ A' ∧ w.heap.size ≤ B'
theorem AfI.frz {w : World} {A' B' n cap' base k : Nat} {cache : Value} {ents : List (Nat × List Value)} {bs : List Value} {wr wr' : World} (h : AfI w A' B' n cap' base k cache ents bs wr) (hf : Fr (fun _ => False) wr wr') : AfI w A' B' n cap' base k cache ents bs wr' :=
  ⟨h.1.fr hf (fun h => h), ⟨hf.keep h.2.1.1 (fun h => h), h.2.1.2⟩, h.2.2.1.fr hf (fun _ _ _ _ h => h), h.2.2.2.1.trans hf (fun _ _ h => h), h.2.2.2.2⟩
theorem cutL_take {b : List Value} {ents : List (Nat × List Value)} {zs : List Int} {j : Nat} {p : Nat × List Value} {z : Int} (hp : ents[j]? = some p) (hz : zs[j]? = some z) : cutL b ((ents.zip zs).take (j + 1)) = cutS (cutL b ((ents.zip zs).take j)) p.1 p.2 z 4 := by
  have h : (ents.zip zs)[j]? = some (p, z) := by simp [List.getElem?_zip_eq_some, hp, hz]
  rw [List.take_add_one, h]
  simp [cutL]
theorem sect_len {dd : List Value} (h : dd.length = 128) {t : Nat} (ht : t < 4) : ((dd.drop (t * 32)).take 32).length = 32 := by rw [List.length_take, List.length_drop]; omega
/-- One sector. -/
theorem AfI.sect {w : World} {A' B' n cap' base k a t G : Nat} {cache : Value} {ents : List (Nat × List Value)} {bs dd : List Value} {z : Int} {wr w2 : World} (h : AfI w A' B' n cap' base k cache ents (cutS bs a dd z t) wr) (hG : wr.heap[G]? = some (.cells (Value.int .i64 a :: dd).toArray 101 (0, 0))) (hc : n ≤ cap') (ha : a < n) (hd : dd.length = 128) (hdo : ∀ v ∈ dd, v.oneCell' = true) (ht : t < 4) (hb : bitZ z t = true)
    (hw : w2 = wr.setRow B' (splice (cutS bs a dd z t) (a * 128 + t * 32) ((dd.drop (t * 32)).take 32)).toArray) : AfI w A' B' n cap' base k cache ents (cutS bs a dd z (t + 1)) w2 ∧ w2.heap[G]? = some (.cells (Value.int .i64 a :: dd).toArray 101 (0, 0)) := by
  obtain ⟨h1, h2, h3, h4, h5, h6⟩ := h
  have e : cutS bs a dd z (t + 1) = splice (cutS bs a dd z t) (a * 128 + t * 32) ((dd.drop (t * 32)).take 32) := by rw [cutS, if_pos hb]
  have hsl := sect_len hd ht
  have hAB : A' ≠ B' := fun e => by have := h1; rw [e] at this; have := this.symm.trans h2.1; simp at this
  have hGB : G ≠ B' := fun e => by rw [e] at hG; have := hG.symm.trans h2.1; simp at this
  have hf : Fr (fun b => b = B') wr w2 := by rw [hw]; exact Fr.setRow (S := fun b => b = B') (Fr.refl _ _) _ (fun _ => rfl) _
  refine ⟨⟨h1.fr hf hAB, ?_, h3.fr hf (fun b c hb _ e => by rw [e, h2.1] at hb; simp at hb), h4.trans hf (fun b hb e => by omega), h5, h6⟩, hf.keep hG hGB⟩
  rw [e]
  refine ⟨by rw [hw]; exact setRow_heap _ _ _ _ _ _ h2.1, ?_, fun v hv => ?_⟩
  · rw [splice_len (by rw [hsl, h2.2.1]; have : a + 1 ≤ cap' := by omega
                       omega), h2.2.1]
  · rcases mem_splice hv with hv | hv
    · exact h2.2.2 v hv
    · exact hdo v (List.mem_of_mem_drop (List.mem_of_mem_take hv))
/-- What After gives: the blocks as they are sure to be, and of the j-th pending write the sectors of the j-th number. -/
def AftQ (w : World) (n : Nat) (s : DS) (zs : List Int) (e : Ending) (w' : World) : Prop :=
  ∃ A' B' cap', e = .returned (.pointer (some ⟨A', 0, none⟩)) ∧ DSAt w' A' B' n w.heap.size (.slice none 0 0) ⟨⟨0, 0, 0, -1, 0, 0, cap'⟩, [], cutL (s.bs.take (n * 128) ++ List.replicate ((cap' - n) * 128) (Value.int .u8 0)) (s.ents.zip zs)⟩ ∧ w.heap.size ≤ A' ∧ w.heap.size ≤ B' ∧ Fr (fun _ => False) w w'
theorem AfI.post {w : World} {A' B' n cap' base k : Nat} {cache : Value} {s : DS} {zs : List Int} {bs : List Value} {wr : World} (h : AfI w A' B' n cap' base k cache s.ents bs wr) (hc : n ≤ cap') (hb : bs = cutL (s.bs.take (n * 128) ++ List.replicate ((cap' - n) * 128) (Value.int .u8 0)) (s.ents.zip zs)) : AftQ w n s zs (.returned (.pointer (some ⟨A', 0, none⟩))) wr := by
  subst hb
  exact ⟨A', B', cap', rfl, ⟨h.1, h.2.1, ⟨World.ownsRow_nil _ _ _ _, by show (0 : Nat) < _; omega, (fun p hp => absurd hp (by simp)), (fun p hp => absurd hp (by simp)), (fun p hp => absurd hp (by simp))⟩, h.2.2.2.1.size, hc⟩, h.2.2.2.2.1, h.2.2.2.2.2, h.2.2.2.1⟩
/-- A sector of an array. -/
theorem cut32 (B o t : Nat) (h : t < 4) (w : World) : (Instr.sliceAt 97 (.pointer (some ⟨B, o, none⟩)) (some (.int .i64 ((t : Int) * 32))) (some (.int .i64 (((t : Int) + 1) * 32))) none).run Tryz.prog w = .ok (.slice (some ⟨B, o + t * 32, none⟩) 32 (128 - t * 32)) w := by
  have ha : Tryz.prog.arrayLen 97 = 128 := by kernel_rfl
  have hz : (sizeOf (Tryz.prog.elem 97)).run Tryz.prog w = .ok 1 w := by kernel_rfl
  rw [run_sliceAt_array_lh w 97 ⟨B, o, none⟩ (by kernel_rfl) .i64 .i64 _ _ (by omega) (by omega) (by rw [ha]; omega), hz, ha]
  have e1 : (((t : Int) + 1) * 32).toNat = t * 32 + 32 := by omega
  have e2 : ((t : Int) * 32).toNat = t * 32 := by omega
  have e3 : ¬ 128 = t * 32 := by omega
  simp only [Result.andThen_ok, slicedAt, e1, e2, if_neg e3, Nat.add_sub_cancel_left, Nat.mul_one, Addr.add_mid]
set_option maxRecDepth 100000 in
set_option maxHeartbeats 1000000 in
theorem After_ok {w : World} {A B n base : Nat} {cache : Value} {s : DS} (h : DSAt w A B n base cache s) (hn : 0 < n) (hn4 : n ≤ 400) {la : Option Addr} {zs : List Int} {kc : Nat} (hl : IntsAt w la zs) (hz : zs.length < 1000) :
    Calls Tryz.prog 32 #[.pointer (some ⟨A, 0, none⟩), .slice la zs.length kc] w fun e w' => AftQ w n s zs e w' := by
  obtain ⟨i0, hi, hz0, hz1, hz2⟩ := info_parts arr_info
  obtain ⟨k, HK⟩ : ∃ k, Hid (k = s.ents.length) := ⟨_, rfl⟩
  obtain ⟨N, HN⟩ : ∃ N, Hid (N = zs.length) := ⟨_, rfl⟩
  obtain ⟨ao, cc, hcv⟩ : ∃ ao cc, cache = .slice ao k cc := by
    rw [HK.out]
    rcases h.q.o.2 with ⟨rfl, h0⟩ | ⟨g, cap, cur, rfl, _⟩
    · exact ⟨none, 0, by rw [h0]⟩
    · exact ⟨_, _, rfl⟩
  subst hcv
  have hk6 : k < 1000000 := by rw [HK.out]; exact h.q.k
  have hN : N < 1000 := by rw [HN.out]; exact hz
  have c0 := h.d.c0
  have c1 := h.d.c1
  have hcw := h.c
  have hnl : (s.bs.take (n * 128)).length = n * 128 := by rw [List.length_take, h.r.2.1]; omega
  have hsrc : ∀ j u, (s.bs.take (n * 128))[j]? = some u → w.cell? ((⟨B, 0, none⟩ : Addr).add j) = some u := by
    have := src_of_row h.r.1 0 (n * 128)
    simpa using this
  have HL : Hid (IntsAt w la zs) := hl
  have hAl := h.d.lt
  have HS : Hid (∀ B' cap' w1, n ≤ cap' → B' = w.heap.size → w1 = w.drew.alloc (.cells ((s.bs.take (n * 128)).toArray ++ Builtin.zeroCells (Value.agg z128).cells (cap' - n)) 97) →
      AfI w w1.heap.size B' n cap' base k (.slice ao k cc) s.ents (cutL (s.bs.take (n * 128) ++ List.replicate ((cap' - n) * 128) (Value.int .u8 0)) ((s.ents.zip zs).take 0)) (w1.alloc (.cells #[.slice (some ⟨B', 0, none⟩) n cap', .slice none 0 0, .int .i64 0, .int .i64 0, .int .i64 0, .int .i64 (-1), .int .i64 0, .int .i64 0] 96))) := by
    intro B' cap' w1 hcap hB' hw1
    have hfw : Fr (fun _ => False) w w1 := by rw [hw1]; exact (Fr.refl _ _).drew.alloc _
    have hB : w1.heap[B']? = some (.cells (s.bs.take (n * 128) ++ List.replicate ((cap' - n) * 128) (Value.int .u8 0)).toArray 97 (0, 0)) := by
      rw [hw1, hB']
      refine (heap_alloc_at _ _).trans ?_
      congr 2
      apply Array.ext'
      rw [Array.toList_append, zero128]
    have hf2 : Fr (fun _ => False) w1 (w1.alloc (.cells #[.slice (some ⟨B', 0, none⟩) n cap', .slice none 0 0, .int .i64 0, .int .i64 0, .int .i64 0, .int .i64 (-1), .int .i64 0, .int .i64 0] 96)) := (Fr.refl _ _).alloc _
    have hq : EnqAt w base k n (.slice ao k cc) s.ents := by rw [HK.out]; have := h.q; rw [HK.out] at this; exact this
    refine ⟨heap_alloc_at _ _, ⟨hf2.keep hB (fun h => h), ?_, fun v hv => ?_⟩, hq.fr (hfw.trans hf2 (fun _ _ h => h)) (fun _ _ _ _ h => h), hfw.trans hf2 (fun _ _ h => h), hfw.size, by omega⟩
    · show (s.bs.take (n * 128) ++ List.replicate ((cap' - n) * 128) (Value.int .u8 0)).length = _
      rw [List.length_append, hnl, List.length_replicate]; omega
    · have hv : v ∈ s.bs.take (n * 128) ++ List.replicate ((cap' - n) * 128) (Value.int .u8 0) := hv
      rcases List.mem_append.1 hv with hv | hv
      · exact h.r.2.2 v (List.mem_of_mem_take hv)
      · rw [(List.mem_replicate.1 hv).2]; rfl
  have hgo : ∀ g, ao = some g → g = ⟨g.block, 0, none⟩ := fun g hg => by
    rcases h.q.o.2 with ⟨hv, _⟩ | ⟨g', cap, cur, hv, _⟩
    · subst hg; cases hv
    · subst hg; cases hv; rfl
  have hao : 0 < k → ∃ g, ao = some ⟨g, 0, none⟩ := fun hk => by
    have hq := h.q.o
    obtain ⟨g, cap, hv, _⟩ := hq.form (by rw [← HK.out]; exact hk)
    cases hv; exact ⟨g, rfl⟩
  have HQ : Hid (∀ p ∈ s.ents, p.2.length = 128 ∧ (∀ v ∈ p.2, v.oneCell' = true) ∧ p.1 < n) := fun p hp => ⟨h.q.l p hp, h.q.one p hp, h.q.n p hp⟩
  rw [← HN.out]
  go_enter Tryz.func32, Tryz.ntmps32
  go_wp2_with (first | (at_builtin; refine wpList_append_new rfl (.const (.slice none 0 0)) (.tmp 12) 93 rfl 97 i0 (.agg z128) 128 128 Tryz.underlying93 hi hz0 hz1 hz2 rfl ⟨B, 0, none⟩ n s.d.cap (s.bs.take (n * 128)) rfl hnl hsrc hn ?_ ?_ ?_; omega; omega; intro B' cap' w1 hcap HB' HW1; have HA := HS.out B' cap' w1 hcap HB'.out HW1.out; have c11 : (w1.alloc (.cells #[.slice (some ⟨B', 0, none⟩) n cap', .slice none 0 0, .int .i64 0, .int .i64 0, .int .i64 0, .int .i64 (-1), .int .i64 0, .int .i64 0] 96)).cell? ⟨A, 1, none⟩ = some (.slice ao k cc) := HA.2.2.2.1.cell c1 (fun h => h)))
  generalize w1.alloc (.cells #[.slice (some ⟨B', 0, none⟩) n cap', .slice none 0 0, .int .i64 0, .int .i64 0, .int .i64 0, .int .i64 (-1), .int .i64 0, .int .i64 0] 96) = w2 at *
  generalize w1.heap.size = A' at *
  have HI : Hid (AfI w A' B' n cap' base k (.slice ao k cc) s.ents (cutL (s.bs.take (n * 128) ++ List.replicate ((cap' - n) * 128) (Value.int .u8 0)) ((s.ents.zip zs).take 0)) w2) := HA
  clear HA HW1 HB' HS hsrc hnl c0 c1 c11 h hl hgo
  obtain ⟨bs0, HB0⟩ : ∃ bs0, Hid (bs0 = s.bs.take (n * 128) ++ List.replicate ((cap' - n) * 128) (Value.int .u8 0)) := ⟨_, rfl⟩
  rw [← HB0.out] at HI
  go_loopw [21] (fun c wr => ∃ j : Nat, j ≤ k ∧ j ≤ N ∧ c = .int .i64 j ∧ Hid (AfI w A' B' n cap' base k (.slice ao k cc) s.ents (cutL bs0 ((s.ents.zip zs).take j)) wr)) (fun c _ => k - (intOf c).toNat)
  case atStart => exact ⟨0, Nat.zero_le _, Nat.zero_le _, rfl, HI⟩
  case round =>
    obtain ⟨j, hjk, hjz, rfl, HR⟩ := hrel
    by_cases hlt : j < k
    · have hlt' : (j : Int) < k := by omega
      obtain ⟨g, rfl⟩ := hao (by omega)
      obtain ⟨p, hp⟩ : ∃ p, s.ents[j]? = some p := ⟨_, List.getElem?_eq_getElem (by rw [← HK.out]; exact hlt)⟩
      obtain ⟨hdl, hdo, han⟩ := HQ.out p (List.mem_of_getElem? hp)
      have hrg := range_own HR.out.2.2.1.o (fun p hp => (HQ.out p hp).1) hp
      obtain ⟨a, dd⟩ := p
      dsimp only at hdl hdo han hrg
      have hwl : (Value.int .i64 a :: dd).length = 129 := by simp [hdl]
      have hwo : ∀ v ∈ (Value.int .i64 a :: dd), v.oneCell' = true := fun v hv => by
        rcases List.mem_cons.1 hv with rfl | hv
        · rfl
        · exact hdo v hv
      obtain ⟨W, HW⟩ : ∃ W, Hid (W = wr.alloc (.cells (Value.int .i64 a :: dd).toArray 101)) := ⟨_, rfl⟩
      have hst : (Instr.storeAt 101 (.pointer (some ⟨wr.heap.size, 0, none⟩)) (.agg (Value.int .i64 a :: dd).toArray)).run Tryz.prog (wr.alloc (.cells (wz (.int .i64 0)) 101)) = .ok () W := by rw [HW.out]; exact store_write' _ hwl hwo wr
      have hfW : Fr (fun _ => False) wr W := by rw [HW.out]; exact (Fr.refl _ _).alloc _
      have hGW : W.heap[wr.heap.size]? = some (.cells (Value.int .i64 a :: dd).toArray 101 (0, 0)) := by rw [HW.out]; exact heap_alloc_at _ _
      by_cases hjl : j < N
      · have hjl' : ¬ (N : Int) ≤ j := by omega
        go_wp2_with (first
          | (refine wpList_load_mid rfl 101 (.tmp 24) rfl g (j * 129) ?_ (Value.int .i64 a :: dd) _ hrg Tryz.underlying101 rfl ?_ ?_; rfl; (rw [write_size, hwl]))
          | (refine wpList_alloc 101 (v := .pointer (some ⟨wr.heap.size, 0, none⟩)) (w' := wr.alloc (.cells (wz (.int .i64 0)) 101)) rfl rfl ?_ ?_; exact alloc_write wr)
          | (refine wpList_store 101 (w' := W) (.tmp 7) (.tmp 25) rfl rfl ?_ ?_; exact hst))
        generalize wr.heap.size = G at *
        obtain ⟨z, hzj⟩ : ∃ z, zs[j]? = some z := ⟨_, List.getElem?_eq_getElem (by rw [← HN.out]; exact hjl)⟩
        obtain ⟨lg, off, rfl, hcz⟩ := HL.out j z hzj
        have HNX : Hid (cutL bs0 ((s.ents.zip zs).take (j + 1)) = cutS (cutL bs0 ((s.ents.zip zs).take j)) a dd z 4) := cutL_take (b := bs0) (p := (a, dd)) (z := z) hp hzj
        obtain ⟨bj, HBJ⟩ : ∃ bj, Hid (bj = cutL bs0 ((s.ents.zip zs).take j)) := ⟨_, rfl⟩
        have HJ : Hid (AfI w A' B' n cap' base k (.slice (some ⟨g, 0, none⟩) k cc) s.ents (cutS bj a dd z 0) W ∧ W.heap[G]? = some (.cells (Value.int .i64 a :: dd).toArray 101 (0, 0))) := ⟨by have := HR.out.frz hfW; rw [← HBJ.out] at this; rw [cutS_zero]; exact this, hGW⟩
        clear hrg hst hfW hGW HW HR
        go_loopw [8] (fun c wr2 => ∃ t : Nat, t ≤ 4 ∧ c = .int .i64 t ∧ Hid (AfI w A' B' n cap' base k (.slice (some ⟨g, 0, none⟩) k cc) s.ents (cutS bj a dd z t) wr2 ∧ wr2.heap[G]? = some (.cells (Value.int .i64 a :: dd).toArray 101 (0, 0)))) (fun c _ => 4 - (intOf c).toNat)
        case atStart => exact ⟨0, Nat.zero_le _, rfl, HJ⟩
        case round =>
          obtain ⟨t, ht, rfl, HT⟩ := hrel
          by_cases hlt4 : t < 4
          · have hlt4' : (t : Int) < 4 := by omega
            have hc' := HT.out.1.2.2.2.1.cell hcz (fun h => h)
            have hcA := HT.out.1.1.c0
            have hcG : wr.cell? ⟨G, 0, none⟩ = some (.int .i64 a) := (cell_of_row _ _ 0 _ _ _ HT.out.2).trans rfl
            have hjl2 : (j : Int) < N := by omega
            by_cases hb : bitZ z t = true
            · have hb' : (bits BinOp.and IntKind.i64 (z / 2 ^ t) 1 == 1) = true := hb
              have hai : (a : Int) < n := by omega
              have hs1 : (0 : Int) ≤ (t : Int) * 32 := by omega
              have hs2 : (t : Int) * 32 ≤ ((t : Int) + 1) * 32 := by omega
              have hs3 : ((t : Int) + 1) * 32 ≤ 128 := by omega
              have hs4 : ((t : Int) * 32).toNat = t * 32 := by omega
              have hw1 : IntKind.i64.wrap ((t : Int) * 32) = (t : Int) * 32 := by rw [IntKind.wrap_i64]; omega
              have hw2 : IntKind.i64.wrap ((t : Int) + 1) = (t : Int) + 1 := by rw [IntKind.wrap_i64]; omega
              have hw3 : IntKind.i64.wrap (((t : Int) + 1) * 32) = ((t : Int) + 1) * 32 := by rw [IntKind.wrap_i64]; omega
              have hs5 : (((t : Int) + 1) * 32).toNat = t * 32 + 32 := by omega
              have hk1 := cut32 B' (a * 128) t hlt4
              have hk2 := cut32 G 1 t hlt4
              go_wp2
              try simp only [Act.put, lsE, lsZ, lsS]
              refine wp_region_still_tail 20 (by kernel_rfl) (by kernel_rfl) (Bx.out ?_)
              simp only [List.take_succ_cons, List.take_zero, List.drop_succ_cons, List.drop_zero]
              repeat (refine bx_step (fun K hK => ?_); go_simp; refine hK _ ?_; clear hK K)
              refine bx_nil ?_
              change wpList _ _ _ _ _ wr.drew
              obtain ⟨W3, HW3⟩ : ∃ W3, Hid (W3 = wr.drew) := ⟨_, rfl⟩
              have hf3 : Fr (fun _ => False) wr W3 := by rw [HW3.out]; exact (Fr.refl _ _).drew
              rw [← HW3.out]
              clear HW3
              have hA3 := HT.out.1.frz hf3
              have hG3 := hf3.keep HT.out.2 (fun h => h)
              have hsl := sect_len hdl hlt4
              have hsrc : ∀ j v, ((dd.drop (t * 32)).take 32)[j]? = some v → W3.cell? ((⟨G, 1 + t * 32, none⟩ : Addr).add j) = some v := by
                have h1 := src_of_row hG3 (1 + t * 32) 32
                have e : (Value.int .i64 a :: dd).drop (1 + t * 32) = dd.drop (t * 32) := by rw [Nat.add_comm]; rfl
                rw [e] at h1
                exact h1
              have hone : ∀ v ∈ (dd.drop (t * 32)).take 32, v.oneCell' = true := fun v hv => hdo v (List.mem_of_mem_drop (List.mem_of_mem_take hv))
              have hbl := hA3.2.1.2.1
              have hfit : a * 128 + t * 32 + ((dd.drop (t * 32)).take 32).length ≤ (cutS bj a dd z t).toArray.size := by rw [hsl, List.size_toArray, hbl]; omega
              go_wp2_with (first | (refine wpList_copy_to rfl (.tmp 54) (.tmp 61) 85 85 rfl 5 Tryz.underlying85 u8size B' (a * 128 + t * 32) 32 (128 - t * 32) ⟨G, 1 + t * 32, none⟩ 32 (128 - t * 32) rfl rfl (cutS bj a dd z t).toArray 97 hA3.2.1.1 ((dd.drop (t * 32)).take 32) (by rw [hsl]; rfl) hsrc hfit hone (splice (cutS bj a dd z t) (a * 128 + t * 32) ((dd.drop (t * 32)).take 32)) rfl ?_; intro w4 HW4; have HN2 : Hid (AfI w A' B' n cap' base k (.slice (some ⟨g, 0, none⟩) k cc) s.ents (cutS bj a dd z (t + 1)) w4 ∧ w4.heap[G]? = some (.cells (Value.int .i64 a :: dd).toArray 101 (0, 0))) := hA3.sect hG3 hcap han hdl hdo hlt4 hb HW4.out; clear HW4 hA3 hG3 hsrc))
              go_roundw
              case rel => exact ⟨t + 1, by omega, by go_num, HN2⟩
              case measure => simp [intOf]; omega
            · have hb' : (bits BinOp.and IntKind.i64 (z / 2 ^ t) 1 == 1) = false := by simpa [bitZ] using hb
              have e1 : cutS bj a dd z (t + 1) = cutS bj a dd z t := by rw [cutS, if_neg hb]
              have HN2 := HT
              rw [← e1] at HN2
              go_wp2
              go_roundw
              case rel => exact ⟨t + 1, by omega, by go_num, HN2⟩
              case measure => simp [intOf]; omega
          · obtain rfl : t = 4 := by omega
            have HN2 : Hid (AfI w A' B' n cap' base k (.slice (some ⟨g, 0, none⟩) k cc) s.ents (cutL bs0 ((s.ents.zip zs).take (j + 1))) wr) := by
              have := HT.out.1
              rw [HBJ.out, ← HNX.out] at this
              exact this
            go_wp2
            go_roundw
            case rel => exact ⟨j + 1, by omega, by omega, by go_num, HN2⟩
            case measure => simp [intOf]; omega
      · obtain rfl : j = N := by omega
        have HN2 : Hid (AftQ w n s zs (.returned (.pointer (some ⟨A', 0, none⟩))) W) := (HR.out.frz hfW).post hcap (by rw [List.take_of_length_le (by rw [List.length_zip, ← HN.out]; omega), HB0.out])
        go_wp2_with (first
          | (refine wpList_load_mid rfl 101 (.tmp 24) rfl g (j * 129) ?_ (Value.int .i64 a :: dd) _ hrg Tryz.underlying101 rfl ?_ ?_; rfl; (rw [write_size, hwl]))
          | (refine wpList_alloc 101 (v := .pointer (some ⟨wr.heap.size, 0, none⟩)) (w' := wr.alloc (.cells (wz (.int .i64 0)) 101)) rfl rfl ?_ ?_; exact alloc_write wr)
          | (refine wpList_store 101 (w' := W) (.tmp 7) (.tmp 25) rfl rfl ?_ ?_; exact hst))
        go_ret
        exact HN2.out
    · obtain rfl : j = k := by omega
      have HN2 : Hid (AftQ w n s zs (.returned (.pointer (some ⟨A', 0, none⟩))) wr) := HR.out.post hcap (by rw [List.take_of_length_le (by rw [List.length_zip, ← HK.out]; omega), HB0.out])
      go_wp2
      go_ret
      exact HN2.out
end Go.Proofs.YteebjgfalllbjaaGreatDoor
namespace Go.Proofs.YteebjgfalllbjaaGreatDoor
open Go.RowKit
/-- One of two, by a Bool. -/
def Sel (b : Bool) (P Q : Prop) : Prop := if b = true then P else Q
theorem Sel.pos {b : Bool} {P Q : Prop} (h : b = true) (hp : P) : Sel b P Q := by unfold Sel; rw [if_pos h]; exact hp
theorem Sel.neg {b : Bool} {P Q : Prop} (h : ¬ b = true) (hq : Q) : Sel b P Q := by unfold Sel; rw [if_neg h]; exact hq
theorem Sel.out {b : Bool} {P Q : Prop} (h : Sel b P Q) : (b = true ∧ P) ∨ (¬ b = true ∧ Q) := by
  unfold Sel at h
  split at h
  · rename_i hb; exact .inl ⟨hb, h⟩
  · rename_i hb; exact .inr ⟨hb, h⟩
structure DP.Q (d : DP) : Prop where
  c0 : 0 ≤ d.calls
  c1 : d.calls < 900000000
  w0 : 0 ≤ d.writes
  w1 : d.writes < 900000000
  t0 : 0 ≤ d.told
  t1 : d.told < 900000000
theorem DP.Q.ok {d : DP} (h : d.Q) : d.Ok := ⟨h.c0, by have := h.c1; omega, h.w0, by have := h.w1; omega, h.t0, by have := h.t1; omega⟩
theorem DP.told_next (d : DP) : d.told ≤ d.next.told ∧ d.next.told ≤ d.told + 1 := by
  show d.told ≤ (if d.bad = true then d.told + 1 else d.told) ∧ (if d.bad = true then d.told + 1 else d.told) ≤ d.told + 1
  split <;> omega
theorem DP.Q.nw {d : DP} (h : d.Q) : d.next.wrote.Ok := by
  have := d.told_next
  have := h.c0; have := h.c1; have := h.w0; have := h.w1; have := h.t0; have := h.t1
  refine ⟨?_, ?_, ?_, ?_, ?_, ?_⟩
  · show 0 ≤ d.calls + 1; omega
  · show d.calls + 1 < 1000000000; omega
  · show 0 ≤ d.writes + 1; omega
  · show d.writes + 1 < 1000000000; omega
  · show 0 ≤ d.next.told; omega
  · show d.next.told < 1000000000; omega
theorem DSAt.not {w : World} {A B n base : Nat} {cache : Value} {s : DS} (h : DSAt w A B n base cache s) {b : Nat} {c : Array Value} {t : TypeId} (hb : w.heap[b]? = some (.cells c t (0, 0))) (ht : t ≠ 96 ∧ t ≠ 97 ∧ t ≠ 101) : ¬ DkF A B cache b := by
  rintro (e | e | e)
  · subst e; have := hb.symm.trans h.d; simp at this; exact ht.1 this.2
  · subst e; have := hb.symm.trans h.r.1; simp at this; exact ht.2.1 this.2
  · obtain ⟨c', hc⟩ := own_tyZ h.q.o e; have := hb.symm.trans hc; simp at this; exact ht.2.2 this.2
set_option maxRecDepth 100000 in
set_option maxHeartbeats 2000000 in
theorem Settle1_gen {w : World} {X J V A B n e base : Nat} {cache : Value} {s : DS} (hx : w.heap[X]? = some (.cells #[.pointer (some ⟨J, 0, none⟩)] 87 (0, 0))) (hj : JAt w J V e false) (hv : VolAt w V A n) (h : DSAt w A B n base cache s) (hq : s.d.Q) (hel : s.ents.length < 900000) (he : e < n) (HI : ItH e) (hG : GOk w) (hgA : 0 ≠ A) :
    Calls Tryz.prog 138 #[.pointer (some ⟨X, 0, none⟩)] w fun e' w' => ∃ cache', DSAt w' A B n base cache' (s.put e zB).2 ∧ CB w cache cache' ∧ VolAt w' V A n ∧ Fr (fun b => DkF A B cache b ∨ b = J) w w' ∧ Sel (s.put e zB).1 (e' = .returned .nilIface ∧ JAt w' J V e true) (JAt w' J V e false ∧ ∃ g, e' = Thrown g ∧ TrAt w' g) := by
  have hlift : Tryz.prog.follows .mixedOrders = true := by kernel_rfl
  have nJ := h.not hj (by decide)
  have nV := h.not hv (by decide)
  have nX := h.not hx (by decide)
  have nJV : J ≠ V := fun e => by have := hj; rw [e] at this; have := this.symm.trans hv; simp at this
  have nXJ : X ≠ J := fun e => by have := hx; rw [e] at this; have := this.symm.trans hj; simp at this
  go_enter Tryz.func138, Tryz.ntmps138
  go_wp2
  obtain ⟨W, HW⟩ : ∃ W, Hid (W = w.drew) := ⟨_, rfl⟩
  have hfW : Fr (fun _ => False) w W := by rw [HW.out]; exact (Fr.refl _ _).drew
  let S : World → Prop := fun w' => w'.cell? ⟨X, 0, none⟩ = some (.pointer (some ⟨J, 0, none⟩)) ∧ w'.cell? ⟨J, 0, none⟩ = some (.pointer (some ⟨V, 0, none⟩)) ∧ w'.cell? ⟨J, 1, none⟩ = some (.int .i64 e)
  have hS : S W := ⟨(cell_of_row W X 0 _ _ _ (hfW.keep hx (fun h => h))).trans rfl, (hj.fr hfW id).c0, (hj.fr hfW id).c1⟩
  refine wp_region_held (S := S) hlift ?_
  change wpAnyH _ _ _ _ S _ _ _ (World.drew _)
  rw [← HW.out]
  clear HW
  refine tkY (S := S) (i := 0) (oi := ⟨some 2, .load 87 (.tmp 0), _, _, _, none⟩) (v := .pointer (some ⟨J, 0, none⟩)) rfl (Or.inl ⟨rfl, fun w' hs => exec_load 87 (.tmp 0) rfl ⟨X, 0, none⟩ rfl (run_loadAt_one hs.1 Tryz.underlying87 rfl)⟩) hS ?_
  simp only [Act.put, lsE, lsZ, lsS]
  refine tkE (S := S) (i := 1) (oi := ⟨some 3, .nilCheck (.tmp 2), _, _, _, none⟩) (v := .pointer (some ⟨J, 0, none⟩)) rfl hS ?_
  simp only [Act.put, lsE, lsZ, lsS]
  refine tkE (S := S) (i := 2) (oi := ⟨some 4, .fieldAddr 179 (.tmp 3) 0, _, _, _, none⟩) (v := .pointer (some ⟨J, 0, none⟩)) rfl hS ?_
  simp only [Act.put, lsE, lsZ, lsS]
  refine tkY (S := S) (i := 3) (oi := ⟨some 5, .load 155 (.tmp 4), _, _, _, none⟩) (v := .pointer (some ⟨V, 0, none⟩)) rfl (Or.inl ⟨rfl, fun w' hs => exec_load 155 (.tmp 4) rfl ⟨J, 0, none⟩ rfl (run_loadAt_one hs.2.1 Tryz.underlying155 rfl)⟩) hS ?_
  simp only [Act.put, lsE, lsZ, lsS]
  refine tkY (S := S) (i := 4) (oi := ⟨some 6, .load 87 (.tmp 0), _, _, _, none⟩) (v := .pointer (some ⟨J, 0, none⟩)) rfl (Or.inl ⟨rfl, fun w' hs => exec_load 87 (.tmp 0) rfl ⟨X, 0, none⟩ rfl (run_loadAt_one hs.1 Tryz.underlying87 rfl)⟩) hS ?_
  simp only [Act.put, lsE, lsZ, lsS]
  refine tkE (S := S) (i := 5) (oi := ⟨some 7, .nilCheck (.tmp 6), _, _, _, none⟩) (v := .pointer (some ⟨J, 0, none⟩)) rfl hS ?_
  simp only [Act.put, lsE, lsZ, lsS]
  refine tkE (S := S) (i := 6) (oi := ⟨some 8, .fieldAddr 179 (.tmp 7) 1, _, _, _, none⟩) (v := .pointer (some ⟨J, 1, none⟩)) rfl hS ?_
  simp only [Act.put, lsE, lsZ, lsS]
  refine tkY (S := S) (i := 7) (oi := ⟨some 9, .load 3 (.tmp 8), _, _, _, none⟩) (v := .int .i64 e) rfl (Or.inl ⟨rfl, fun w' hs => exec_load 3 (.tmp 8) rfl ⟨J, 1, none⟩ rfl (run_loadAt_one hs.2.2 Tryz.underlying3 rfl)⟩) hS ?_
  simp only [Act.put, lsE, lsZ, lsS]
  refine tkY (S := S) (i := 8) (oi := ⟨some 10, .build 130 #[], _, _, _, none⟩) (v := .agg zB.toArray) rfl (Or.inl ⟨rfl, fun w' _ => exec_build0 rfl w'⟩) hS ?_
  simp only [Act.put, lsE, lsZ, lsS]
  refine wpAnyH_all (rs := [9]) (by kernel_rfl) (by simp) ?_
  intro i9 hi9
  obtain rfl : i9 = 9 := by simpa using hi9
  have hst := Store_ds (hv.fr hfW id) (h.frz hfW) hq.ok hel e he zB zB_len zB_one HI (hG.fr hfW id) hgA
  by_cases hb : (s.store e zB).1 = true
  · refine wpOp_call (o := ⟨some 11, .call { callee := .value (.func 94), args := #[(.tmp 5), (.tmp 9), (.tmp 10)], argTypes := _ }, _, _, _, none⟩) (f := 94) (args := #[.pointer (some ⟨V, 0, none⟩), .int .i64 e, .agg zB.toArray]) rfl rfl (by kernel_rfl) ?_
    refine hst.mono ?_
    rintro e' w1 ⟨cache1, hd1, hcb1, hf1, he1⟩
    rw [if_pos hb] at he1
    subst he1
    have x1 := hf1.keep (hfW.keep hx (fun h => h)) nX
    have j1 : JAt w1 J V e false := hf1.keep (hfW.keep hj (fun h => h)) nJ
    have v1 : VolAt w1 V A n := hf1.keep (hfW.keep hv (fun h => h)) nV
    have hcb1' : CB w cache cache1 := fun b hb => (hcb1 b hb).imp_right (fun h => Nat.le_trans hfW.size h)
    have hF1 : Fr (DkF A B cache) w w1 := (hfW.mono (fun _ _ h => h.elim)).trans hf1 (fun _ _ h => h)
    refine ⟨_, rfl, ?_, ?_⟩
    · exact ⟨(cell_of_row w1 X 0 _ _ _ x1).trans rfl, j1.c0, j1.c1⟩
    simp only [Act.put, lsE, lsZ, lsS]
    refine wpAnyH_done (by kernel_rfl) ?_ _
    have cx1 : w1.cell? ⟨X, 0, none⟩ = some (.pointer (some ⟨J, 0, none⟩)) := (cell_of_row w1 X 0 _ _ _ x1).trans rfl
    have c01 := j1.c0
    have hs2 : (s.store e zB).2 = ⟨s.d.next.wrote, s.ents ++ [(e, zB)], s.bs⟩ := by
      unfold DS.store at hb ⊢
      split at hb
      · cases hb
      · rename_i h1; rw [if_neg h1]
    have hse := Secure_ds v1 hd1 (by rw [hs2]; exact hq.nw) (by rw [hs2]; simp)
    have hpt : s.put e zB = (s.store e zB).2.secure := by unfold DS.put; rw [if_pos hb]
    have nJ1 := hd1.not j1 (by decide)
    have nV1 := hd1.not v1 (by decide)
    have nX1 := hd1.not x1 (by decide)
    obtain ⟨s2, HS2⟩ : ∃ s2, Hid (s2 = (s.store e zB).2) := ⟨_, rfl⟩
    rw [← HS2.out] at hse hpt
    have HPT : Hid (s.put e zB = s2.secure) := hpt
    have HSE := hse
    clear hS hst hs2 hse hpt
    go_wp2_with fail
    refine HSE.mono ?_
    rintro e' w2 ⟨cache2, hd2, hcb2, hf2, he2⟩
    have x2 := hf2.keep x1 nX1
    have j2 : JAt w2 J V e false := hf2.keep j1 nJ1
    have v2 : VolAt w2 V A n := hf2.keep v1 nV1
    have hcb : CB w cache cache2 := fun b hb => by
      rcases hcb2 b hb with h1 | h1
      · exact hcb1' b h1
      · right; have := hF1.size; omega
    have hF2 : Fr (DkF A B cache) w w2 := hF1.trans hf2 (fun b hb h => by
      rcases h with h | h | h
      · exact .inl h
      · exact .inr (.inl h)
      · rcases hcb1' b h with h1 | h1
        · exact .inr (.inr h1)
        · omega)
    by_cases hb2 : s2.secure.1 = true
    · rw [if_pos hb2] at he2
      subst he2
      have cx2 : w2.cell? ⟨X, 0, none⟩ = some (.pointer (some ⟨J, 0, none⟩)) := (cell_of_row w2 X 0 _ _ _ x2).trans rfl
      have c12 := j2.c1
      have c22 := j2.c2
      have z12 := j2.fz 1
      have z22 := j2.fz 2
      have nJ2 := hd2.not j2 (by decide)
      have jE := j2.set2 true
      have hfE : Fr (fun b => b = J) w2 (w2.setCell ⟨J, 2, none⟩ (.bool true)) := Fr.set1 _ _ _ _
      obtain ⟨wE, HWE⟩ : ∃ wE, Hid (wE = w2.setCell ⟨J, 2, none⟩ (.bool true)) := ⟨_, rfl⟩
      rw [← HWE.out] at jE hfE
      have hp1 : (s.put e zB).1 = true := by rw [HPT.out]; exact hb2
      have HF : Hid (∃ cache', DSAt wE A B n base cache' (s.put e zB).2 ∧ CB w cache cache' ∧ VolAt wE V A n ∧ Fr (fun b => DkF A B cache b ∨ b = J) w wE) := by
        rw [HPT.out]
        refine ⟨cache2, hd2.fr hfE (fun b hb e => nJ2 (e ▸ hb)), hcb, hfE.keep v2 (fun e => nJV e.symm), (hF2.mono (fun _ _ h => .inl h)).trans hfE (fun _ _ h => .inr h)⟩
      clear hd1 hf1 hf2 hd2 hF1 hF2 hfE v2 v1 x1 x2 j1 HSE hcb hcb1 hcb2 hcb1' nJ2 nJ1 nV1 nX1
      go_wp2
      rw [← HWE.out]
      go_ret
      obtain ⟨c', q1, q2, q3, q4⟩ := HF.out
      exact ⟨c', q1, q2, q3, q4, Sel.pos hp1 ⟨rfl, jE⟩⟩
    · rw [if_neg hb2] at he2
      obtain ⟨g, rfl, ht⟩ := he2
      have hp1 : ¬ (s.put e zB).1 = true := by rw [HPT.out]; exact hb2
      refine ⟨rfl, cache2, by rw [HPT.out]; exact hd2, hcb, v2, hF2.mono (fun _ _ h => .inl h), Sel.neg hp1 ⟨j2, g, rfl, ht⟩⟩
  · refine wpOp_panics (o := ⟨some 11, .call { callee := .value (.func 94), args := #[(.tmp 5), (.tmp 9), (.tmp 10)], argTypes := _ }, _, _, _, none⟩) (f := 94) (args := #[.pointer (some ⟨V, 0, none⟩), .int .i64 e, .agg zB.toArray]) rfl rfl (by kernel_rfl) ?_
    refine hst.mono ?_
    rintro e' w1 ⟨cache1, hd1, hcb1, hf1, he1⟩
    rw [if_neg hb] at he1
    obtain ⟨g, rfl, ht⟩ := he1
    refine ⟨_, rfl, ?_⟩
    have hF1 : Fr (DkF A B cache) w w1 := (hfW.mono (fun _ _ h => h.elim)).trans hf1 (fun _ _ h => h)
    have hpt : s.put e zB = (false, (s.store e zB).2) := by unfold DS.put; rw [if_neg hb]
    refine ⟨rfl, cache1, by rw [hpt]; exact hd1, fun b hb => (hcb1 b hb).imp_right (fun h => Nat.le_trans hfW.size h), hf1.keep (hfW.keep hv (fun h => h)) nV, hF1.mono (fun _ _ h => .inl h), Sel.neg (by rw [hpt]; simp) ⟨hf1.keep (hfW.keep hj (fun h => h)) nJ, g, rfl, ht⟩⟩
set_option maxRecDepth 100000 in
set_option maxHeartbeats 2000000 in
theorem Add1_gen {w : World} {X X2 J V A B n e base : Nat} {cache : Value} {s : DS} {blk : List Value} (hx : w.heap[X]? = some (.cells #[.pointer (some ⟨J, 0, none⟩)] 87 (0, 0))) (hx2 : w.heap[X2]? = some (.cells blk.toArray 130 (0, 0))) (hl : blk.length = 128) (hb1 : ∀ v ∈ blk, v.oneCell' = true) (hj : JAt w J V e true) (hv : VolAt w V A n) (h : DSAt w A B n base cache s) (hq : s.d.Q) (hel : s.ents.length < 900000) (he : e < n) (hn : n ≤ 400) (HI : ItH e) (hG : GOk w) (hgA : 0 ≠ A) :
    Calls Tryz.prog 93 #[.pointer (some ⟨X, 0, none⟩), .pointer (some ⟨X2, 0, none⟩)] w fun e' w' => ∃ cache', DSAt w' A B n base cache' (s.put e blk).2 ∧ CB w cache cache' ∧ VolAt w' V A n ∧ Fr (fun b => DkF A B cache b ∨ b = J) w w' ∧ Sel (s.put e blk).1 (e' = .returned .nilIface ∧ JAt w' J V ((e : Int) + 1) true) (JAt w' J V e true ∧ ∃ g, e' = Thrown g ∧ TrAt w' g) := by
  have hlift : Tryz.prog.follows .mixedOrders = true := by kernel_rfl
  have nJ := h.not hj (by decide)
  have nV := h.not hv (by decide)
  have nX := h.not hx (by decide)
  have nX2 := h.not hx2 (by decide)
  have nJV : J ≠ V := fun e => by have := hj; rw [e] at this; have := this.symm.trans hv; simp at this
  have nXJ : X ≠ J := fun e => by have := hx; rw [e] at this; have := this.symm.trans hj; simp at this
  go_enter Tryz.func93, Tryz.ntmps93
  go_wp2
  obtain ⟨W, HW⟩ : ∃ W, Hid (W = w.drew) := ⟨_, rfl⟩
  have hfW : Fr (fun _ => False) w W := by rw [HW.out]; exact (Fr.refl _ _).drew
  let S : World → Prop := fun w' => w'.cell? ⟨X, 0, none⟩ = some (.pointer (some ⟨J, 0, none⟩)) ∧ w'.cell? ⟨J, 0, none⟩ = some (.pointer (some ⟨V, 0, none⟩)) ∧ w'.cell? ⟨J, 1, none⟩ = some (.int .i64 e) ∧ w'.heap[X2]? = some (.cells blk.toArray 130 (0, 0))
  have hS : S W := ⟨(cell_of_row W X 0 _ _ _ (hfW.keep hx (fun h => h))).trans rfl, (hj.fr hfW id).c0, (hj.fr hfW id).c1, hfW.keep hx2 (fun h => h)⟩
  refine wp_region_held (S := S) hlift ?_
  change wpAnyH _ _ _ _ S _ _ _ (World.drew _)
  rw [← HW.out]
  clear HW
  refine tkY (S := S) (i := 0) (oi := ⟨some 3, .load 87 (.tmp 0), _, _, _, none⟩) (v := .pointer (some ⟨J, 0, none⟩)) rfl (Or.inl ⟨rfl, fun w' hs => exec_load 87 (.tmp 0) rfl ⟨X, 0, none⟩ rfl (run_loadAt_one hs.1 Tryz.underlying87 rfl)⟩) hS ?_
  simp only [Act.put, lsE, lsZ, lsS]
  refine tkE (S := S) (i := 1) (oi := ⟨some 4, .nilCheck (.tmp 3), _, _, _, none⟩) (v := .pointer (some ⟨J, 0, none⟩)) rfl hS ?_
  simp only [Act.put, lsE, lsZ, lsS]
  refine tkE (S := S) (i := 2) (oi := ⟨some 5, .fieldAddr 179 (.tmp 4) 0, _, _, _, none⟩) (v := .pointer (some ⟨J, 0, none⟩)) rfl hS ?_
  simp only [Act.put, lsE, lsZ, lsS]
  refine tkY (S := S) (i := 3) (oi := ⟨some 6, .load 155 (.tmp 5), _, _, _, none⟩) (v := .pointer (some ⟨V, 0, none⟩)) rfl (Or.inl ⟨rfl, fun w' hs => exec_load 155 (.tmp 5) rfl ⟨J, 0, none⟩ rfl (run_loadAt_one hs.2.1 Tryz.underlying155 rfl)⟩) hS ?_
  simp only [Act.put, lsE, lsZ, lsS]
  refine tkY (S := S) (i := 4) (oi := ⟨some 7, .load 87 (.tmp 0), _, _, _, none⟩) (v := .pointer (some ⟨J, 0, none⟩)) rfl (Or.inl ⟨rfl, fun w' hs => exec_load 87 (.tmp 0) rfl ⟨X, 0, none⟩ rfl (run_loadAt_one hs.1 Tryz.underlying87 rfl)⟩) hS ?_
  simp only [Act.put, lsE, lsZ, lsS]
  refine tkE (S := S) (i := 5) (oi := ⟨some 8, .nilCheck (.tmp 7), _, _, _, none⟩) (v := .pointer (some ⟨J, 0, none⟩)) rfl hS ?_
  simp only [Act.put, lsE, lsZ, lsS]
  refine tkE (S := S) (i := 6) (oi := ⟨some 9, .fieldAddr 179 (.tmp 8) 1, _, _, _, none⟩) (v := .pointer (some ⟨J, 1, none⟩)) rfl hS ?_
  simp only [Act.put, lsE, lsZ, lsS]
  refine tkY (S := S) (i := 7) (oi := ⟨some 10, .load 3 (.tmp 9), _, _, _, none⟩) (v := .int .i64 e) rfl (Or.inl ⟨rfl, fun w' hs => exec_load 3 (.tmp 9) rfl ⟨J, 1, none⟩ rfl (run_loadAt_one hs.2.2.1 Tryz.underlying3 rfl)⟩) hS ?_
  simp only [Act.put, lsE, lsZ, lsS]
  refine tkY (S := S) (i := 8) (oi := ⟨some 11, .load 130 (.tmp 1), _, _, _, none⟩) (v := .agg blk.toArray) rfl (Or.inl ⟨rfl, fun w' hs => exec_load 130 (.tmp 1) rfl ⟨X2, 0, none⟩ rfl (run_loadAt_mid w' X2 0 130 blk _ (fun j v hv => (cell_of_row w' _ (0 + j) _ _ _ hs.2.2.2).trans (by simpa using hv)) Tryz.underlying130 rfl (by rw [block_size, hl]))⟩) hS ?_
  simp only [Act.put, lsE, lsZ, lsS]
  refine wpAnyH_all (rs := [9]) (by kernel_rfl) (by simp) ?_
  intro i9 hi9
  obtain rfl : i9 = 9 := by simpa using hi9
  have hst := Store_ds (hv.fr hfW id) (h.frz hfW) hq.ok hel e he blk hl hb1 HI (hG.fr hfW id) hgA
  by_cases hb : (s.store e blk).1 = true
  · refine wpOp_call (o := ⟨some 12, .call { callee := .value (.func 94), args := #[(.tmp 6), (.tmp 10), (.tmp 11)], argTypes := _ }, _, _, _, none⟩) (f := 94) (args := #[.pointer (some ⟨V, 0, none⟩), .int .i64 e, .agg blk.toArray]) rfl rfl (by kernel_rfl) ?_
    refine hst.mono ?_
    rintro e' w1 ⟨cache1, hd1, hcb1, hf1, he1⟩
    rw [if_pos hb] at he1
    subst he1
    have x1 := hf1.keep (hfW.keep hx (fun h => h)) nX
    have j1 : JAt w1 J V e true := hf1.keep (hfW.keep hj (fun h => h)) nJ
    have v1 : VolAt w1 V A n := hf1.keep (hfW.keep hv (fun h => h)) nV
    have hcb1' : CB w cache cache1 := fun b hb => (hcb1 b hb).imp_right (fun h => Nat.le_trans hfW.size h)
    have hF1 : Fr (DkF A B cache) w w1 := (hfW.mono (fun _ _ h => h.elim)).trans hf1 (fun _ _ h => h)
    refine ⟨_, rfl, ?_, ?_⟩
    · exact ⟨(cell_of_row w1 X 0 _ _ _ x1).trans rfl, j1.c0, j1.c1, hf1.keep (hfW.keep hx2 (fun h => h)) nX2⟩
    simp only [Act.put, lsE, lsZ, lsS]
    refine wpAnyH_done (by kernel_rfl) ?_ _
    have cx1 : w1.cell? ⟨X, 0, none⟩ = some (.pointer (some ⟨J, 0, none⟩)) := (cell_of_row w1 X 0 _ _ _ x1).trans rfl
    have c01 := j1.c0
    have hs2 : (s.store e blk).2 = ⟨s.d.next.wrote, s.ents ++ [(e, blk)], s.bs⟩ := by
      unfold DS.store at hb ⊢
      split at hb
      · cases hb
      · rename_i h1; rw [if_neg h1]
    have hse := Secure_ds v1 hd1 (by rw [hs2]; exact hq.nw) (by rw [hs2]; simp)
    have hpt : s.put e blk = (s.store e blk).2.secure := by unfold DS.put; rw [if_pos hb]
    have nJ1 := hd1.not j1 (by decide)
    have nV1 := hd1.not v1 (by decide)
    have nX1 := hd1.not x1 (by decide)
    obtain ⟨s2, HS2⟩ : ∃ s2, Hid (s2 = (s.store e blk).2) := ⟨_, rfl⟩
    rw [← HS2.out] at hse hpt
    have HPT : Hid (s.put e blk = s2.secure) := hpt
    have HSE := hse
    clear hS hst hs2 hse hpt
    go_wp2_with fail
    refine HSE.mono ?_
    rintro e' w2 ⟨cache2, hd2, hcb2, hf2, he2⟩
    have x2 := hf2.keep x1 nX1
    have j2 : JAt w2 J V e true := hf2.keep j1 nJ1
    have v2 : VolAt w2 V A n := hf2.keep v1 nV1
    have hcb : CB w cache cache2 := fun b hb => by
      rcases hcb2 b hb with h1 | h1
      · exact hcb1' b h1
      · right; have := hF1.size; omega
    have hF2 : Fr (DkF A B cache) w w2 := hF1.trans hf2 (fun b hb h => by
      rcases h with h | h | h
      · exact .inl h
      · exact .inr (.inl h)
      · rcases hcb1' b h with h1 | h1
        · exact .inr (.inr h1)
        · omega)
    by_cases hb2 : s2.secure.1 = true
    · rw [if_pos hb2] at he2
      subst he2
      have cx2 : w2.cell? ⟨X, 0, none⟩ = some (.pointer (some ⟨J, 0, none⟩)) := (cell_of_row w2 X 0 _ _ _ x2).trans rfl
      have c12 := j2.c1
      have c22 := j2.c2
      have z12 := j2.fz 1
      have z22 := j2.fz 2
      have nJ2 := hd2.not j2 (by decide)
      have jE := j2.set1 ((e : Int) + 1)
      have hfE : Fr (fun b => b = J) w2 (w2.setCell ⟨J, 1, none⟩ (.int .i64 ((e : Int) + 1))) := Fr.set1 _ _ _ _
      obtain ⟨wE, HWE⟩ : ∃ wE, Hid (wE = w2.setCell ⟨J, 1, none⟩ (.int .i64 ((e : Int) + 1))) := ⟨_, rfl⟩
      rw [← HWE.out] at jE hfE
      have hwr : IntKind.i64.wrap ((e : Int) + 1) = (e : Int) + 1 := by rw [IntKind.wrap_i64]; omega
      have hp1 : (s.put e blk).1 = true := by rw [HPT.out]; exact hb2
      have HF : Hid (∃ cache', DSAt wE A B n base cache' (s.put e blk).2 ∧ CB w cache cache' ∧ VolAt wE V A n ∧ Fr (fun b => DkF A B cache b ∨ b = J) w wE) := by
        rw [HPT.out]
        refine ⟨cache2, hd2.fr hfE (fun b hb e => nJ2 (e ▸ hb)), hcb, hfE.keep v2 (fun e => nJV e.symm), (hF2.mono (fun _ _ h => .inl h)).trans hfE (fun _ _ h => .inr h)⟩
      clear hd1 hf1 hf2 hd2 hF1 hF2 hfE v2 v1 x1 x2 j1 HSE hcb hcb1 hcb2 hcb1' nJ2 nJ1 nV1 nX1
      go_wp2
      rw [← HWE.out]
      go_ret
      obtain ⟨c', q1, q2, q3, q4⟩ := HF.out
      exact ⟨c', q1, q2, q3, q4, Sel.pos hp1 ⟨rfl, jE⟩⟩
    · rw [if_neg hb2] at he2
      obtain ⟨g, rfl, ht⟩ := he2
      have hp1 : ¬ (s.put e blk).1 = true := by rw [HPT.out]; exact hb2
      refine ⟨rfl, cache2, by rw [HPT.out]; exact hd2, hcb, v2, hF2.mono (fun _ _ h => .inl h), Sel.neg hp1 ⟨j2, g, rfl, ht⟩⟩
  · refine wpOp_panics (o := ⟨some 12, .call { callee := .value (.func 94), args := #[(.tmp 6), (.tmp 10), (.tmp 11)], argTypes := _ }, _, _, _, none⟩) (f := 94) (args := #[.pointer (some ⟨V, 0, none⟩), .int .i64 e, .agg blk.toArray]) rfl rfl (by kernel_rfl) ?_
    refine hst.mono ?_
    rintro e' w1 ⟨cache1, hd1, hcb1, hf1, he1⟩
    rw [if_neg hb] at he1
    obtain ⟨g, rfl, ht⟩ := he1
    refine ⟨_, rfl, ?_⟩
    have hF1 : Fr (DkF A B cache) w w1 := (hfW.mono (fun _ _ h => h.elim)).trans hf1 (fun _ _ h => h)
    have hpt : s.put e blk = (false, (s.store e blk).2) := by unfold DS.put; rw [if_neg hb]
    refine ⟨rfl, cache1, by rw [hpt]; exact hd1, fun b hb => (hcb1 b hb).imp_right (fun h => Nat.le_trans hfW.size h), hf1.keep (hfW.keep hv (fun h => h)) nV, hF1.mono (fun _ _ h => .inl h), Sel.neg (by rw [hpt]; simp) ⟨hf1.keep (hfW.keep hj (fun h => h)) nJ, g, rfl, ht⟩⟩
end Go.Proofs.YteebjgfalllbjaaGreatDoor
namespace Go.Proofs.YteebjgfalllbjaaGreatDoor
open Go.RowKit
def DP.nx (d : DP) : Nat → DP
  | 0 => d
  | c + 1 => (d.nx c).next
/-- A disk behind some reads. -/
def DS.after (s : DS) (c : Nat) : DS := ⟨s.d.nx c, s.ents, s.bs⟩
theorem DP.nx_calls (d : DP) (c : Nat) : (d.nx c).calls = d.calls + c ∧ (d.nx c).writes = d.writes ∧ d.told ≤ (d.nx c).told ∧ (d.nx c).told ≤ d.told + c ∧ (d.nx c).off = d.off ∧ (d.nx c).lo = d.lo ∧ (d.nx c).hi = d.hi := by
  induction c with
  | zero => exact ⟨by show d.calls = d.calls + 0; omega, rfl, Int.le_refl _, by show d.told ≤ d.told + 0; omega, rfl, rfl, rfl⟩
  | succ c ih =>
    obtain ⟨h1, h2, h3, h4, h5, h6, h7⟩ := ih
    have := (d.nx c).told_next
    refine ⟨?_, h2, ?_, ?_, h5, h6, h7⟩
    · show (d.nx c).calls + 1 = _; push_cast; omega
    · show d.told ≤ (d.nx c).next.told; omega
    · show (d.nx c).next.told ≤ _; push_cast; omega
theorem DP.good.after {s : DS} (h : s.d.good) (c : Nat) : (s.after c).d.good := by
  have := s.d.nx_calls c
  exact ⟨by show (s.d.nx c).off < 0; rw [this.2.2.2.2.1]; exact h.1, by show (s.d.nx c).hi ≤ (s.d.nx c).lo; rw [this.2.2.2.2.2.1, this.2.2.2.2.2.2]; exact h.2⟩
theorem DP.Q.after {s : DS} (h : s.d.Q) {c : Nat} (hc : c ≤ 1000) : (s.after c).d.Ok := by
  obtain ⟨h1, h2, h3, h4, _⟩ := s.d.nx_calls c
  have := h.c0; have := h.c1; have := h.w0; have := h.w1; have := h.t0; have := h.t1
  refine ⟨?_, ?_, ?_, ?_, ?_, ?_⟩
  · show 0 ≤ (s.d.nx c).calls; omega
  · show (s.d.nx c).calls < _; omega
  · show 0 ≤ (s.d.nx c).writes; omega
  · show (s.d.nx c).writes < _; omega
  · show 0 ≤ (s.d.nx c).told; omega
  · show (s.d.nx c).told < _; omega
/-- A journal of records, the last of which may have been cut through. -/
structure LayT (n : Nat) (cont : List Value) (recs : List (List Value)) (tl : List Value) : Prop where
  len : ∃ m, n ≤ m ∧ cont.length = m * 128
  one : ∀ v ∈ cont, v.oneCell' = true
  head : blkOf cont 0 = headB n
  get : ∀ (i : Nat) (r : List Value), recs[i]? = some r → blkOf cont (i + 1) = r
  tail : recs.length + 1 < n → blkOf cont (recs.length + 1) = tl
  torn : recs.length + 1 < n → ∃ b : Nat → Nat, (∀ i, i < 4 → tl[i * 32]? = some (.int .u8 (b i))) ∧ wholeK b = false
  zero : ∀ i, recs.length + 1 < i → i < n → blkOf cont i = zB
/-- While a journal is read. -/
structure RdG (w : World) (J V A B n base : Nat) (cache : Value) (s : DS) (i : Nat) : Prop where
  v : VolAt w V A n
  d : DSAt w A B n base cache s
  j : JAt w J V ((i + 1 : Nat) : Int) false
theorem RdG.frz {w w' : World} {J V A B n base i : Nat} {cache : Value} {s : DS} (h : RdG w J V A B n base cache s i) (hf : Fr (fun _ => False) w w') : RdG w' J V A B n base cache s i := ⟨h.v.fr hf id, h.d.frz hf, h.j.fr hf id⟩
def RgI (RP : Nat → World → Prop) (SR : Nat → Prop) (J V A B n base : Nat) (cache : Value) (s : DS) (w : World) (i m : Nat) (wr : World) : Prop :=
  ∃ c, c ≤ i + m ∧ RdG wr J V A B n base cache (s.after c) i ∧ RP i wr ∧ Fr (fun b => b = A ∨ b = J ∨ SR b) w wr
def RgK (RP : Nat → World → Prop) (SR : Nat → Prop) (J V A B n base : Nat) (cache : Value) (s : DS) (w : World) (i k : Nat) (wr : World) : Prop :=
  ∃ c, c + 1 ≤ k ∧ RdG wr J V A B n base cache (s.after c) i ∧ RP i wr ∧ Fr (fun b => b = A ∨ b = J ∨ SR b) w wr
/-- A journal was read to its end, or the disk told an error. -/
def JrQ (RP : Nat → World → Prop) (SR : Nat → Prop) (J V A B n base : Nat) (cache : Value) (s : DS) (l m : Nat) (w : World) (e : Ending) (w' : World) : Prop :=
  (e = .returned .nilIface ∧ ∃ c, c ≤ m ∧ RdG w' J V A B n base cache (s.after c) l ∧ RP l w' ∧ Fr (fun b => b = A ∨ b = J ∨ SR b) w w') ∨
  (∃ g c, e = Thrown g ∧ TrAt w' g ∧ DSAt w' A B n base cache (s.after (c + 1)) ∧ (s.after c).d.bad = true ∧ c ≤ m ∧ Fr (fun b => b = A ∨ b = J ∨ SR b) w w')
set_option maxRecDepth 100000 in
set_option maxHeartbeats 20000000 in
theorem jread_gen {w : World} {J V A B n base t1 t2 : Nat} {cache : Value} {s : DS} {recs : List (List Value)} {tl : List Value} (RP : Nat → World → Prop) (SR : Nat → Prop)
    (h : RdG w J V A B n base cache s 0) (hq : s.d.Q) (hL : LayT n (lain s.bs s.ents) recs tl) (hn8 : 8 ≤ n) (hn : n ≤ 400) (hrl : recs.length < n) (hrec : ∀ r ∈ recs, RecOk r) (hR : RP 0 w) (HIT : ¬ s.d.good → ∀ i, i < n → ItH i) (hGO : ∀ W, Fr (fun b => b = A ∨ b = J ∨ SR b) w W → GOk W) (hgA : 0 ≠ A)
    (hP : ∀ i W W', RP i W → Fr (fun b => b = A ∨ b = J) W W' → RP i W') (hSR : (∀ b, DkF A B cache b → ¬ SR b) ∧ ¬ SR J ∧ ¬ SR V)
    (hH : ∀ i r W, recs[i]? = some r → RP i W → Fr (fun b => b = A ∨ b = J ∨ SR b) w W → Calls Tryz.prog 115 #[.agg r.toArray, .pointer (some ⟨t1, 0, none⟩), .pointer (some ⟨t2, 0, none⟩)] W fun e w' => e = .returned (.bool true) ∧ RP (i + 1) w' ∧ Fr SR W w') :
    Calls Tryz.prog 114 #[.pointer (some ⟨J, 0, none⟩), .func (.func 115) #[] #[.pointer (some ⟨t1, 0, none⟩), .pointer (some ⟨t2, 0, none⟩)]] w fun e w' => JrQ RP SR J V A B n base cache s recs.length n w e w' := by
  have HI : Hid (RgI RP SR J V A B n base cache s w 0 0 w) := ⟨0, Nat.le_refl _, h, hR, Fr.refl _ _⟩
  have HIT' : Hid (¬ s.d.good → ∀ i, i < n → ItH i) := HIT
  have HGO : Hid (∀ W, Fr (fun b => b = A ∨ b = J ∨ SR b) w W → GOk W) := hGO
  have HLY : Hid (LayT n (lain s.bs s.ents) recs tl) := hL
  have HDP : Hid (s.d.Q) := hq
  have HH : Hid (∀ i r W, recs[i]? = some r → RP i W → Fr (fun b => b = A ∨ b = J ∨ SR b) w W → Calls Tryz.prog 115 #[.agg r.toArray, .pointer (some ⟨t1, 0, none⟩), .pointer (some ⟨t2, 0, none⟩)] W fun e w' => e = .returned (.bool true) ∧ RP (i + 1) w' ∧ Fr SR W w') := hH
  have HP : Hid (∀ i W W', RP i W → Fr (fun b => b = A ∨ b = J) W W' → RP i W') := hP
  have HS : Hid ((∀ b, DkF A B cache b → ¬ SR b) ∧ ¬ SR J ∧ ¬ SR V) := hSR
  have HREC : Hid (∀ r ∈ recs, RecOk r) := hrec
  have nVA : V ≠ A := h.v.neK h.d.d
  have nJA : J ≠ A := fun e => by have := h.j; rw [e] at this; have := this.symm.trans h.d.d; simp at this
  have nJV : J ≠ V := fun e => by have := h.j; rw [e] at this; have := this.symm.trans h.v; simp at this
  have nJd : ∀ b, DkF A B cache b → ¬ b = J := fun b hb e => h.d.not h.j (by decide) (e ▸ hb)
  have hJl := lt_of_heap h.j
  have hVl := lt_of_heap h.v
  have hAl := h.d.d.lt
  have hdl : ∀ b, DkF A B cache b → b < w.heap.size := by
    rintro b (e | e | e)
    · omega
    · rw [e]; exact lt_of_heap h.d.r.1
    · exact (h.d.q.o.lt b e).2
  have hlift : Tryz.prog.follows .mixedOrders = true := by kernel_rfl
  clear hR hH hP hSR hrec h HIT hGO hL hq
  go_enter Tryz.func114, Tryz.ntmps114
  go_wp2
  go_step3
  go_wp2
  go_step3
  go_wp2
  go_loopw [5] (fun _ wr => ∃ i : Nat, i ≤ recs.length ∧ Hid (RgI RP SR J V A B n base cache s w i 0 wr)) (fun _ wr => n - endOf wr J)
  case atStart => exact ⟨0, by omega, HI⟩
  case round =>
    obtain ⟨i, hi, HR⟩ := hrel
    obtain ⟨cl, hcl2, hS, hRP, hF⟩ := HR.out
    have c0 := hS.j.c0
    have c1 := hS.j.c1
    have hend : endOf wr J = i + 1 := by rw [endOf_eq hS.j]; simp
    have HMo : Hid (n - endOf wr J = n - (i + 1)) := by rw [hend]; rfl
    clear HR
    go_wp2
    obtain ⟨W0, HW0⟩ : ∃ W0, Hid (W0 = wr.drew) := ⟨_, rfl⟩
    have hf0 : Fr (fun _ => False) wr W0 := by rw [HW0.out]; exact (Fr.refl _ _).drew
    have hS0 : RdG W0 J V A B n base cache (s.after cl) i := hS.frz hf0
    have hRP0 : RP i W0 := HP.out i wr W0 hRP (hf0.mono (fun _ _ h => h.elim))
    have hF0 := hF.trans hf0 (fun _ _ h => h.elim)
    clear hS hRP hF hf0 hend c0 c1
    let S : World → Prop := fun w' => w'.cell? ⟨J, 0, none⟩ = some (.pointer (some ⟨V, 0, none⟩)) ∧ w'.cell? ⟨J, 1, none⟩ = some (.int .i64 ((i + 1 : Nat) : Int))
    have hS : S W0 := ⟨hS0.j.c0, hS0.j.c1⟩
    refine wp_region_held (S := S) hlift ?_
    change wpAnyH _ _ _ _ S _ _ _ (World.drew _)
    rw [← HW0.out]
    clear HW0
    refine tkE (S := S) (i := 0) (oi := ⟨some 7, .move (.tmp 0), _, _, _, none⟩) (v := .pointer (some ⟨J, 0, none⟩)) rfl hS ?_
    simp only [Act.put, lsE, lsZ, lsS]
    refine tkE (S := S) (i := 1) (oi := ⟨some 8, .nilCheck (.tmp 7), _, _, _, none⟩) (v := .pointer (some ⟨J, 0, none⟩)) rfl hS ?_
    simp only [Act.put, lsE, lsZ, lsS]
    refine tkE (S := S) (i := 2) (oi := ⟨some 9, .fieldAddr 179 (.tmp 8) 1, _, _, _, none⟩) (v := .pointer (some ⟨J, 1, none⟩)) rfl hS ?_
    simp only [Act.put, lsE, lsZ, lsS]
    refine tkY (S := S) (i := 3) (oi := ⟨some 10, .load 3 (.tmp 9), _, _, _, none⟩) (v := .int .i64 ((i + 1 : Nat) : Int)) rfl (Or.inl ⟨rfl, fun w' hs => exec_load 3 (.tmp 9) rfl ⟨J, 1, none⟩ rfl (run_loadAt_one hs.2 Tryz.underlying3 rfl)⟩) hS ?_
    simp only [Act.put, lsE, lsZ, lsS]
    refine tkE (S := S) (i := 4) (oi := ⟨some 11, .move (.tmp 0), _, _, _, none⟩) (v := .pointer (some ⟨J, 0, none⟩)) rfl hS ?_
    simp only [Act.put, lsE, lsZ, lsS]
    refine tkE (S := S) (i := 5) (oi := ⟨some 12, .nilCheck (.tmp 11), _, _, _, none⟩) (v := .pointer (some ⟨J, 0, none⟩)) rfl hS ?_
    simp only [Act.put, lsE, lsZ, lsS]
    refine tkE (S := S) (i := 6) (oi := ⟨some 13, .fieldAddr 179 (.tmp 12) 0, _, _, _, none⟩) (v := .pointer (some ⟨J, 0, none⟩)) rfl hS ?_
    simp only [Act.put, lsE, lsZ, lsS]
    refine tkY (S := S) (i := 7) (oi := ⟨some 14, .load 155 (.tmp 13), _, _, _, none⟩) (v := .pointer (some ⟨V, 0, none⟩)) rfl (Or.inl ⟨rfl, fun w' hs => exec_load 155 (.tmp 13) rfl ⟨J, 0, none⟩ rfl (run_loadAt_one hs.1 Tryz.underlying155 rfl)⟩) hS ?_
    simp only [Act.put, lsE, lsZ, lsS]
    refine wpAnyH_all (rs := [8]) (by kernel_rfl) (by simp) ?_
    intro i8 hi8
    obtain rfl : i8 = 8 := by simpa using hi8
    refine wpOp_call (o := ⟨some 15, .call { callee := .value (.func 110), args := #[.tmp 14], argTypes := _ }, _, _, _, none⟩) (f := 110) (args := #[.pointer (some ⟨V, 0, none⟩)]) rfl rfl (by kernel_rfl) ?_
    refine (vBlocks_ok hS0.v).mono ?_
    rintro e w' ⟨rfl, rfl⟩
    refine ⟨_, rfl, hS, ?_⟩
    simp only [Act.put, lsE, lsZ, lsS]
    refine tkY (S := S) (i := 9) (oi := ⟨some 16, .binOp .lss 3 (.tmp 10) (.tmp 15) 3, _, _, _, none⟩) (v := .bool (decide (((i + 1 : Nat) : Int) < (n : Int)))) rfl (Or.inl ⟨rfl, fun w' _ => exec_lss rfl rfl rfl w'⟩) hS ?_
    simp only [Act.put, lsE, lsZ, lsS]
    refine wpAnyH_done (by kernel_rfl) ?_ _
    clear hS
    by_cases hin : i + 1 < n
    · have hd : decide (((i + 1 : Nat) : Int) < (n : Int)) = true := by simp; omega
      rw [hd]
      clear hd
      obtain ⟨blk, heb⟩ : ∃ blk, blkOf (lain s.bs s.ents) (i + 1) = blk := ⟨_, rfl⟩
      have hbl : blk.length = 128 := by obtain ⟨m, hm, hml⟩ := HLY.out.len; rw [← heb]; exact blk_len hml (Nat.lt_of_lt_of_le hin hm)
      have hb1 : ∀ v ∈ blk, v.oneCell' = true := fun v hv => by rw [← heb] at hv; exact HLY.out.one v (List.mem_of_mem_drop (List.mem_of_mem_take hv))
      go_wp2
      obtain ⟨W1, HW1⟩ : ∃ W1, Hid (W1 = w'.drew) := ⟨_, rfl⟩
      have hf1 : Fr (fun _ => False) w' W1 := by rw [HW1.out]; exact (Fr.refl _ _).drew
      have hS1 : RdG W1 J V A B n base cache (s.after cl) i := hS0.frz hf1
      have hok := HDP.out.after (c := cl) (by omega)
      have hRP1 : RP i W1 := HP.out i _ W1 hRP0 (hf1.mono (fun _ _ h => h.elim))
      have hF1 := hF0.trans hf1 (fun _ _ h => h.elim)
      have hS : S W1 := ⟨hS1.j.c0, hS1.j.c1⟩
      clear hS0 hRP0 hF0 hf1
      refine wp_region_held (S := S) hlift ?_
      change wpAnyH _ _ _ _ S _ _ _ (World.drew _)
      rw [← HW1.out]
      clear HW1
      refine tkE (S := S) (i := 0) (oi := ⟨some 24, .move (.tmp 0), _, _, _, none⟩) (v := .pointer (some ⟨J, 0, none⟩)) rfl hS ?_
      simp only [Act.put, lsE, lsZ, lsS]
      refine tkE (S := S) (i := 1) (oi := ⟨some 25, .nilCheck (.tmp 24), _, _, _, none⟩) (v := .pointer (some ⟨J, 0, none⟩)) rfl hS ?_
      simp only [Act.put, lsE, lsZ, lsS]
      refine tkE (S := S) (i := 2) (oi := ⟨some 26, .fieldAddr 179 (.tmp 25) 0, _, _, _, none⟩) (v := .pointer (some ⟨J, 0, none⟩)) rfl hS ?_
      simp only [Act.put, lsE, lsZ, lsS]
      refine tkY (S := S) (i := 3) (oi := ⟨some 27, .load 155 (.tmp 26), _, _, _, none⟩) (v := .pointer (some ⟨V, 0, none⟩)) rfl (Or.inl ⟨rfl, fun w' hs => exec_load 155 (.tmp 26) rfl ⟨J, 0, none⟩ rfl (run_loadAt_one hs.1 Tryz.underlying155 rfl)⟩) hS ?_
      simp only [Act.put, lsE, lsZ, lsS]
      refine tkE (S := S) (i := 4) (oi := ⟨some 28, .move (.tmp 0), _, _, _, none⟩) (v := .pointer (some ⟨J, 0, none⟩)) rfl hS ?_
      simp only [Act.put, lsE, lsZ, lsS]
      refine tkE (S := S) (i := 5) (oi := ⟨some 29, .nilCheck (.tmp 28), _, _, _, none⟩) (v := .pointer (some ⟨J, 0, none⟩)) rfl hS ?_
      simp only [Act.put, lsE, lsZ, lsS]
      refine tkE (S := S) (i := 6) (oi := ⟨some 30, .fieldAddr 179 (.tmp 29) 1, _, _, _, none⟩) (v := .pointer (some ⟨J, 1, none⟩)) rfl hS ?_
      simp only [Act.put, lsE, lsZ, lsS]
      refine tkY (S := S) (i := 7) (oi := ⟨some 31, .load 3 (.tmp 30), _, _, _, none⟩) (v := .int .i64 ((i + 1 : Nat) : Int)) rfl (Or.inl ⟨rfl, fun w' hs => exec_load 3 (.tmp 30) rfl ⟨J, 1, none⟩ rfl (run_loadAt_one hs.2 Tryz.underlying3 rfl)⟩) hS ?_
      simp only [Act.put, lsE, lsZ, lsS]
      refine wpAnyH_all (rs := [8, 9]) (by kernel_rfl) (by simp) ?_
      intro i8 hi8
      have hi8' : i8 = 8 ∨ i8 = 9 := by simpa using hi8
      clear hi8
      rcases hi8' with rfl | rfl
      case' inl =>
        have hld := Load_ds hS1.v hS1.d hok (i + 1) hin (fun hg => HIT'.out (fun h => hg (h.after _)) _ hin) (HGO.out _ hF1) hgA
        rcases Bool.eq_false_or_eq_true (s.after cl).d.bad with hbd | hbd
        · refine wpOp_panics (o := ⟨some 32, .call { callee := .value (.func 112), args := #[.tmp 27, .tmp 31], argTypes := _ }, _, _, _, none⟩) (f := 112) (args := #[.pointer (some ⟨V, 0, none⟩), .int .i64 ((i + 1 : Nat) : Int)]) rfl rfl (by kernel_rfl) ?_
          refine hld.mono ?_
          rintro e w2 ⟨hd2, hf2, he2⟩
          rw [if_pos hbd] at he2
          obtain ⟨gg, rfl, htr⟩ := he2
          exact ⟨_, rfl, rfl, .inr ⟨gg, cl, rfl, htr, hd2, hbd, by omega, hF1.trans hf2 (fun _ _ h => .inl h)⟩⟩
        refine wpOp_call (o := ⟨some 32, .call { callee := .value (.func 112), args := #[.tmp 27, .tmp 31], argTypes := _ }, _, _, _, none⟩) (f := 112) (args := #[.pointer (some ⟨V, 0, none⟩), .int .i64 ((i + 1 : Nat) : Int)]) rfl rfl (by kernel_rfl) ?_
        refine hld.mono ?_
        rintro e w2 ⟨hd2, hf2, he2⟩
        rw [if_neg (by rw [hbd]; simp)] at he2
        subst he2
        have hS2 : RdG w2 J V A B n base cache (s.after (cl + 1)) i := ⟨hS1.v.fr hf2 nVA, hd2, hS1.j.fr hf2 nJA⟩
        have hf2' : Fr (fun b => b = A ∨ b = J) W1 w2 := hf2.mono (fun _ _ h => .inl h)
        refine ⟨_, rfl, ⟨hS2.j.c0, hS2.j.c1⟩, ?_⟩
        simp only [Act.put, lsE, lsZ, lsS]
        have hfA : Fr (fun _ => False) w2 (w2.alloc (.cells zB.toArray 130)) := (Fr.refl _ _).alloc _
        have hS3 := hS2.frz hfA
        have hrow3 : (w2.alloc (.cells zB.toArray 130)).heap[w2.heap.size]? = some (.cells zB.toArray 130 (0, 0)) := heap_alloc_at _ _
        have hgw : W1.heap.size ≤ w2.heap.size := hf2.size
        have hf13 : Fr (fun b => b = A ∨ b = J) W1 (w2.alloc (.cells zB.toArray 130)) := hf2'.trans hfA (fun _ _ h => h.elim)
        refine wpAnyH_all (rs := [9]) (by kernel_rfl) (by simp) ?_
        intro i9 hi9
        obtain rfl : i9 = 9 := by simpa using hi9
        refine wpOp_value (o := ⟨some 5, .alloc 130, _, _, _, none⟩) (v := .pointer (some ⟨w2.heap.size, 0, none⟩)) (w' := w2.alloc (.cells zB.toArray 130)) rfl rfl (exec_alloc_blk _ _ rfl _) ⟨⟨hS3.j.c0, hS3.j.c1⟩, ?_⟩
        simp only [Act.put, lsE, lsZ, lsS]
        clear hS2 hf2 hf2' hd2 hfA
        obtain ⟨W3, HW3⟩ : ∃ W3, Hid (W3 = w2.alloc (.cells zB.toArray 130)) := ⟨_, rfl⟩
        obtain ⟨g, HG⟩ : ∃ g, Hid (g = w2.heap.size) := ⟨_, rfl⟩
        rw [← HW3.out] at hS3 hf13 hrow3 ⊢
        rw [← HG.out] at hrow3 hgw ⊢
        clear HW3 HG
      case' inr =>
        have hfA : Fr (fun _ => False) W1 (W1.alloc (.cells zB.toArray 130)) := (Fr.refl _ _).alloc _
        have hS2 := hS1.frz hfA
        have hrow2 : (W1.alloc (.cells zB.toArray 130)).heap[W1.heap.size]? = some (.cells zB.toArray 130 (0, 0)) := heap_alloc_at _ _
        refine wpOp_value (o := ⟨some 5, .alloc 130, _, _, _, none⟩) (v := .pointer (some ⟨W1.heap.size, 0, none⟩)) (w' := W1.alloc (.cells zB.toArray 130)) rfl rfl (exec_alloc_blk _ _ rfl _) ⟨⟨hS2.j.c0, hS2.j.c1⟩, ?_⟩
        simp only [Act.put, lsE, lsZ, lsS]
        obtain ⟨W2, HW2⟩ : ∃ W2, Hid (W2 = W1.alloc (.cells zB.toArray 130)) := ⟨_, rfl⟩
        obtain ⟨g, HG⟩ : ∃ g, Hid (g = W1.heap.size) := ⟨_, rfl⟩
        rw [← HW2.out] at hS2 hfA hrow2 ⊢
        have hgw : W1.heap.size ≤ g := by rw [HG.out]; exact Nat.le_refl _
        rw [← HG.out] at hrow2 ⊢
        clear HW2 HG
        refine wpAnyH_all (rs := [8]) (by kernel_rfl) (by simp) ?_
        intro i9 hi9
        obtain rfl : i9 = 8 := by simpa using hi9
        have hF2 : Fr (fun b => b = A ∨ b = J ∨ SR b) w W2 := hF1.trans (hfA.mono (fun _ _ h => h.elim)) (fun _ _ h => h)
        have hld := Load_ds hS2.v hS2.d hok (i + 1) hin (fun hg => HIT'.out (fun h => hg (h.after _)) _ hin) (HGO.out _ hF2) hgA
        rcases Bool.eq_false_or_eq_true (s.after cl).d.bad with hbd | hbd
        · refine wpOp_panics (o := ⟨some 32, .call { callee := .value (.func 112), args := #[.tmp 27, .tmp 31], argTypes := _ }, _, _, _, none⟩) (f := 112) (args := #[.pointer (some ⟨V, 0, none⟩), .int .i64 ((i + 1 : Nat) : Int)]) rfl rfl (by kernel_rfl) ?_
          refine hld.mono ?_
          rintro e w2 ⟨hd2, hf2, he2⟩
          rw [if_pos hbd] at he2
          obtain ⟨gg, rfl, htr⟩ := he2
          exact ⟨_, rfl, rfl, .inr ⟨gg, cl, rfl, htr, hd2, hbd, by omega, hF2.trans hf2 (fun _ _ h => .inl h)⟩⟩
        refine wpOp_call (o := ⟨some 32, .call { callee := .value (.func 112), args := #[.tmp 27, .tmp 31], argTypes := _ }, _, _, _, none⟩) (f := 112) (args := #[.pointer (some ⟨V, 0, none⟩), .int .i64 ((i + 1 : Nat) : Int)]) rfl rfl (by kernel_rfl) ?_
        refine hld.mono ?_
        rintro e W3 ⟨hd3, hf3, he3⟩
        rw [if_neg (by rw [hbd]; simp)] at he3
        subst he3
        have hS3 : RdG W3 J V A B n base cache (s.after (cl + 1)) i := ⟨hS2.v.fr hf3 nVA, hd3, hS2.j.fr hf3 nJA⟩
        have hf3' : Fr (fun b => b = A ∨ b = J) W2 W3 := hf3.mono (fun _ _ h => .inl h)
        have hf13 : Fr (fun b => b = A ∨ b = J) W1 W3 := (hfA.mono (fun _ _ h => h.elim)).trans hf3' (fun _ _ h => h)
        have hrow3 : W3.heap[g]? = some (.cells zB.toArray 130 (0, 0)) := hf3.keep hrow2 (by have := hF1.size; omega)
        refine ⟨_, rfl, ⟨hS3.j.c0, hS3.j.c1⟩, ?_⟩
        simp only [Act.put, lsE, lsZ, lsS]
        clear hS2 hf3 hf3' hd3 hrow2 hfA
      all_goals
        clear hS hS1
        have hst := run_store_blk hrow3 zB_len hbl hb1
        have hrow4 := setRow_heap W3 g _ blk.toArray 130 (0, 0) hrow3
        obtain ⟨W4, HW4⟩ : ∃ W4, Hid (W4 = W3.setRow g blk.toArray) := ⟨_, rfl⟩
        rw [← HW4.out] at hst hrow4
        have hf4 : Fr (· = g) W3 W4 := by rw [HW4.out]; exact (Fr.refl (fun x => x = g) _).setRow _ (fun _ => rfl) _
        have hw1 := hF1.size
        have hS4 : RdG W4 J V A B n base cache (s.after (cl + 1)) i := ⟨hS3.v.fr hf4 (by omega), hS3.d.fr hf4 (fun b hb e => by have := hdl b hb; omega), hS3.j.fr hf4 (by omega)⟩
        have hf14 : Fr (fun b => b = A ∨ b = J) W1 W4 := hf13.trans hf4 (fun b hb h => by omega)
        have hRP4 : RP i W4 := HP.out i _ W4 hRP1 hf14
        have hF4 : Fr (fun b => b = A ∨ b = J ∨ SR b) w W4 := hF1.trans hf14 (fun b _ h => by rcases h with h | h; exact .inl h; exact .inr (.inl h))
        have hgw' : w.heap.size ≤ g := by omega
        clear HW4 hf4 hf13 hf14 hrow3 hS3 hRP1 hF1 hgw
        refine wpAnyH_all (rs := [10]) (by kernel_rfl) (by simp) ?_
        intro i10 hi10
        obtain rfl : i10 = 10 := by simpa using hi10
        have heb2 : blkOf (lain (s.after cl).bs (s.after cl).ents) (i + 1) = blk := heb
        rw [heb2]
        refine wpOp_skip (o := ⟨none, .store 130 (.tmp 5) (.tmp 32), _, _, _, none⟩) (w' := W4) rfl rfl (exec_store 130 _ _ rfl ⟨g, 0, none⟩ _ rfl rfl hst) ⟨⟨hS4.j.c0, hS4.j.c1⟩, ?_⟩
        simp only [Act.put]
        refine wpAnyH_done (by kernel_rfl) ?_ _

        have hM4 : W4.rangeAt g 0 blk := fun j v hv => (cell_of_row W4 _ (0 + j) _ _ _ hrow4).trans (by simpa using hv)
        clear hst
        by_cases hlt : i < recs.length
        · obtain ⟨r, hr⟩ : ∃ r, recs[i]? = some r := ⟨_, List.getElem?_eq_getElem hlt⟩
          obtain ⟨rl, r1, bk, hbk, hwk⟩ := HREC.out r (List.mem_of_getElem? hr)
          have hbr : blk = r := by rw [← heb]; exact HLY.out.get i r hr
          clear heb heb2
          subst hbr
          go_wp2_with (first | (refine wpList_load_mid rfl 130 (.tmp 5) rfl g 0 ?_ blk _ hM4 Tryz.underlying130 rfl ?_ ?_; rfl; (rw [block_size, hbl])))
          refine (rcWhole_ok W4 blk bk hbk).mono ?_
          rintro e w5 ⟨rfl, hf5⟩
          have hS5 := hS4.frz hf5
          have hRP5 : RP i w5 := HP.out i _ w5 hRP4 (hf5.mono (fun _ _ h => h.elim))
          have hF5 : Fr (fun b => b = A ∨ b = J ∨ SR b) w w5 := hF4.trans hf5 (fun _ _ h => h.elim)
          have hM5 : w5.rangeAt g 0 blk := fun j v hv => hf5.cell (hM4 j v hv) (fun h => h)
          have HC := HH.out i blk w5 hr hRP5 hF5
          rw [hwk]
          clear hS4 hRP4 hF4 hM4 hf5 hrow4 hRP5
          go_wp2_with (first | (refine wpList_load_mid rfl 130 (.tmp 5) rfl g 0 ?_ blk _ hM5 Tryz.underlying130 rfl ?_ ?_; rfl; (rw [block_size, hbl])))
          refine HC.mono ?_
          rintro e w6 ⟨rfl, hRP6, hf6⟩
          have hS6 : RdG w6 J V A B n base cache (s.after (cl + 1)) i := ⟨hS5.v.fr hf6 HS.out.2.2, hS5.d.fr hf6 HS.out.1, hS5.j.fr hf6 HS.out.2.1⟩
          have hF6 : Fr (fun b => b = A ∨ b = J ∨ SR b) w w6 := hF5.trans hf6 (fun _ _ h => .inr (.inr h))
          have c1 := hS6.j.c1
          have z1 := hS6.j.fz 1
          have HN : ∀ v : Int, v = ((i + 1 + 1 : Nat) : Int) → Hid (RgI RP SR J V A B n base cache s w (i + 1) 0 (w6.setCell ⟨J, 1, none⟩ (.int .i64 v))) ∧ endOf (w6.setCell ⟨J, 1, none⟩ (.int .i64 v)) J = i + 2 := by
            rintro v rfl
            have hj := hS6.j.set1 ((i + 1 + 1 : Nat) : Int)
            have hfj : Fr (fun b => b = J) w6 (w6.setCell ⟨J, 1, none⟩ (.int .i64 ((i + 1 + 1 : Nat) : Int))) := Fr.set1 _ _ _ _
            refine ⟨⟨cl + 1, by omega, ⟨hS6.v.fr hfj nJV.symm, hS6.d.fr hfj nJd, hj⟩, ?_, ?_⟩, by rw [endOf_eq hj]; omega⟩
            · exact HP.out _ _ _ hRP6 ((Fr.refl _ _).setCell _ (fun _ => .inr rfl) _)
            · exact hF6.setCell _ (fun _ => .inr (.inl rfl)) _
          have HN' := HN ((i : Int) + 1 + 1) (by push_cast; rfl)
          have HN1 := HN'.1
          have HN2 := HN'.2
          clear HN HN' hS5 hF5 hM5 HC hRP6 hf6 hF6
          push_cast at c1
          go_wp2
          go_roundw
          case rel => exact ⟨i + 1, by omega, HN1⟩
          case measure => rw [HMo.out, HN2]; omega
        · obtain rfl : i = recs.length := by omega
          have hbz : blk = tl := by rw [← heb]; exact HLY.out.tail hin
          obtain ⟨kb, hkb, hwk⟩ := HLY.out.torn hin
          clear heb heb2
          rw [hbz] at hM4 hbl
          go_wp2_with (first | (refine wpList_load_mid rfl 130 (.tmp 5) rfl g 0 ?_ tl _ hM4 Tryz.underlying130 rfl ?_ ?_; rfl; (rw [block_size, hbl])))
          refine (rcWhole_ok W4 tl kb hkb).mono ?_
          rintro e w5 ⟨rfl, hf5⟩
          have hS5 := hS4.frz hf5
          have hRP5 : RP recs.length w5 := HP.out _ _ w5 hRP4 (hf5.mono (fun _ _ h => h.elim))
          have hF5 : Fr (fun b => b = A ∨ b = J ∨ SR b) w w5 := hF4.trans hf5 (fun _ _ h => h.elim)
          rw [hwk]
          have c1 := hS5.j.c1
          push_cast at c1
          clear hS4 hRP4 hF4 hM4 hf5 hrow4
          have HQ : Hid (RgK RP SR J V A B n base cache s w recs.length (recs.length + 2) w5) := ⟨_, by omega, hS5, hRP5, hF5⟩
          clear hS5 hRP5 hF5
          go_wp2
          go_loopw [6] (fun c wq => ∃ k : Nat, recs.length + 2 ≤ k ∧ k ≤ n + 1 ∧ c = .int .i64 k ∧ Hid (RgK RP SR J V A B n base cache s w recs.length k wq)) (fun c _ => n - (intOf c).toNat)
          case atStart => exact ⟨recs.length + 2, by omega, by omega, by push_cast; go_num, HQ⟩
          case round =>
            clear HQ
            obtain ⟨k, hk1, hk2, rfl, HQ⟩ := hrel
            obtain ⟨clk, hk4, hSk, hRPk, hFk⟩ := HQ.out
            have c0 := hSk.j.c0
            by_cases hkn : k < n
            · have hkn' : (k : Int) < n := by omega
              go_wp2_with fail
              refine (vBlocks_ok hSk.v).mono ?_
              rintro e w7 ⟨rfl, rfl⟩
              go_wp2_with fail
              refine (Load_ds hSk.v hSk.d (HDP.out.after (c := clk) (by omega)) k hkn (fun hg => HIT'.out (fun h => hg (h.after _)) _ hkn) (HGO.out _ hFk) hgA).mono ?_
              rintro e w8 ⟨hd8, hf8, he8⟩
              have hF8 : Fr (fun b => b = A ∨ b = J ∨ SR b) w w8 := hFk.trans hf8 (fun _ _ h => .inl h)
              rcases Bool.eq_false_or_eq_true (s.after clk).d.bad with hbd | hbd
              · rw [if_pos hbd] at he8
                obtain ⟨gg, rfl, htr⟩ := he8
                exact ⟨rfl, .inr ⟨gg, clk, rfl, htr, hd8, hbd, by omega, hF8⟩⟩
              rw [if_neg (by rw [hbd]; simp)] at he8
              subst he8
              have hez : blkOf (lain (s.after clk).bs (s.after clk).ents) k = zB := HLY.out.zero k (by omega) hkn
              rw [hez]
              have HN : Hid (RgK RP SR J V A B n base cache s w recs.length (k + 1) w8) := ⟨clk + 1, by omega, ⟨hSk.v.fr hf8 nVA, hd8, hSk.j.fr hf8 nJA⟩, HP.out _ _ _ hRPk (hf8.mono (fun _ _ h => .inl h)), hF8⟩
              have hq := neq_zB w8
              clear HQ hSk hRPk hFk hd8 hf8 hez hF8
              go_wp2_with (first | (refine wpList_buildOf 130 #[] (v := .agg zB.toArray) (w' := w8) rfl rfl #[] ?_ ?_ ?_; rfl; exact build_zB w8) | (refine wpList_value rfl (v := .bool false) (w' := w8) (exec_neq_block rfl rfl rfl hq) ?_))
              go_roundw
              case rel => exact ⟨k + 1, by omega, by omega, by go_num, HN⟩
              case measure => simp [intOf]; omega
            · have hkn' : ¬ (k : Int) < n := by omega
              go_wp2_with fail
              refine (vBlocks_ok hSk.v).mono ?_
              rintro e w7 ⟨rfl, rfl⟩
              clear hSk hRPk hFk
              go_wp2
              try rw [Exit.noGoto_ret]
              go_ret
              obtain ⟨clk, hk4, hSk, hRPk, hFk⟩ := HQ.out
              exact .inl ⟨rfl, clk, by omega, hSk, hRPk, hFk⟩
    · obtain rfl : i = recs.length := by omega
      have hd : decide (((recs.length + 1 : Nat) : Int) < (n : Int)) = false := by simp; omega
      rw [hd]
      clear hd
      have hS5 := hS0
      have hRP5 := hRP0
      have hF5 := hF0
      have c1 := hS5.j.c1
      push_cast at c1
      clear hS0 hRP0 hF0
      obtain ⟨w5, HW5⟩ : ∃ w5, Hid (w5 = w') := ⟨_, rfl⟩
      rw [← HW5.out] at hS5 hRP5 hF5 c1 ⊢
      clear HW5
      have HQ : Hid (RgK RP SR J V A B n base cache s w recs.length (recs.length + 2) w5) := ⟨_, by omega, hS5, hRP5, hF5⟩
      clear hS5 hRP5 hF5
      go_wp2
      go_loopw [6] (fun c wq => ∃ k : Nat, recs.length + 2 ≤ k ∧ k ≤ n + 1 ∧ c = .int .i64 k ∧ Hid (RgK RP SR J V A B n base cache s w recs.length k wq)) (fun c _ => n - (intOf c).toNat)
      case atStart => exact ⟨recs.length + 2, by omega, by omega, by push_cast; go_num, HQ⟩
      case round =>
        clear HQ
        obtain ⟨k, hk1, hk2, rfl, HQ⟩ := hrel
        obtain ⟨clk, hk4, hSk, hRPk, hFk⟩ := HQ.out
        have c0 := hSk.j.c0
        by_cases hkn : k < n
        · exact absurd hkn (by omega)
        · have hkn' : ¬ (k : Int) < n := by omega
          go_wp2_with fail
          refine (vBlocks_ok hSk.v).mono ?_
          rintro e w7 ⟨rfl, rfl⟩
          clear hSk hRPk hFk
          go_wp2
          try rw [Exit.noGoto_ret]
          go_ret
          obtain ⟨clk, hk4, hSk, hRPk, hFk⟩ := HQ.out
          exact .inl ⟨rfl, clk, by omega, hSk, hRPk, hFk⟩
end Go.Proofs.YteebjgfalllbjaaGreatDoor
