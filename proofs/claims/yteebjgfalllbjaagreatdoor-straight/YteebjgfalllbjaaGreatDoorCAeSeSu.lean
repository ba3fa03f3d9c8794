import Derived.Test.YteebjgfalllbjaaGreatDoorCRg2FeAd
import Derived.Laws.StructEq
namespace Go.Proofs.YteebjgfalllbjaaGreatDoor
open Go.RowKit
structure JnS (w : World) (J V A B n : Nat) (calls writes : Int) (e : Int) (s : Bool) (bs : List Value) : Prop where
 v : VolAt w V A n
 d : DiskAt w A B n (.slice none 0 0) calls writes
 r : RowsAt w B n bs
 j : JAt w J V e s
theorem JnS.frz {w w' : World} {J V A B n : Nat} {calls writes e : Int} {s : Bool} {bs : List Value} (h : JnS w J V A B n calls writes e s bs) (hf : Fr (fun _ => False) w w') : JnS w' J V A B n calls writes e s bs := ⟨h.v.fr hf id, h.d.fr hf id, ⟨hf.keep h.r.1 id, h.r.2⟩, h.j.fr hf id⟩
theorem splice_same (bs d : List Value) (e : Nat) (hd : d.length = 128) (h : (bs.drop (e * 128)).take 128 = d) : splice bs (e * 128) d = bs := by
 unfold splice
 rw [hd]
 have h1 : bs.drop (e * 128) = d ++ bs.drop (e * 128 + 128) := by
  rw [← h, ← List.drop_drop, List.take_append_drop]
 conv => rhs; rw [← List.take_append_drop (e * 128) bs, h1]
section
variable {w : World} {J V A B n e : Nat} {calls writes : Int} {s : Bool} {bs : List Value}
def sx (s : Bool) : Int := if s then 0 else 2
theorem sx_le (s : Bool) : 0 ≤ sx s ∧ sx s ≤ 2 := by cases s <;> simp [sx]
set_option maxRecDepth 100000 in
set_option maxHeartbeats 1000000 in
theorem Settle_sx (h : JnS w J V A B n calls writes e s bs) (h0 : 0 ≤ calls) (h1 : calls < 95000000) (h2 : 0 ≤ writes) (h3 : writes < 95000000) (he : e < n) (hz : (bs.drop (e * 128)).take 128 = zB) : Calls Tryz.prog 91 #[.pointer (some ⟨J, 0, none⟩)] w fun e' w' => e' = .returned .nilIface ∧ (∃ calls' writes', calls ≤ calls' ∧ calls' ≤ calls + sx s ∧ writes ≤ writes' ∧ writes' ≤ writes + 1 ∧ JnS w' J V A B n calls' writes' e true bs) ∧ Fr (fun b => b = A ∨ b = B ∨ b = J) w w' := by
 have hmf : ∀ (fn : Fn) (first cap : Array Value) (w : World), (Instr.makeFunc fn first cap).run Tryz.prog w = .ok (.func fn first cap) w := fun _ _ _ _ => rfl
 have hfa : Fr (fun _ => False) w (w.alloc (.cells #[.pointer (some ⟨J, 0, none⟩)] 87)) := (Fr.refl _ _).alloc _
 have hx := heap_alloc_at w (.cells #[.pointer (some ⟨J, 0, none⟩)] 87)
 have hA := h.frz hfa
 have c2 := hA.j.c2
 have hJl := lt_of_heap h.j
 have hAl := lt_of_heap h.d
 have hBl := lt_of_heap h.r.1
 have hVl := lt_of_heap h.v
 cases s
 ·have hT := Try_any (w := w.alloc (.cells #[.pointer (some ⟨J, 0, none⟩)] 87)) (f := 138) (caps := #[.pointer (some ⟨w.heap.size, 0, none⟩)])
   (Q := fun v w' => v = .nilIface ∧ (∃ calls' writes', calls ≤ calls' ∧ calls' ≤ calls + sx false ∧ writes ≤ writes' ∧ writes' ≤ writes + 1 ∧ JnS w' J V A B n calls' writes' e true bs) ∧ Fr (fun b => b = A ∨ b = B ∨ b = J) w w') (fun _ => by kernel_rfl) (by
    have hfb : Fr (fun _ => False) (w.alloc (.cells #[.pointer (some ⟨J, 0, none⟩)] 87)) ((w.alloc (.cells #[.pointer (some ⟨J, 0, none⟩)] 87)).alloc (.cells #[.nilIface] 36)) := (Fr.refl _ _).alloc _
    have hB := hA.frz hfb
    refine (Settle1_ok (hfb.keep hx (fun h => h)) hB.j hB.v hB.d hB.r h0 h1 h2 h3 he).mono ?_
    rintro e' w1 ⟨rfl, j1, v1, d1, r1, f1⟩
    rw [splice_same bs zB e zB_len hz] at r1
    have hE : w1.heap[(w.alloc (.cells #[.pointer (some ⟨J, 0, none⟩)] 87)).heap.size]? = some (.cells #[.nilIface] 36 (0, 0)) := f1.keep (heap_alloc_at _ _) (by simp; omega)
    have hset : Fr (fun b => b = w.heap.size + 1) w1 (w1.setCell ⟨(w.alloc (.cells #[.pointer (some ⟨J, 0, none⟩)] 87)).heap.size, 0, none⟩ .nilIface) := by
     have := Fr.set1 w1 (w.alloc (.cells #[.pointer (some ⟨J, 0, none⟩)] 87)).heap.size 0 .nilIface
     simpa using this
    refine ⟨_, rfl, rfl, hE, rfl, ⟨calls + 2, writes + 1, by omega, by simp [sx], by omega, by omega, v1.fr hset (by omega), d1.fr hset (by omega), ⟨hset.keep r1.1 (by omega), r1.2⟩, j1.fr hset (by omega)⟩, ?_⟩
    exact (((hfa.trans hfb (fun _ _ h => h)).mono (fun _ _ h => h.elim)).trans f1 (fun _ _ h => h)).trans hset (fun b hb h => by omega))
  clear hfa hx hA
  go_enter Tryz.func91, Tryz.ntmps91
  go_wp2_with fail
  refine hT.mono ?_
  rintro e' w1 ⟨v, rfl, rfl, hq, hf1⟩
  have HQ : Hid ((∃ calls' writes', calls ≤ calls' ∧ calls' ≤ calls + sx false ∧ writes ≤ writes' ∧ writes' ≤ writes + 1 ∧ JnS w1 J V A B n calls' writes' e true bs) ∧ Fr (fun b => b = A ∨ b = B ∨ b = J) w w1) := ⟨hq, hf1⟩
  clear hT hq hf1
  go_wp2
  go_ret
  exact ⟨rfl, HQ.out.1, HQ.out.2⟩
 ·have HQ : Hid ((∃ calls' writes', calls ≤ calls' ∧ calls' ≤ calls + sx true ∧ writes ≤ writes' ∧ writes' ≤ writes + 1 ∧ JnS (w.alloc (.cells #[.pointer (some ⟨J, 0, none⟩)] 87)) J V A B n calls' writes' e true bs) ∧ Fr (fun b => b = A ∨ b = B ∨ b = J) w (w.alloc (.cells #[.pointer (some ⟨J, 0, none⟩)] 87))) := ⟨⟨calls, writes, by omega, by simp [sx], by omega, by omega, hA⟩, hfa.mono (fun _ _ h => h.elim)⟩
  clear hfa hx hA
  go_enter Tryz.func91, Tryz.ntmps91
  go_wp2
  go_ret
  exact ⟨rfl, HQ.out.1, HQ.out.2⟩
set_option maxRecDepth 100000 in
set_option maxHeartbeats 1000000 in
theorem Add_sx {blk : List Value} (h : JnS w J V A B n calls writes e s bs) (h0 : 0 ≤ calls) (h1 : calls < 90000000) (h2 : 0 ≤ writes) (h3 : writes < 90000000) (he : e < n) (hn : n ≤ 400) (hz : (bs.drop (e * 128)).take 128 = zB) (hl : blk.length = 128) (hb1 : ∀ v ∈ blk, v.oneCell' = true) : Calls Tryz.prog 61 #[.pointer (some ⟨J, 0, none⟩), .agg blk.toArray] w fun e' w' => e' = .returned .nilIface ∧ (∃ calls' writes', calls ≤ calls' ∧ calls' ≤ calls + sx s + 2 ∧ writes ≤ writes' ∧ writes' ≤ writes + 2 ∧ JnS w' J V A B n calls' writes' ((e : Int) + 1) true (splice bs (e * 128) blk)) ∧ Fr (fun b => b = A ∨ b = B ∨ b = J) w w' := by
 have hmf : ∀ (fn : Fn) (first cap : Array Value) (w : World), (Instr.makeFunc fn first cap).run Tryz.prog w = .ok (.func fn first cap) w := fun _ _ _ _ => rfl
 obtain ⟨W, HW⟩ : ∃ W, Hid (W = (w.alloc (.cells #[.pointer (some ⟨J, 0, none⟩)] 87)).alloc (.cells blk.toArray 130)) := ⟨_, rfl⟩
 have hfa : Fr (fun _ => False) w W := by rw [HW.out]; exact ((Fr.refl _ _).alloc _).alloc _
 have hx : W.heap[w.heap.size]? = some (.cells #[.pointer (some ⟨J, 0, none⟩)] 87 (0, 0)) := by rw [HW.out, heap_alloc_lt _ _ _ (by simp)]; exact heap_alloc_at _ _
 have hx2 : W.heap[w.heap.size + 1]? = some (.cells blk.toArray 130 (0, 0)) := by rw [HW.out]; exact heap_alloc2_new w _ _
 have hA := h.frz hfa
 have cx : ((w.alloc (.cells #[.pointer (some ⟨J, 0, none⟩)] 87)).alloc (.cells blk.toArray 130)).cell? ⟨w.heap.size, 0, none⟩ = some (.pointer (some ⟨J, 0, none⟩)) := by rw [← HW.out]; exact (cell_of_row W _ 0 _ _ _ hx).trans rfl
 have hJl := lt_of_heap h.j
 have hAl := lt_of_heap h.d
 have hBl := lt_of_heap h.r.1
 have hVl := lt_of_heap h.v
 have hsx := sx_le s
 have hs := Settle_sx hA h0 (by omega) h2 (by omega) he hz
 go_enter Tryz.func61, Tryz.ntmps61
 go_wp2_with fail
 rw [← HW.out]
 refine hs.mono ?_
 rintro e' w1 ⟨rfl, ⟨cl, wl, g1, g2, g3, g4, g5⟩, hf1⟩
 have x1 := hf1.keep hx (by omega)
 have x2 := hf1.keep hx2 (by omega)
 have hF1 : Fr (fun b => b = A ∨ b = B ∨ b = J) w w1 := (hfa.mono (fun _ _ h => h.elim)).trans hf1 (fun _ _ h => h)
 have hsz1 : w.heap.size + 1 < w1.heap.size := lt_of_heap x2
 clear HW hfa hx hx2 hA cx hs hf1 h
 have hT := Try_any (w := w1) (f := 93) (caps := #[.pointer (some ⟨w.heap.size, 0, none⟩), .pointer (some ⟨w.heap.size + 1, 0, none⟩)])
  (Q := fun v w' => v = .nilIface ∧ (∃ calls' writes', calls ≤ calls' ∧ calls' ≤ calls + sx s + 2 ∧ writes ≤ writes' ∧ writes' ≤ writes + 2 ∧ JnS w' J V A B n calls' writes' ((e : Int) + 1) true (splice bs (e * 128) blk)) ∧ Fr (fun b => b = A ∨ b = B ∨ b = J) w w') (fun _ => by kernel_rfl) (by
   have hfb : Fr (fun _ => False) w1 (w1.alloc (.cells #[.nilIface] 36)) := (Fr.refl _ _).alloc _
   have hB := g5.frz hfb
   refine (Add1_ok (hfb.keep x1 (fun h => h)) (hfb.keep x2 (fun h => h)) (by omega) hl hb1 hB.j hB.v hB.d hB.r (by omega) (by omega) (by omega) (by omega) he hn).mono ?_
   rintro e' w2 ⟨rfl, j1, v1, d1, r1, f1⟩
   have hE : w2.heap[w1.heap.size]? = some (.cells #[.nilIface] 36 (0, 0)) := f1.keep (heap_alloc_at _ _) (by omega)
   have hset : Fr (fun b => b = w1.heap.size) w2 (w2.setCell ⟨w1.heap.size, 0, none⟩ .nilIface) := Fr.set1 _ _ _ _
   refine ⟨_, rfl, rfl, hE, rfl, ⟨cl + 2, wl + 1, by omega, by omega, by omega, by omega, v1.fr hset (by omega), d1.fr hset (by omega), ⟨hset.keep r1.1 (by omega), r1.2⟩, j1.fr hset (by omega)⟩, ?_⟩
   exact ((hF1.trans (hfb.mono (fun _ _ h => h.elim)) (fun _ _ h => h)).trans f1 (fun _ _ h => h)).trans hset (fun b hb h => by omega))
 go_wp2_with fail
 refine hT.mono ?_
 rintro e' w3 ⟨v, rfl, rfl, hq, hf3⟩
 have HQ : Hid ((∃ calls' writes', calls ≤ calls' ∧ calls' ≤ calls + sx s + 2 ∧ writes ≤ writes' ∧ writes' ≤ writes + 2 ∧ JnS w3 J V A B n calls' writes' ((e : Int) + 1) true (splice bs (e * 128) blk)) ∧ Fr (fun b => b = A ∨ b = B ∨ b = J) w w3) := ⟨hq, hf3⟩
 clear hT hq hf3
 go_wp2
 go_ret
 exact ⟨rfl, HQ.out.1, HQ.out.2⟩
theorem Add_ok {blk : List Value} (h : JnS w J V A B n calls writes e s bs) (h0 : 0 ≤ calls) (h1 : calls < 90000000) (h2 : 0 ≤ writes) (h3 : writes < 90000000) (he : e < n) (hn : n ≤ 400) (hz : (bs.drop (e * 128)).take 128 = zB) (hl : blk.length = 128) (hb1 : ∀ v ∈ blk, v.oneCell' = true) : Calls Tryz.prog 61 #[.pointer (some ⟨J, 0, none⟩), .agg blk.toArray] w fun e' w' => e' = .returned .nilIface ∧ (∃ calls' writes', calls ≤ calls' ∧ calls' ≤ calls + 4 ∧ writes ≤ writes' ∧ writes' ≤ writes + 2 ∧ JnS w' J V A B n calls' writes' ((e : Int) + 1) true (splice bs (e * 128) blk)) ∧ Fr (fun b => b = A ∨ b = B ∨ b = J) w w' := by
 have hsx := sx_le s
 refine (Add_sx h h0 h1 h2 h3 he hn hz hl hb1).mono ?_
 rintro e' w' ⟨rfl, ⟨c, v, a1, a2, a3, a4, a5⟩, hf⟩
 exact ⟨rfl, ⟨c, v, a1, by omega, a3, a4, a5⟩, hf⟩
end
end Go.Proofs.YteebjgfalllbjaaGreatDoor
namespace Go.Proofs.YteebjgfalllbjaaGreatDoor
open Go.RowKit
theorem eq_step (d : Nat) (a b : SS) (w : World) : (Op.equalIn (d + 3) 58 (.agg #[.string a.1, .string a.2]) (.agg #[.string b.1, .string b.2])).run Tryz.prog w = .ok (decide (a = b)) w := by
 obtain ⟨a1, a2⟩ := a
 obtain ⟨b1, b2⟩ := b
 rw [run_equalIn_agg]
 ·by_cases h1 : a1 = b1
  ·subst h1
   by_cases h2 : a2 = b2
   ·subst h2
    go_simp
   ·have h2' : ¬ a2.toList = b2.toList := by simpa using str_ne h2
    have e : decide ((a1, a2) = (a1, b2)) = false := by simp [h2]
    rw [e]
    go_simp
  ·have h1' : ¬ a1.toList = b1.toList := by simpa using str_ne h1
   have e : decide ((a1, a2) = (b1, b2)) = false := by simp [h1]
   rw [e]
   go_simp
 ·kernel_rfl
 ·kernel_rfl
theorem pt0 (p0 p1 p2 p3 p4 p5 : SS) (w : World) : (part 58 (scells [p0, p1, p2, p3, p4, p5]).toArray 0).run Tryz.prog w = .ok (.agg #[.string p0.1, .string p0.2]) w := by kernel_rfl
theorem pt1 (p0 p1 p2 p3 p4 p5 : SS) (w : World) : (part 58 (scells [p0, p1, p2, p3, p4, p5]).toArray 2).run Tryz.prog w = .ok (.agg #[.string p1.1, .string p1.2]) w := by kernel_rfl
theorem pt2 (p0 p1 p2 p3 p4 p5 : SS) (w : World) : (part 58 (scells [p0, p1, p2, p3, p4, p5]).toArray 4).run Tryz.prog w = .ok (.agg #[.string p2.1, .string p2.2]) w := by kernel_rfl
theorem pt3 (p0 p1 p2 p3 p4 p5 : SS) (w : World) : (part 58 (scells [p0, p1, p2, p3, p4, p5]).toArray 6).run Tryz.prog w = .ok (.agg #[.string p3.1, .string p3.2]) w := by kernel_rfl
theorem pt4 (p0 p1 p2 p3 p4 p5 : SS) (w : World) : (part 58 (scells [p0, p1, p2, p3, p4, p5]).toArray 8).run Tryz.prog w = .ok (.agg #[.string p4.1, .string p4.2]) w := by kernel_rfl
theorem pt5 (p0 p1 p2 p3 p4 p5 : SS) (w : World) : (part 58 (scells [p0, p1, p2, p3, p4, p5]).toArray 10).run Tryz.prog w = .ok (.agg #[.string p5.1, .string p5.2]) w := by kernel_rfl
theorem eq_six (d : Nat) (p0 p1 p2 p3 p4 p5 q0 q1 q2 q3 q4 q5 : SS) (w : World) : (Op.equalIn (d + 4) 120 (.agg (scells [p0, p1, p2, p3, p4, p5]).toArray) (.agg (scells [q0, q1, q2, q3, q4, q5]).toArray)).run Tryz.prog w = .ok (decide ([p0, p1, p2, p3, p4, p5] = [q0, q1, q2, q3, q4, q5])) w := by
 have hsz : (sizeOf 58).run Tryz.prog w = .ok 2 w := by kernel_rfl
 have hr : List.range' 0 6 = [0, 1, 2, 3, 4, 5] := rfl
 unfold Op.equalIn
 simp only [Sem.run_bind, run_underlying Tryz.underlying120, Result.andThen_ok, hsz, Std.Legacy.Range.forIn_eq_forIn_range', Std.Legacy.Range.size, Nat.sub_zero, Nat.add_sub_cancel, Nat.div_one, hr, List.forIn_cons, List.forIn_nil, Nat.reduceMul, pt0, eq_step]
 by_cases h0 : p0 = q0
 ·subst h0
  by_cases h1 : p1 = q1
  ·subst h1
   by_cases h2 : p2 = q2
   ·subst h2
    by_cases h3 : p3 = q3
    ·subst h3
     by_cases h4 : p4 = q4
     ·subst h4
      by_cases h5 : p5 = q5
      ·subst h5
       simp [pt1, pt2, pt3, pt4, pt5, eq_step]
      ·simp [pt1, pt2, pt3, pt4, pt5, eq_step, h5]
     ·simp [pt1, pt2, pt3, pt4, eq_step, h4]
    ·simp [pt1, pt2, pt3, eq_step, h3]
   ·simp [pt1, pt2, eq_step, h2]
  ·simp [pt1, eq_step, h1]
 ·simp [h0]
set_option maxRecDepth 100000 in
set_option maxHeartbeats 1000000 in
theorem neq_saga (id : Int) (n m : Nat) (p0 p1 p2 p3 p4 p5 q0 q1 q2 q3 q4 q5 : SS) (w : World) : (binOp .neq 122 (.agg (sagaC id n [p0, p1, p2, p3, p4, p5]).toArray) (.agg (sagaC id m [q0, q1, q2, q3, q4, q5]).toArray)).run Tryz.prog w = .ok (.bool (!decide (n = m ∧ [p0, p1, p2, p3, p4, p5] = [q0, q1, q2, q3, q4, q5]))) w := by
 have h6 : (Op.equalIn 9999 120 (.agg (List.take 12 (stv p0 ++ (stv p1 ++ (stv p2 ++ (stv p3 ++ (stv p4 ++ stv p5)))))).toArray) (.agg (List.take 12 (stv q0 ++ (stv q1 ++ (stv q2 ++ (stv q3 ++ (stv q4 ++ stv q5)))))).toArray)).run Tryz.prog w = .ok (decide ([p0, p1, p2, p3, p4, p5] = [q0, q1, q2, q3, q4, q5])) w := eq_six 9995 p0 p1 p2 p3 p4 p5 q0 q1 q2 q3 q4 q5 w
 obtain ⟨t, ht⟩ : ∃ t, t = decide ([p0, p1, p2, p3, p4, p5] = [q0, q1, q2, q3, q4, q5]) := ⟨_, rfl⟩
 have he : decide (n = m ∧ [p0, p1, p2, p3, p4, p5] = [q0, q1, q2, q3, q4, q5]) = (decide (n = m) && t) := by rw [ht]; exact Bool.decide_and _ _
 rw [← ht] at h6
 rw [he, run_neq_struct, run_equalIn_agg]
 ·clear he ht
  by_cases hnm : n = m
  ·subst hnm
   simp only [sagaC, scells]
   go_simp
   cases t <;> simp
  ·have hnm' : ¬ (n : Int) = m := by omega
   simp only [sagaC, scells]
   go_simp
 ·kernel_rfl
 ·kernel_rfl
theorem neq_sagas (id : Int) (a b : List SS) (ha : a.length ≤ 6) (hb : b.length ≤ 6) (w : World) : (binOp .neq 122 (.agg (sagaC id a.length (six a)).toArray) (.agg (sagaC id b.length (six b)).toArray)).run Tryz.prog w = .ok (.bool (decide (¬ a = b))) w := by
 have key : (a.length = b.length ∧ six a = six b) ↔ a = b := by
  constructor
  ·rintro ⟨h1, h2⟩
   unfold six at h2
   exact (List.append_inj h2 h1).1
  ·rintro rfl; exact ⟨rfl, rfl⟩
 have hd : decide (¬ a = b) = !decide (a.length = b.length ∧ six a = six b) := by
  by_cases h : a = b
  ·simp [h]
  ·rw [decide_eq_true h, decide_eq_false (mt key.1 h)]; rfl
 rw [hd]
 have la := six_len a ha
 have lb := six_len b hb
 match six a, la, six b, lb with
 | [p0, p1, p2, p3, p4, p5], _, [q0, q1, q2, q3, q4, q5], _ => exact neq_saga id a.length b.length p0 p1 p2 p3 p4 p5 q0 q1 q2 q3 q4 q5 w
end Go.Proofs.YteebjgfalllbjaaGreatDoor
namespace Go.Proofs.YteebjgfalllbjaaGreatDoor
open Go.RowKit
theorem checked_nil (X : Addr) (w : World) : Calls Tryz.prog 60 #[.pointer (some X), .nilIface] w fun e w' => e = .returned .nilIface ∧ w' = w := by
 go_enter Tryz.func60, Tryz.ntmps60
 go_wp2
 go_ret
 exact ⟨rfl, rfl⟩
theorem exec_neq_saga {ρ : Operand → Value} {o : Oper} {w : World} {x y : Operand} {xs ys : Array Value} (ho : o.op = .binOp .neq 122 x y 122) (hx : ρ x = .agg xs) (hy : ρ y = .agg ys) {b : Bool} (hr : (binOp .neq 122 (.agg xs) (.agg ys)).run Tryz.prog w = .ok (.bool b) w) : (execOp ρ o).run Tryz.prog w = .ok (.value (.bool b)) w := by
 have hg := run_eqGuard_agg (P := Tryz.prog) w .neq 122 x y xs ys (by kernel_rfl)
 simp only [execOp, ho, hx, hy, Sem.run_bind, hg, hr, Result.andThen_ok, Sem.run_pure]
def errE (k : Int) : Value := .iface 59 (.int .i64 k)
theorem saga_of (id : Int) (st : List SS) (hok : sagaOk id st = true) : 1 ≤ id ∧ id ≤ 1000 ∧ 1 ≤ st.length ∧ st.length ≤ 6 ∧ ∀ p ∈ st, p.1.size ≤ 8 ∧ p.2.size ≤ 8 := of_decide_eq_true hok
section
variable {w : World} {X J V A B n R base e g sc : Nat} {ao : Option Addr} {calls writes clock pause room : Int} {cv ev : Value} {es : List (Nat × AS)} {s : Bool} {bs : List Value}
set_option maxRecDepth 100000 in
set_option maxHeartbeats 4000000 in
theorem submit_bad (he : EngAt w X J R clock pause cv) (id : Int) (st : List SS) (hl : RowsOf w ao 2 (st.map stv)) (hbad : sagaOk id st = false) :
  Calls Tryz.prog 42 #[.pointer (some ⟨X, 0, none⟩), .int .i64 id, .slice ao st.length sc] w fun e' w' => e' = .returned (errE 1) ∧ Fr (fun _ => False) w w' := by
 have c2 : w.cell? ⟨X, 2, none⟩ = some (.bool false) := he.c rfl
 go_enter Tryz.func42, Tryz.ntmps42
 go_wp2_with fail
 refine (NewSaga_ok hl id).mono ?_
 rintro e' w2 ⟨hns, hf2⟩
 rcases hns with ⟨hok, _⟩ | ⟨_, rfl⟩
 ·rw [hok] at hbad; cases hbad
 ·obtain ⟨WS, hst, hrS, hfS⟩ := saga_box w2 0 [] (by simp)
  have hFS : Fr (fun _ => False) w WS := hf2.trans hfS (fun _ _ h => h)
  unfold errSaga
  clear hf2 hfS hrS c2 he hl
  go_wp2_with (first | (refine wpList_store 122 (w' := WS) _ _ rfl rfl ?_ ?_; exact hst))
  go_ret
  exact ⟨rfl, hFS⟩
set_option maxRecDepth 100000 in
set_option maxHeartbeats 4000000 in
theorem submit_old (he : EngAt w X J R clock pause cv) (id : Int) (st : List SS) (hl : RowsOf w (some ⟨g, 0, none⟩) 2 (st.map stv)) (hr : RollAt w R base room ev es) (hs : Sorted es) (hn : es.length ≤ 100000) (hes6 : ∀ p ∈ es, p.2.st.length ≤ 6) (hok : sagaOk id st = true) (hin : ∃ p ∈ es, p.2.id = id) :
  Calls Tryz.prog 42 #[.pointer (some ⟨X, 0, none⟩), .int .i64 id, .slice (some ⟨g, 0, none⟩) st.length sc] w fun e' w' => ∃ p ∈ es, p.2.id = id ∧ e' = .returned (if p.2.st = st then .nilIface else errE 2) ∧ Fr (fun _ => False) w w' := by
 have c2 : w.cell? ⟨X, 2, none⟩ = some (.bool false) := he.c rfl
 obtain ⟨hid1, hid2, hn1, h6, h8⟩ := saga_of id st hok
 go_enter Tryz.func42, Tryz.ntmps42
 go_wp2_with fail
 refine (NewSaga_ok hl id).mono ?_
 rintro e' w2 ⟨hns, hf2⟩
 rcases hns with ⟨_, rfl⟩ | ⟨hbad, _⟩
 case inr => rw [hok] at hbad; cases hbad
 obtain ⟨WS, hst, hrS, hfS⟩ := saga_box w2 id st h6
 have hFS : Fr (fun _ => False) w WS := hf2.trans hfS (fun _ _ h => h)
 have hrl := hr.frz hFS
 have heS : EngAt WS X J R clock pause cv := hFS.keep he (fun h => h)
 have c1S : WS.cell? ⟨X, 1, none⟩ = some (.pointer (some ⟨R, 0, none⟩)) := heS.c rfl
 clear hf2 hfS c2
 go_wp2_with (first | (refine wpList_store 122 (w' := WS) _ _ rfl rfl ?_ ?_; exact hst))
 refine (rollSaga_ok hrl hs hn hes6 id).mono ?_
 rintro e' w3 ⟨hsv, hf3⟩
 have hF3 : Fr (fun _ => False) w w3 := hFS.trans hf3 (fun _ _ h => h)
 have hr3 := hrl.frz hf3
 have he3 : EngAt w3 X J R clock pause cv := hf3.keep heS (fun h => h)
 have hs3 := hf3.keep hrS (fun h => h)
 clear hst hrS hrl heS c1S hf3 hFS
 rcases hsv with ⟨p, hp, hid, rfl⟩ | ⟨hno, _⟩
 case inr => obtain ⟨p, hp, hid⟩ := hin; exact absurd hid (hno p hp)
 rw [hid]
 obtain ⟨W4, hst4, hr4, hf4⟩ := saga_box w3 id p.2.st (hes6 p hp)
 have hF4 : Fr (fun _ => False) w W4 := hF3.trans hf4 (fun _ _ h => h)
 have hs4 := hf4.keep hs3 (fun h => h)
 have hM1 : W4.rangeAt w3.heap.size 0 (sagaC id p.2.st.length (six p.2.st)) := fun j v hv => (cell_of_row W4 _ (0 + j) _ _ _ hr4).trans (by simpa using hv)
 have hM2 : W4.rangeAt w2.heap.size 0 (sagaC id st.length (six st)) := fun j v hv => (cell_of_row W4 _ (0 + j) _ _ _ hs4).trans (by simpa using hv)
 have l1 := sagaC_len id p.2.st.length _ (six_len _ (hes6 p hp))
 have l2 := sagaC_len id st.length _ (six_len _ h6)
 have hq := neq_sagas id p.2.st st (hes6 p hp) h6 W4
 have HP : Hid (p ∈ es ∧ p.2.id = id) := ⟨hp, hid⟩
 clear hr3 he3 hs3 hf4 hF3 hr4 hs4 hp hid
 by_cases heq : p.2.st = st
 ·rw [decide_eq_false (fun h => h heq)] at hq
  have HE : Hid (p.2.st = st) := heq
  clear heq
  go_wp2_with (first | (refine wpList_store 122 (w' := W4) _ _ rfl rfl ?_ ?_; exact hst4) | (refine wpList_load_mid rfl 122 (.tmp 9) rfl w3.heap.size 0 ?_ _ _ hM1 Tryz.underlying122 rfl ?_ ?_; rfl; (rw [rsaga_size, l1])) | (refine wpList_load_mid rfl 122 (.tmp 7) rfl w2.heap.size 0 ?_ _ _ hM2 Tryz.underlying122 rfl ?_ ?_; rfl; (rw [rsaga_size, l2])) | (refine wpList_value rfl (v := .bool false) (w' := W4) (exec_neq_saga rfl rfl rfl hq) ?_))
  go_ret
  exact ⟨p, HP.out.1, HP.out.2, by rw [if_pos HE.out]; rfl, hF4⟩
 ·rw [decide_eq_true heq] at hq
  have HE : Hid (¬ p.2.st = st) := heq
  clear heq
  go_wp2_with (first | (refine wpList_store 122 (w' := W4) _ _ rfl rfl ?_ ?_; exact hst4) | (refine wpList_load_mid rfl 122 (.tmp 9) rfl w3.heap.size 0 ?_ _ _ hM1 Tryz.underlying122 rfl ?_ ?_; rfl; (rw [rsaga_size, l1])) | (refine wpList_load_mid rfl 122 (.tmp 7) rfl w2.heap.size 0 ?_ _ _ hM2 Tryz.underlying122 rfl ?_ ?_; rfl; (rw [rsaga_size, l2])) | (refine wpList_value rfl (v := .bool true) (w' := W4) (exec_neq_saga rfl rfl rfl hq) ?_))
  go_ret
  exact ⟨p, HP.out.1, HP.out.2, by rw [if_neg HE.out]; rfl, hF4⟩
set_option maxRecDepth 100000 in
set_option maxHeartbeats 4000000 in
theorem submit_full (he : EngAt w X J R clock pause cv) (id : Int) (st : List SS) (hl : RowsOf w (some ⟨g, 0, none⟩) 2 (st.map stv)) (hr : RollAt w R base room ev es) (hs : Sorted es) (hn : es.length ≤ 100000) (hes6 : ∀ p ∈ es, p.2.st.length ≤ 6) (hok : sagaOk id st = true) (hno : ∀ p ∈ es, p.2.id ≠ id) (hroom : ¬ 2 * (st.length : Int) ≤ room) :
  Calls Tryz.prog 42 #[.pointer (some ⟨X, 0, none⟩), .int .i64 id, .slice (some ⟨g, 0, none⟩) st.length sc] w fun e' w' => e' = .returned (errE 3) ∧ Fr (fun _ => False) w w' := by
 have hlift : Tryz.prog.follows .mixedOrders = true := by kernel_rfl
 have c2 : w.cell? ⟨X, 2, none⟩ = some (.bool false) := he.c rfl
 obtain ⟨hid1, hid2, hn1, h6, h8⟩ := saga_of id st hok
 go_enter Tryz.func42, Tryz.ntmps42
 go_wp2_with fail
 refine (NewSaga_ok hl id).mono ?_
 rintro e' w2 ⟨hns, hf2⟩
 rcases hns with ⟨_, rfl⟩ | ⟨hbad, _⟩
 case inr => rw [hok] at hbad; cases hbad
 obtain ⟨WS, hst, hrS, hfS⟩ := saga_box w2 id st h6
 have hFS : Fr (fun _ => False) w WS := hf2.trans hfS (fun _ _ h => h)
 have hrl := hr.frz hFS
 have heS : EngAt WS X J R clock pause cv := hFS.keep he (fun h => h)
 have c1S : WS.cell? ⟨X, 1, none⟩ = some (.pointer (some ⟨R, 0, none⟩)) := heS.c rfl
 clear hf2 hfS c2
 go_wp2_with (first | (refine wpList_store 122 (w' := WS) _ _ rfl rfl ?_ ?_; exact hst))
 refine (rollSaga_ok hrl hs hn hes6 id).mono ?_
 rintro e' w3 ⟨hsv, hf3⟩
 have hF3 : Fr (fun _ => False) w w3 := hFS.trans hf3 (fun _ _ h => h)
 have hr3 := hrl.frz hf3
 have he3 : EngAt w3 X J R clock pause cv := hf3.keep heS (fun h => h)
 have hs3 := hf3.keep hrS (fun h => h)
 clear hst hrS hrl heS c1S hf3 hFS
 rcases hsv with ⟨p, hp, hid, _⟩ | ⟨_, rfl⟩
 case inl => exact absurd hid (hno p hp)
 obtain ⟨W4, hst4, hr4, hf4⟩ := saga_box w3 0 [] (by simp)
 have hF4 : Fr (fun _ => False) w W4 := hF3.trans hf4 (fun _ _ h => h)
 have hs4 := hf4.keep hs3 (fun h => h)
 have hr5 := hr3.frz hf4
 have he5 : EngAt W4 X J R clock pause cv := hf4.keep he3 (fun h => h)
 have c15 : W4.cell? ⟨X, 1, none⟩ = some (.pointer (some ⟨R, 0, none⟩)) := he5.c rfl
 have hL4 := load14 hs4 h6
 have l2 := sagaC_len id st.length _ (six_len _ h6)
 have hM2 : W4.rangeAt w2.heap.size 0 (sagaC id st.length (six st)) := fun j v hv => (cell_of_row W4 _ (0 + j) _ _ _ hs4).trans (by simpa using hv)
 clear hr3 he3 hs3 hf4 hF3 hr4
 go_wp2_with (first | (refine wpList_store 122 (w' := W4) _ _ rfl rfl ?_ ?_; exact hst4) | (refine wpList_load_mid rfl 122 (.tmp 7) rfl w2.heap.size 0 ?_ _ _ hM2 Tryz.underlying122 rfl ?_ ?_; rfl; (rw [rsaga_size, l2])))
 obtain ⟨U, HU⟩ : ∃ U, Hid (U = W4.drew) := ⟨_, rfl⟩
 have hfU : Fr (fun _ => False) W4 U := by rw [HU.out]; exact (Fr.refl _ _).drew
 let S : World → Prop := fun w' => w'.cell? ⟨X, 1, none⟩ = some (.pointer (some ⟨R, 0, none⟩)) ∧ w'.heap[w2.heap.size]? = some (.cells (sagaC id st.length (six st)).toArray 122 (0, 0))
 have hS : S U := ⟨hfU.cell c15 (fun h => h), hfU.keep hs4 (fun h => h)⟩
 refine wp_region_held (S := S) hlift ?_
 change wpAnyH _ _ _ _ S _ _ _ (World.drew _)
 rw [← HU.out]
 clear HU
 refine tkE (S := S) (i := 0) (oi := ⟨some 40, .move (.tmp 0), _, _, _, none⟩) (v := .pointer (some ⟨X, 0, none⟩)) rfl hS ?_
 simp only [Act.put, lsE, lsZ, lsS]
 refine tkE (S := S) (i := 1) (oi := ⟨some 41, .nilCheck (.tmp 40), _, _, _, none⟩) (v := .pointer (some ⟨X, 0, none⟩)) rfl hS ?_
 simp only [Act.put, lsE, lsZ, lsS]
 refine tkE (S := S) (i := 2) (oi := ⟨some 42, .fieldAddr 91 (.tmp 41) 1, _, _, _, none⟩) (v := .pointer (some ⟨X, 1, none⟩)) rfl hS ?_
 simp only [Act.put, lsE, lsZ, lsS]
 refine tkY (S := S) (i := 3) (oi := ⟨some 43, .load 88 (.tmp 42), _, _, _, none⟩) (v := .pointer (some ⟨R, 0, none⟩)) rfl (Or.inl ⟨rfl, fun w' hs => exec_load 88 (.tmp 42) rfl ⟨X, 1, none⟩ rfl (run_loadAt_one hs.1 Tryz.underlying88 rfl)⟩) hS ?_
 simp only [Act.put, lsE, lsZ, lsS]
 refine tkY (S := S) (i := 4) (oi := ⟨some 44, .load 122 (.tmp 7), _, _, _, none⟩) (v := .agg (sagaC id st.length (six st)).toArray) rfl (Or.inl ⟨rfl, fun w' hs => exec_load 122 (.tmp 7) rfl ⟨w2.heap.size, 0, none⟩ rfl (load14 hs.2 h6)⟩) hS ?_
 simp only [Act.put, lsE, lsZ, lsS]
 refine wpAnyH_all (rs := [5]) (by kernel_rfl) (by simp) ?_
 intro i5 hi5
 obtain rfl : i5 = 5 := by simpa using hi5
 refine wpOp_call (o := ⟨some 45, .call { callee := .value (.func 59), args := #[(.tmp 43), (.tmp 44)], argTypes := _ }, _, _, _, none⟩) (f := 59) (args := #[.pointer (some ⟨R, 0, none⟩), .agg (sagaC id st.length (six st)).toArray]) rfl rfl (by kernel_rfl) ?_
 refine (Fits_ok (hr5.frz hfU) id st h6).mono ?_
 rintro e' w5 ⟨rfl, hf5⟩
 have hS5 : S w5 := ⟨hf5.cell hS.1 (fun h => h), hf5.keep hS.2 (fun h => h)⟩
 refine ⟨_, rfl, hS5, ?_⟩
 simp only [Act.put, lsE, lsZ, lsS]
 refine tkE (S := S) (i := 6) (oi := ⟨some 46, .unOp .not 4 (.tmp 45), _, _, _, none⟩) (v := .bool (!decide (2 * (st.length : Int) ≤ room))) rfl hS5 ?_
 simp only [Act.put, lsE, lsZ, lsS]
 refine wpAnyH_done (by kernel_rfl) ?_ _
 have hF5 : Fr (fun _ => False) w w5 := (hF4.trans hfU (fun _ _ h => h)).trans hf5 (fun _ _ h => h)
 have hr6 := (hr5.frz hfU).frz hf5
 have he6 : EngAt w5 X J R clock pause cv := hf5.keep (hfU.keep he5 (fun h => h)) (fun h => h)
 have hs6 := hS5.2
 clear hS hS5 hfU hf5 hF4 hr5 he5 hs4 c15 hM2
 rw [decide_eq_false (show ¬ 2 * (st.length : Int) ≤ room by omega)]
 go_wp2
 go_ret
 exact ⟨rfl, hF5⟩
set_option maxRecDepth 100000 in
set_option maxHeartbeats 4000000 in
theorem submit_new (he : EngAt w X J R clock pause cv) (id : Int) (st : List SS) (hl : RowsOf w (some ⟨g, 0, none⟩) 2 (st.map stv)) (k : Nat) (hk : (k : Int) = id) (hj : JnS w J V A B n calls writes e s bs) (h0 : 0 ≤ calls) (h1 : calls < 90000000) (h2 : 0 ≤ writes) (h3 : writes < 90000000) (hen : e < n) (hn4 : n ≤ 400) (hz : (bs.drop (e * 128)).take 128 = zB) (hdis : ∀ b, RollF R ev es b → b ≠ A ∧ b ≠ B ∧ b ≠ J ∧ b ≠ V ∧ b ≠ X) (hrm : room ≤ 1000) (hbase : base ≤ w.heap.size) (hRb0 : ev.ownBlock ≠ some R) (hRe : ∀ p ∈ es, p.1 ≠ R) (hse : ∀ p ∈ es, ev.ownBlock ≠ some p.1) (hr : RollAt w R base room ev es) (hs : Sorted es) (hn : es.length ≤ 100000) (hes6 : ∀ p ∈ es, p.2.st.length ≤ 6) (hok : sagaOk id st = true) (hno : ∀ p ∈ es, p.2.id ≠ id) (hroom : 2 * (st.length : Int) ≤ room) :
  Calls Tryz.prog 42 #[.pointer (some ⟨X, 0, none⟩), .int .i64 id, .slice (some ⟨g, 0, none⟩) st.length sc] w fun e' w' => e' = .returned .nilIface ∧ ∃ g' ev', RollAt w' R base (room - 2 * st.length) ev' (insE (g', newA id st) es) ∧ w.heap.size ≤ g' ∧ (∀ b, ev'.ownBlock = some b → ev.ownBlock = some b ∨ w.heap.size ≤ b) ∧ (∃ calls' writes', calls ≤ calls' ∧ calls' ≤ calls + 4 ∧ writes ≤ writes' ∧ writes' ≤ writes + 2 ∧ JnS w' J V A B n calls' writes' ((e : Int) + 1) true (splice bs (e * 128) (ldB 2 (bodyS k st.length (six st) 6) 4))) ∧ EngAt w' X J R clock pause cv ∧ Fr (fun b => b = A ∨ b = B ∨ b = J ∨ b = R ∨ ev.ownBlock = some b) w w' := by
 have hlift : Tryz.prog.follows .mixedOrders = true := by kernel_rfl
 have hJl := lt_of_heap hj.j
 have hAl := lt_of_heap hj.d
 have hBl := lt_of_heap hj.r.1
 have hRl := lt_of_heap hr.r
 have nXA : X ≠ A := fun e => by have := he; rw [e] at this; have := this.symm.trans hj.d; simp [dcells] at this
 have nXB : X ≠ B := fun e => by have := he; rw [e] at this; have := this.symm.trans hj.r.1; simp at this
 have nXJ : X ≠ J := fun e => by have := he; rw [e] at this; have := this.symm.trans hj.j; simp at this
 have c2 : w.cell? ⟨X, 2, none⟩ = some (.bool false) := he.c rfl
 obtain ⟨hid1, hid2, hn1, h6, h8⟩ := saga_of id st hok
 have hbl : (bodyS k st.length (six st) 6).length = 124 := bodyS_len k st.length (six st) (six_ok h8) 6 (by rw [six_len _ h6]; omega) (by omega)
 have hll : (ldB 2 (bodyS k st.length (six st) 6) 4).length = 128 := ldB_len 2 _ hbl 4 (by omega)
 go_enter Tryz.func42, Tryz.ntmps42
 go_wp2_with fail
 refine (NewSaga_ok hl id).mono ?_
 rintro e' w2 ⟨hns, hf2⟩
 rcases hns with ⟨_, rfl⟩ | ⟨hbad, _⟩
 case inr => rw [hok] at hbad; cases hbad
 obtain ⟨WS, hst, hrS, hfS⟩ := saga_box w2 id st h6
 have hFS : Fr (fun _ => False) w WS := hf2.trans hfS (fun _ _ h => h)
 have hrl := hr.frz hFS
 have heS : EngAt WS X J R clock pause cv := hFS.keep he (fun h => h)
 have c1S : WS.cell? ⟨X, 1, none⟩ = some (.pointer (some ⟨R, 0, none⟩)) := heS.c rfl
 have hFw2 := hf2
 clear hf2 hfS c2
 go_wp2_with (first | (refine wpList_store 122 (w' := WS) _ _ rfl rfl ?_ ?_; exact hst))
 refine (rollSaga_ok hrl hs hn hes6 id).mono ?_
 rintro e' w3 ⟨hsv, hf3⟩
 have hF3 : Fr (fun _ => False) w w3 := hFS.trans hf3 (fun _ _ h => h)
 have hr3 := hrl.frz hf3
 have he3 : EngAt w3 X J R clock pause cv := hf3.keep heS (fun h => h)
 have hs3 := hf3.keep hrS (fun h => h)
 clear hst hrS hrl heS c1S hf3 hFS
 rcases hsv with ⟨p, hp, hid, _⟩ | ⟨_, rfl⟩
 case inl => exact absurd hid (hno p hp)
 obtain ⟨W4, hst4, hr4, hf4⟩ := saga_box w3 0 [] (by simp)
 have hF4 : Fr (fun _ => False) w W4 := hF3.trans hf4 (fun _ _ h => h)
 have hs4 := hf4.keep hs3 (fun h => h)
 have hr5 := hr3.frz hf4
 have he5 : EngAt W4 X J R clock pause cv := hf4.keep he3 (fun h => h)
 have c15 : W4.cell? ⟨X, 1, none⟩ = some (.pointer (some ⟨R, 0, none⟩)) := he5.c rfl
 have hL4 := load14 hs4 h6
 have l2 := sagaC_len id st.length _ (six_len _ h6)
 have hM2 : W4.rangeAt w2.heap.size 0 (sagaC id st.length (six st)) := fun j v hv => (cell_of_row W4 _ (0 + j) _ _ _ hs4).trans (by simpa using hv)
 clear hr3 he3 hs3 hf4 hF3 hr4
 go_wp2_with (first | (refine wpList_store 122 (w' := W4) _ _ rfl rfl ?_ ?_; exact hst4) | (refine wpList_load_mid rfl 122 (.tmp 7) rfl w2.heap.size 0 ?_ _ _ hM2 Tryz.underlying122 rfl ?_ ?_; rfl; (rw [rsaga_size, l2])))
 obtain ⟨U, HU⟩ : ∃ U, Hid (U = W4.drew) := ⟨_, rfl⟩
 have hfU : Fr (fun _ => False) W4 U := by rw [HU.out]; exact (Fr.refl _ _).drew
 let S : World → Prop := fun w' => w'.cell? ⟨X, 1, none⟩ = some (.pointer (some ⟨R, 0, none⟩)) ∧ w'.heap[w2.heap.size]? = some (.cells (sagaC id st.length (six st)).toArray 122 (0, 0))
 have hS : S U := ⟨hfU.cell c15 (fun h => h), hfU.keep hs4 (fun h => h)⟩
 refine wp_region_held (S := S) hlift ?_
 change wpAnyH _ _ _ _ S _ _ _ (World.drew _)
 rw [← HU.out]
 clear HU
 refine tkE (S := S) (i := 0) (oi := ⟨some 40, .move (.tmp 0), _, _, _, none⟩) (v := .pointer (some ⟨X, 0, none⟩)) rfl hS ?_
 simp only [Act.put, lsE, lsZ, lsS]
 refine tkE (S := S) (i := 1) (oi := ⟨some 41, .nilCheck (.tmp 40), _, _, _, none⟩) (v := .pointer (some ⟨X, 0, none⟩)) rfl hS ?_
 simp only [Act.put, lsE, lsZ, lsS]
 refine tkE (S := S) (i := 2) (oi := ⟨some 42, .fieldAddr 91 (.tmp 41) 1, _, _, _, none⟩) (v := .pointer (some ⟨X, 1, none⟩)) rfl hS ?_
 simp only [Act.put, lsE, lsZ, lsS]
 refine tkY (S := S) (i := 3) (oi := ⟨some 43, .load 88 (.tmp 42), _, _, _, none⟩) (v := .pointer (some ⟨R, 0, none⟩)) rfl (Or.inl ⟨rfl, fun w' hs => exec_load 88 (.tmp 42) rfl ⟨X, 1, none⟩ rfl (run_loadAt_one hs.1 Tryz.underlying88 rfl)⟩) hS ?_
 simp only [Act.put, lsE, lsZ, lsS]
 refine tkY (S := S) (i := 4) (oi := ⟨some 44, .load 122 (.tmp 7), _, _, _, none⟩) (v := .agg (sagaC id st.length (six st)).toArray) rfl (Or.inl ⟨rfl, fun w' hs => exec_load 122 (.tmp 7) rfl ⟨w2.heap.size, 0, none⟩ rfl (load14 hs.2 h6)⟩) hS ?_
 simp only [Act.put, lsE, lsZ, lsS]
 refine wpAnyH_all (rs := [5]) (by kernel_rfl) (by simp) ?_
 intro i5 hi5
 obtain rfl : i5 = 5 := by simpa using hi5
 refine wpOp_call (o := ⟨some 45, .call { callee := .value (.func 59), args := #[(.tmp 43), (.tmp 44)], argTypes := _ }, _, _, _, none⟩) (f := 59) (args := #[.pointer (some ⟨R, 0, none⟩), .agg (sagaC id st.length (six st)).toArray]) rfl rfl (by kernel_rfl) ?_
 refine (Fits_ok (hr5.frz hfU) id st h6).mono ?_
 rintro e' w5 ⟨rfl, hf5⟩
 have hS5 : S w5 := ⟨hf5.cell hS.1 (fun h => h), hf5.keep hS.2 (fun h => h)⟩
 refine ⟨_, rfl, hS5, ?_⟩
 simp only [Act.put, lsE, lsZ, lsS]
 refine tkE (S := S) (i := 6) (oi := ⟨some 46, .unOp .not 4 (.tmp 45), _, _, _, none⟩) (v := .bool (!decide (2 * (st.length : Int) ≤ room))) rfl hS5 ?_
 simp only [Act.put, lsE, lsZ, lsS]
 refine wpAnyH_done (by kernel_rfl) ?_ _
 have hF5 : Fr (fun _ => False) w w5 := (hF4.trans hfU (fun _ _ h => h)).trans hf5 (fun _ _ h => h)
 have hr6 := (hr5.frz hfU).frz hf5
 have he6 : EngAt w5 X J R clock pause cv := hf5.keep (hfU.keep he5 (fun h => h)) (fun h => h)
 have hs6 := hS5.2
 clear hS hS5 hfU hf5 hF4 hr5 he5 hs4 c15 hM2
 rw [decide_eq_true hroom]
 go_wp2
 obtain ⟨Y, HY⟩ : ∃ Y, Hid (Y = w5.drew) := ⟨_, rfl⟩
 have hfY : Fr (fun _ => False) w5 Y := by rw [HY.out]; exact (Fr.refl _ _).drew
 let S2 : World → Prop := fun w' => w'.cell? ⟨X, 0, none⟩ = some (.pointer (some ⟨J, 0, none⟩)) ∧ w'.heap[w2.heap.size]? = some (.cells (sagaC id st.length (six st)).toArray 122 (0, 0))
 have hS : S2 Y := ⟨hfY.cell (he6.c rfl) (fun h => h), hfY.keep hs6 (fun h => h)⟩
 refine wp_region_held (S := S2) hlift ?_
 change wpAnyH _ _ _ _ S2 _ _ _ (World.drew _)
 rw [← HY.out]
 clear HY
 refine tkE (S := S2) (i := 0) (oi := ⟨some 48, .move (.tmp 0), _, _, _, none⟩) (v := .pointer (some ⟨X, 0, none⟩)) rfl hS ?_
 simp only [Act.put, lsE, lsZ, lsS]
 refine tkE (S := S2) (i := 1) (oi := ⟨some 49, .move (.tmp 0), _, _, _, none⟩) (v := .pointer (some ⟨X, 0, none⟩)) rfl hS ?_
 simp only [Act.put, lsE, lsZ, lsS]
 refine tkE (S := S2) (i := 2) (oi := ⟨some 50, .nilCheck (.tmp 49), _, _, _, none⟩) (v := .pointer (some ⟨X, 0, none⟩)) rfl hS ?_
 simp only [Act.put, lsE, lsZ, lsS]
 refine tkE (S := S2) (i := 3) (oi := ⟨some 51, .fieldAddr 91 (.tmp 50) 0, _, _, _, none⟩) (v := .pointer (some ⟨X, 0, none⟩)) rfl hS ?_
 simp only [Act.put, lsE, lsZ, lsS]
 refine tkY (S := S2) (i := 4) (oi := ⟨some 52, .load 87 (.tmp 51), _, _, _, none⟩) (v := .pointer (some ⟨J, 0, none⟩)) rfl (Or.inl ⟨rfl, fun w' hs => exec_load 87 (.tmp 51) rfl ⟨X, 0, none⟩ rfl (run_loadAt_one hs.1 Tryz.underlying87 rfl)⟩) hS ?_
 simp only [Act.put, lsE, lsZ, lsS]
 refine tkY (S := S2) (i := 5) (oi := ⟨some 53, .load 122 (.tmp 7), _, _, _, none⟩) (v := .agg (sagaC id st.length (six st)).toArray) rfl (Or.inl ⟨rfl, fun w' hs => exec_load 122 (.tmp 7) rfl ⟨w2.heap.size, 0, none⟩ rfl (load14 hs.2 h6)⟩) hS ?_
 simp only [Act.put, lsE, lsZ, lsS]
 refine wpAnyH_all (rs := [6]) (by kernel_rfl) (by simp) ?_
 intro i6 hi6
 obtain rfl : i6 = 6 := by simpa using hi6
 refine wpOp_call (o := ⟨some 54, .call { callee := .value (.func 62), args := #[(.tmp 53)], argTypes := _ }, _, _, _, none⟩) (f := 62) (args := #[.agg (sagaC id st.length (six st)).toArray]) rfl rfl (by kernel_rfl) ?_
 have HSB := sBlock_ok Y k st (by omega) h6 h8
 rw [hk] at HSB
 refine HSB.mono ?_
 rintro e' w6 ⟨rfl, hf6⟩
 have hS6 : S2 w6 := ⟨hf6.cell hS.1 (fun h => h), hf6.keep hS.2 (fun h => h)⟩
 have hF6 : Fr (fun _ => False) w w6 := (hF5.trans hfY (fun _ _ h => h)).trans hf6 (fun _ _ h => h)
 refine ⟨_, rfl, hS6, ?_⟩
 simp only [Act.put, lsE, lsZ, lsS]
 refine wpAnyH_all (rs := [7]) (by kernel_rfl) (by simp) ?_
 intro i7 hi7
 obtain rfl : i7 = 7 := by simpa using hi7
 refine wpOp_call (o := ⟨some 55, .call { callee := .value (.func 61), args := #[(.tmp 52), (.tmp 54)], argTypes := _ }, _, _, _, none⟩) (f := 61) (args := #[.pointer (some ⟨J, 0, none⟩), .agg (ldB 2 (bodyS k st.length (six st) 6) 4).toArray]) rfl rfl (by kernel_rfl) ?_
 refine (Add_ok (hj.frz hF6) h0 h1 h2 h3 hen hn4 hz hll (ldB_one 2 _ (bodyS_one _ _ _ _) 4)).mono ?_
 rintro e' w7 ⟨rfl, hq7, hf7⟩
 have hlW2 : w.heap.size ≤ w2.heap.size := hFw2.size
 have hS7 : S2 w7 := ⟨hf7.cell hS6.1 (by rintro (h | h | h); exact nXA h; exact nXB h; exact nXJ h), hf7.keep hS6.2 (by rintro (h | h | h) <;> omega)⟩
 have hr7 := (hr.frz hF6).fr hf7 (fun b hb h => by have := hdis b hb; omega)
 have he7 : EngAt w7 X J R clock pause cv := hf7.keep (hF6.keep he (fun h => h)) (by rintro (h | h | h); exact nXA h; exact nXB h; exact nXJ h)
 have hF7 : Fr (fun b => b = A ∨ b = B ∨ b = J) w w7 := (hF6.mono (fun _ _ h => h.elim)).trans hf7 (fun _ _ h => h)
 refine ⟨_, rfl, hS7, ?_⟩
 simp only [Act.put, lsE, lsZ, lsS]
 refine wpAnyH_all (rs := [8]) (by kernel_rfl) (by simp) ?_
 intro i8 hi8
 obtain rfl : i8 = 8 := by simpa using hi8
 refine wpOp_call (o := ⟨some 56, .call { callee := .value (.func 60), args := #[(.tmp 48), (.tmp 55)], argTypes := _ }, _, _, _, none⟩) (f := 60) (args := #[.pointer (some ⟨X, 0, none⟩), .nilIface]) rfl rfl (by kernel_rfl) ?_
 refine (checked_nil _ _).mono ?_
 rintro e' w8 ⟨rfl, rfl⟩
 refine ⟨_, rfl, hS7, ?_⟩
 simp only [Act.put, lsE, lsZ, lsS]
 refine tkE (S := S2) (i := 9) (oi := ⟨some 11, .assign (.tmp 56), _, _, _, none⟩) (v := .nilIface) rfl hS7 ?_
 simp only [Act.put, lsE, lsZ, lsS]
 refine wpAnyH_done (by kernel_rfl) ?_ _
 clear hS hS6 hfY hf6 hf7 hF5 hF6 HSB
 have c17 : w8.cell? ⟨X, 1, none⟩ = some (.pointer (some ⟨R, 0, none⟩)) := he7.c rfl
 have hs7 := hS7.2
 clear hS7
 go_wp2
 obtain ⟨Z, HZ⟩ : ∃ Z, Hid (Z = w8.drew) := ⟨_, rfl⟩
 have hfZ : Fr (fun _ => False) w8 Z := by rw [HZ.out]; exact (Fr.refl _ _).drew
 let S3 : World → Prop := fun w' => w'.cell? ⟨X, 1, none⟩ = some (.pointer (some ⟨R, 0, none⟩)) ∧ w'.heap[w2.heap.size]? = some (.cells (sagaC id st.length (six st)).toArray 122 (0, 0))
 have hS : S3 Z := ⟨hfZ.cell c17 (fun h => h), hfZ.keep hs7 (fun h => h)⟩
 refine wp_region_held (S := S3) hlift ?_
 change wpAnyH _ _ _ _ S3 _ _ _ (World.drew _)
 rw [← HZ.out]
 clear HZ
 refine tkE (S := S3) (i := 0) (oi := ⟨some 60, .move (.tmp 0), _, _, _, none⟩) (v := .pointer (some ⟨X, 0, none⟩)) rfl hS ?_
 simp only [Act.put, lsE, lsZ, lsS]
 refine tkE (S := S3) (i := 1) (oi := ⟨some 61, .nilCheck (.tmp 60), _, _, _, none⟩) (v := .pointer (some ⟨X, 0, none⟩)) rfl hS ?_
 simp only [Act.put, lsE, lsZ, lsS]
 refine tkE (S := S3) (i := 2) (oi := ⟨some 62, .fieldAddr 91 (.tmp 61) 1, _, _, _, none⟩) (v := .pointer (some ⟨X, 1, none⟩)) rfl hS ?_
 simp only [Act.put, lsE, lsZ, lsS]
 refine tkY (S := S3) (i := 3) (oi := ⟨some 63, .load 88 (.tmp 62), _, _, _, none⟩) (v := .pointer (some ⟨R, 0, none⟩)) rfl (Or.inl ⟨rfl, fun w' hs => exec_load 88 (.tmp 62) rfl ⟨X, 1, none⟩ rfl (run_loadAt_one hs.1 Tryz.underlying88 rfl)⟩) hS ?_
 simp only [Act.put, lsE, lsZ, lsS]
 refine tkY (S := S3) (i := 4) (oi := ⟨some 64, .load 122 (.tmp 7), _, _, _, none⟩) (v := .agg (sagaC id st.length (six st)).toArray) rfl (Or.inl ⟨rfl, fun w' hs => exec_load 122 (.tmp 7) rfl ⟨w2.heap.size, 0, none⟩ rfl (load14 hs.2 h6)⟩) hS ?_
 simp only [Act.put, lsE, lsZ, lsS]
 refine wpAnyH_all (rs := [5]) (by kernel_rfl) (by simp) ?_
 intro i5 hi5
 obtain rfl : i5 = 5 := by simpa using hi5
 refine wpOp_call (o := ⟨some 65, .call { callee := .value (.func 63), args := #[(.tmp 63), (.tmp 64)], argTypes := _ }, _, _, _, none⟩) (f := 63) (args := #[.pointer (some ⟨R, 0, none⟩), .agg (sagaC id st.length (six st)).toArray]) rfl rfl (by kernel_rfl) ?_
 have hsz7 := hF7.size
 have hszZ := hfZ.size
 refine (Take_ok (hr7.frz hfZ) hs hn id st h6 hno hroom hrm (by omega) hRb0 hRe hse).mono ?_
 rintro e' wT ⟨gT, ev', rfl, hrT, hgT, hfT0, hob⟩
 have hfT : Fr (fun b => b = R ∨ ev.ownBlock = some b) w8 wT := (hfZ.mono (fun _ _ h => h.elim)).trans hfT0 (fun _ _ h => h)
 have hltE : ∀ b, ev.ownBlock = some b → b < w.heap.size := fun b hb' => by
  rcases hr.o.2 with ⟨rfl, _⟩ | ⟨g, cap, cur, rfl, _, hg, _⟩
  ·cases hb'
  ·cases hb'; exact lt_of_heap hg
 have hST : S3 wT := ⟨hfT.cell c17 (by rintro (h | h); exact (hdis _ (.inl h)).2.2.2.2 rfl; exact (hdis _ (.inr (.inl h))).2.2.2.2 rfl), hfT.keep hs7 (by rintro (h | h); omega; have := hltE _ h; omega)⟩
 have hob : ∀ b, ev'.ownBlock = some b → ev.ownBlock = some b ∨ Z.heap.size ≤ b := hob
 refine ⟨_, rfl, hST, ?_⟩
 simp only [Act.put, lsE, lsZ, lsS]
 refine wpAnyH_done (by kernel_rfl) ?_ _
 obtain ⟨cl, wl, q1, q2, q3, q4, q5⟩ := hq7
 have hown : ∀ b, ev'.ownBlock = some b → ev.ownBlock = some b ∨ w.heap.size ≤ b := fun b hb => by
  rcases hob b hb with h | h
  ·exact .inl h
  ·have := hF7.size; exact .inr (by omega)
 have nTake : ∀ b, RollF R ev es b → b ≠ A ∧ b ≠ B ∧ b ≠ J ∧ b ≠ V ∧ b ≠ X := hdis
 have kT : ∀ {b : Nat} {o : Obj}, w8.heap[b]? = some o → (b = A ∨ b = B ∨ b = J ∨ b = V ∨ b = X) → wT.heap[b]? = some o := fun hb h => hfT.keep hb (by
  rintro (e1 | e1)
  ·have := hdis _ (.inl e1); omega
  ·have := hdis _ (.inr (.inl e1)); omega)
 have HJ : Hid (JnS wT J V A B n cl wl ((e : Int) + 1) true (splice bs (e * 128) (ldB 2 (bodyS k st.length (six st) 6) 4))) := ⟨kT q5.v (by simp), kT q5.d (by simp), ⟨kT q5.r.1 (by simp), q5.r.2⟩, kT q5.j (by simp)⟩
 have heT : EngAt wT X J R clock pause cv := kT he7 (by simp)
 have hFT : Fr (fun b => b = A ∨ b = B ∨ b = J ∨ b = R ∨ ev.ownBlock = some b) w wT := (hF7.mono (fun b _ h => by rcases h with h | h | h; exact .inl h; exact .inr (.inl h); exact .inr (.inr (.inl h)))).trans hfT (fun b _ h => by rcases h with h | h; exact .inr (.inr (.inr (.inl h))); exact .inr (.inr (.inr (.inr h))))
 have hgw : w.heap.size ≤ gT := by have := hF7.size; omega
 have HRT : Hid (RollAt wT R base (room - 2 * st.length) ev' (insE (gT, newA id st) es)) := hrT
 clear kT hfT hrT q5 hr7 he7 hF7 hS hST
 go_wp2
 go_ret
 exact ⟨rfl, gT, ev', HRT.out, hgw, hown, ⟨cl, wl, by omega, by omega, by omega, by omega, HJ.out⟩, heT, hFT⟩
end
end Go.Proofs.YteebjgfalllbjaaGreatDoor
