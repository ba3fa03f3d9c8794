import Derived.Test.YteebjgfalllbjaaGreatDoorCFmJfTa
import Derived.Test.YteebjgfalllbjaaGreatDoorCLqLrOwn
import Derived.RangeFuncNested
import Derived.RangeFuncBound
import Derived.RangeFuncCalls
import Derived.RangeFuncLeaves
import Derived.RangeFuncFrom
import Derived.Shelf.Abstract
import Derived.Shelf.RegionOpen
import Derived.WalkKit
import Derived.OwnWalkIn
import Derived.TacticsInMore
import Derived.LoopNIn
import Derived.LoopIn
namespace Go.Proofs.YteebjgfalllbjaaGreatDoor
open Go.RowKit
/-- The world in which journal.Find tries its work. -/
def fdW (w : World) (V : Nat) (tv fv : Value) : World :=
  (((((w.alloc (.cells #[.pointer (some ⟨V, 0, none⟩)] 155)).alloc (.cells #[tv] 127)).alloc (.cells #[fv] 162)).alloc (.cells #[.pointer (some ⟨V, 0, none⟩), .int .i64 1, .bool false] 179)).alloc (.cells #[.pointer (some ⟨w.heap.size + 1 + 1 + 1, 0, none⟩)] 87))
theorem fdW_fr (w : World) (V : Nat) (tv fv : Value) : Fr (fun _ => False) w (fdW w V tv fv) := (((((Fr.refl _ _).alloc _).alloc _).alloc _).alloc _).alloc _
theorem fdW_size (w : World) (V : Nat) (tv fv : Value) : (fdW w V tv fv).heap.size = w.heap.size + 5 := by simp [fdW]
theorem fdW_s {w : World} {V A B n : Nat} {tv fv : Value} {calls writes : Int} {bs : List Value} (hv : VolAt w V A n) (hd : DiskAt w A B n (.slice none 0 0) calls writes) (hr : RowsAt w B n bs) :
    FdS (fdW w V tv fv) w.heap.size (w.heap.size + 4) (w.heap.size + 1) (w.heap.size + 2) V (w.heap.size + 3) A B n tv fv calls writes bs := by
  have hf := fdW_fr w V tv fv
  refine ⟨?_, ?_, ?_, ?_, hv.fr hf id, hd.fr hf id, ⟨hf.keep hr.1 id, hr.2⟩, ?_⟩
  · unfold fdW
    rw [heap_alloc_lt _ _ _ (by simp <;> omega), heap_alloc_lt _ _ _ (by simp <;> omega), heap_alloc_lt _ _ _ (by simp <;> omega), heap_alloc_lt _ _ _ (by simp <;> omega)]
    exact heap_alloc_at _ _
  · unfold fdW
    have := heap_alloc_at ((((w.alloc (.cells #[.pointer (some ⟨V, 0, none⟩)] 155)).alloc (.cells #[tv] 127)).alloc (.cells #[fv] 162)).alloc (.cells #[.pointer (some ⟨V, 0, none⟩), .int .i64 1, .bool false] 179)) (.cells #[.pointer (some ⟨w.heap.size + 1 + 1 + 1, 0, none⟩)] 87)
    simpa using this
  · unfold fdW
    rw [heap_alloc_lt _ _ _ (by simp <;> omega), heap_alloc_lt _ _ _ (by simp <;> omega), heap_alloc_lt _ _ _ (by simp <;> omega)]
    have := heap_alloc_at (w.alloc (.cells #[.pointer (some ⟨V, 0, none⟩)] 155)) (.cells #[tv] 127)
    simpa using this
  · unfold fdW
    rw [heap_alloc_lt _ _ _ (by simp <;> omega), heap_alloc_lt _ _ _ (by simp <;> omega)]
    have := heap_alloc_at ((w.alloc (.cells #[.pointer (some ⟨V, 0, none⟩)] 155)).alloc (.cells #[tv] 127)) (.cells #[fv] 162)
    simpa using this
  · unfold fdW JAt
    rw [heap_alloc_lt _ _ _ (by simp <;> omega)]
    have := heap_alloc_at (((w.alloc (.cells #[.pointer (some ⟨V, 0, none⟩)] 155)).alloc (.cells #[tv] 127)).alloc (.cells #[fv] 162)) (.cells #[.pointer (some ⟨V, 0, none⟩), .int .i64 1, .bool false] 179)
    simpa using this
section
variable {w : World} {V A B n : Nat} {tfn ffn : Fn} {ta tc fa fc : Array Value} {calls writes : Int} {bs : List Value}
set_option maxRecDepth 100000 in
set_option maxHeartbeats 1000000 in
theorem Find_bad (hv : VolAt w V A n) (hd : DiskAt w A B n (.slice none 0 0) calls writes) (hr : RowsAt w B n bs) (h0 : 0 ≤ calls) (h1 : calls < 90000000) (hn8 : 8 ≤ n) (hn : n ≤ 400) (hz : bs.take 128 = zB) :
    Calls Tryz.prog 75 #[.pointer (some ⟨V, 0, none⟩), .func tfn ta tc, .func ffn fa fc] w fun e w' => e = .returned (.tuple #[.pointer none, .iface 59 (.int .i64 6)]) ∧ DiskAt w' A B n (.slice none 0 0) (calls + 1) writes ∧ Fr (fun b => b = A) w w' := by
  have hmf : ∀ (fn : Fn) (first cap : Array Value) (w : World), (Instr.makeFunc fn first cap).run Tryz.prog w = .ok (.func fn first cap) w := fun _ _ _ _ => rfl
  have hs := fdW_s (tv := .func tfn ta tc) (fv := .func ffn fa fc) hv hd hr
  have hfw := fdW_fr w V (.func tfn ta tc) (.func ffn fa fc)
  have hsz := fdW_size w V (.func tfn ta tc) (.func ffn fa fc)
  obtain ⟨W, HW⟩ : ∃ W, Hid (W = fdW w V (.func tfn ta tc) (.func ffn fa fc)) := ⟨_, rfl⟩
  rw [← HW.out] at hs hfw hsz
  have hT := Try_any (w := W) (f := 111) (caps := #[.pointer (some ⟨w.heap.size, 0, none⟩), .pointer (some ⟨w.heap.size + 4, 0, none⟩), .pointer (some ⟨w.heap.size + 1, 0, none⟩), .pointer (some ⟨w.heap.size + 2, 0, none⟩)])
    (Q := fun v w' => v = .iface 59 (.int .i64 6) ∧ DiskAt w' A B n (.slice none 0 0) (calls + 1) writes ∧ Fr (fun b => b = A) w w') (fun _ => by kernel_rfl) (by
      have hfa : Fr (fun _ => False) W (W.alloc (.cells #[.nilIface] 36)) := (Fr.refl _ _).alloc _
      refine (Find1_bad (hs.frz hfa) h0 h1 hn8 hn hz).mono ?_
      rintro e w' ⟨rfl, hd', hf'⟩
      have hAl := lt_of_heap hd
      refine ⟨_, rfl, rfl, hf'.keep (heap_alloc_at _ _) (by omega), rfl, hd'.setCell _ _ (by simp; omega), ?_⟩
      exact (((hfw.mono (fun _ _ h => h.elim)).trans (hfa.mono (fun _ _ h => h.elim)) (fun _ _ h => h)).trans hf' (fun _ _ h => h)).setCell _ (fun hh => by simp at hh; omega) _)
  unfold fdW at HW
  clear hs hfw
  go_enter Tryz.func75, Tryz.ntmps75
  go_wp2_with fail
  rw [← HW.out]
  refine hT.mono ?_
  rintro e w' ⟨v, rfl, rfl, hd', hf'⟩
  clear HW hT
  go_wp2
  go_ret2
  exact ⟨rfl, hd', hf'⟩
set_option maxRecDepth 100000 in
set_option maxHeartbeats 1000000 in
theorem Find_ok {recs : List (List Value)} (hv : VolAt w V A n) (hd : DiskAt w A B n (.slice none 0 0) calls writes) (hr : RowsAt w B n bs) (h0 : 0 ≤ calls) (h1 : calls < 90000000) (hn8 : 8 ≤ n) (hn : n ≤ 400) (hbs : bs = layB n recs) (hrl : recs.length < n) (hrec : ∀ r ∈ recs, RecOk r)
    (RP : Nat → World → Prop) (SR : Nat → Prop) (hR : ∀ w', Fr (fun b => b = A) w w' → w.heap.size + 6 ≤ w'.heap.size → RP 0 w') (hP : ∀ i W W', RP i W → Fr (fun b => b = A ∨ (w.heap.size ≤ b ∧ b < w.heap.size + 6)) W W' → RP i W') (hSR : ∀ b, SR b → b < w.heap.size ∧ b ≠ A ∧ b ≠ V ∧ b ≠ B)
    (hH : ∀ i r W, recs[i]? = some r → RP i W → W.heap[w.heap.size + 1]? = some (.cells #[.func tfn ta tc] 127 (0, 0)) → W.heap[w.heap.size + 2]? = some (.cells #[.func ffn fa fc] 162 (0, 0)) → Calls Tryz.prog 115 #[.agg r.toArray, .pointer (some ⟨w.heap.size + 1, 0, none⟩), .pointer (some ⟨w.heap.size + 2, 0, none⟩)] W fun e w' => e = .returned (.bool true) ∧ RP (i + 1) w' ∧ Fr (fun b => SR b ∨ w.heap.size + 6 ≤ b) W w') :
    Calls Tryz.prog 75 #[.pointer (some ⟨V, 0, none⟩), .func tfn ta tc, .func ffn fa fc] w fun e w' => e = .returned (.tuple #[.pointer (some ⟨w.heap.size + 3, 0, none⟩), .nilIface]) ∧ ∃ calls', calls ≤ calls' ∧ calls' ≤ calls + 1 + n ∧ RdS w' (w.heap.size + 3) V A B n calls' writes recs.length (layB n recs) ∧ RP recs.length w' ∧ Fr (fun b => b = A ∨ SR b) w w' ∧ w.heap.size + 6 ≤ w'.heap.size := by
  have hmf : ∀ (fn : Fn) (first cap : Array Value) (w : World), (Instr.makeFunc fn first cap).run Tryz.prog w = .ok (.func fn first cap) w := fun _ _ _ _ => rfl
  have hs := fdW_s (tv := .func tfn ta tc) (fv := .func ffn fa fc) hv hd hr
  have hfw := fdW_fr w V (.func tfn ta tc) (.func ffn fa fc)
  have hsz := fdW_size w V (.func tfn ta tc) (.func ffn fa fc)
  obtain ⟨W, HW⟩ : ∃ W, Hid (W = fdW w V (.func tfn ta tc) (.func ffn fa fc)) := ⟨_, rfl⟩
  rw [← HW.out] at hs hfw hsz
  have hAl := lt_of_heap hd
  have hVl := lt_of_heap hv
  have hBl := lt_of_heap hr.1
  have hT := Try_any (w := W) (f := 111) (caps := #[.pointer (some ⟨w.heap.size, 0, none⟩), .pointer (some ⟨w.heap.size + 4, 0, none⟩), .pointer (some ⟨w.heap.size + 1, 0, none⟩), .pointer (some ⟨w.heap.size + 2, 0, none⟩)])
    (Q := fun v w' => v = .nilIface ∧ (∃ calls', calls ≤ calls' ∧ calls' ≤ calls + 1 + n ∧ RdS w' (w.heap.size + 3) V A B n calls' writes recs.length (layB n recs) ∧ RP recs.length w') ∧ w'.cell? ⟨w.heap.size + 4, 0, none⟩ = some (.pointer (some ⟨w.heap.size + 3, 0, none⟩)) ∧ Fr (fun b => b = A ∨ SR b) w w' ∧ w.heap.size + 6 ≤ w'.heap.size) (fun _ => by kernel_rfl) (by
      have hfa : Fr (fun _ => False) W (W.alloc (.cells #[.nilIface] 36)) := (Fr.refl _ _).alloc _
      have hfb : Fr (fun b => b = A) w (W.alloc (.cells #[.nilIface] 36)) := (hfw.mono (fun _ _ h => h.elim)).trans (hfa.mono (fun _ _ h => h.elim)) (fun _ _ h => h)
      have hs2 := hs.frz hfa
      have nS : ∀ b, b < w.heap.size + 6 → w.heap.size ≤ b → ¬ (SR b ∨ w.heap.size + 6 ≤ b) := fun b h1 h2 h => by
        rcases h with h | h
        · have := hSR b h; omega
        · omega
      refine (Find1_ok hs2 h0 h1 hn8 hn hbs hrl hrec RP (fun b => SR b ∨ w.heap.size + 6 ≤ b) (fun w' hf' => hR w' (hfb.trans hf' (fun _ _ h => h)) (by have h1 := hf'.size; simp at h1; omega)) (fun i W1 W2 hr1 hf1 => hP i W1 W2 hr1 (hf1.mono (fun b _ h => by rcases h with h | h; exact .inl h; exact .inr (by omega)))) ⟨?_, nS _ (by omega) (by omega), ?_, ?_, nS _ (by omega) (by omega), nS _ (by omega) (by omega), nS _ (by omega) (by omega)⟩ (fun i r W1 hr1 hrp h3 h4 => hH i r W1 hr1 hrp h3 h4)).mono ?_
      · rintro (h | h)
        · exact (hSR _ h).2.1 rfl
        · omega
      · rintro (h | h)
        · exact (hSR _ h).2.2.1 rfl
        · omega
      · rintro (h | h)
        · exact (hSR _ h).2.2.2 rfl
        · omega
      rintro e w' ⟨rfl, cl, g1, g2, g3, g4, g5⟩
      have gF : Fr (fun b => b = A ∨ SR b) w w' := (hfb.mono (fun _ _ h => .inl h)).trans g5 (fun b hb h => by
        rcases h with h | h | h | h
        · exact .inl h
        · omega
        · exact .inr h
        · omega)
      have hk : ∀ {b : Nat} {o : Obj}, (W.alloc (.cells #[.nilIface] 36)).heap[b]? = some o → b ≠ A → b ≠ w.heap.size + 3 → ¬ (SR b ∨ w.heap.size + 6 ≤ b) → w'.heap[b]? = some o := fun hb h1 h2 h3 => g5.keep hb (by rintro (h | h | h); exact h1 h; exact h2 h; exact h3 h)
      have hE : w'.heap[W.heap.size]? = some (.cells #[.nilIface] 36 (0, 0)) := hk (heap_alloc_at _ _) (by omega) (by omega) (nS _ (by omega) (by omega))
      have hX2 := hk hs2.x2 (by omega) (by omega) (nS _ (by omega) (by omega))
      have hset : Fr (fun b => b = W.heap.size) w' (w'.setCell ⟨W.heap.size, 0, none⟩ .nilIface) := Fr.set1 _ _ _ _
      refine ⟨_, rfl, rfl, hE, rfl, ⟨cl, g1, g2, g3.fr hset (by omega) (by omega) (by omega) (g3.d.fr hset (by omega)), hP _ _ _ g4 (hset.mono (fun b _ h => .inr (by omega)))⟩, ?_, gF.trans hset (fun b hb h => by omega), ?_⟩
      · exact hset.cell ((cell_of_row w' _ 0 _ _ _ hX2).trans rfl) (by simp; omega)
      · have h5 := g5.size
        have h6 := hset.size
        simp at h5
        omega)
  unfold fdW at HW
  clear hs hfw
  go_enter Tryz.func75, Tryz.ntmps75
  go_wp2_with fail
  rw [← HW.out]
  refine hT.mono ?_
  rintro e w' ⟨v, rfl, rfl, HX, hc, hf', hs6⟩
  clear HW hT
  go_wp2
  go_ret2
  obtain ⟨cl, g1, g2, g3, g4⟩ := HX
  exact ⟨rfl, cl, g1, g2, g3, g4, hf', hs6⟩
end
theorem rollNew_ok (r : Int) (w : World) : Calls Tryz.prog 73 #[.int .i64 r] w fun e w' => e = .returned (.pointer (some ⟨w.heap.size, 0, none⟩)) ∧ w' = w.alloc (.cells #[.slice none 0 0, .int .i64 r] 176) := by
  go_enter Tryz.func73, Tryz.ntmps73
  go_wp2
  go_ret
  exact ⟨rfl, rfl⟩
theorem jRoom_ok {w : World} {V A n : Nat} (h : VolAt w V A n) (hn : 1 ≤ n) (hn' : n ≤ 400) : Calls Tryz.prog 74 #[.pointer (some ⟨V, 0, none⟩)] w fun e w' => e = .returned (.int .i64 ((n : Int) - 1)) ∧ w' = w := by
  go_enter Tryz.func74, Tryz.ntmps74
  go_wp2_with fail
  refine (vBlocks_ok h).mono ?_
  rintro e w' ⟨rfl, rfl⟩
  go_wp2
  go_ret
  exact ⟨by go_num, rfl⟩
end Go.Proofs.YteebjgfalllbjaaGreatDoor
namespace Go.Proofs.YteebjgfalllbjaaGreatDoor
open Go.RowKit
/-- An engine, and where its parts lie. -/
def EngAt (w : World) (X J R : Nat) (clock pause : Int) (cv : Value) : Prop := w.heap[X]? = some (.cells #[.pointer (some ⟨J, 0, none⟩), .pointer (some ⟨R, 0, none⟩), .bool false, .int .i64 clock, .int .i64 pause, cv] 91 (0, 0))
/-- What Open gives: an engine whose journal is read to its end. -/
def OpnS (RP : Nat → Nat → World → Prop) (A B n : Nat) (calls writes : Int) (p : Int) (cv : Value) (recs : List (List Value)) (w : World) (X : Nat) (w' : World) : Prop :=
  ∃ V R J calls', EngAt w' X J R 0 p cv ∧ calls ≤ calls' ∧ calls' ≤ calls + 1 + n ∧ RdS w' J V A B n calls' writes recs.length (layB n recs) ∧ RP R recs.length w' ∧ w.heap.size ≤ V ∧ V < R ∧ J = R + 4 ∧ R + 7 ≤ X ∧ Fr (fun b => b = A) w w'
section
variable {w : World} {A B n : Nat} {cfn : Fn} {ca cc : Array Value} {calls writes : Int} {bs : List Value}
set_option maxRecDepth 100000 in
set_option maxHeartbeats 1000000 in
theorem sOpen_ok {recs : List (List Value)} (p : Int) (hp1 : ¬ p < 1) (hp2 : ¬ 64 < p) (hd : DiskAt w A B n (.slice none 0 0) calls writes) (hr : RowsAt w B n bs) (h0 : 0 ≤ calls) (h1 : calls < 90000000) (hn8 : 8 ≤ n) (hn : n ≤ 400) (hbs : bs = layB n recs) (hrl : recs.length < n) (hrec : ∀ r ∈ recs, RecOk r)
    (RP : Nat → Nat → World → Prop) (hR : ∀ R W, w.heap.size ≤ R → W.heap[R]? = some (.cells #[.slice none 0 0, .int .i64 ((n : Int) - 1)] 176 (0, 0)) → R + 7 ≤ W.heap.size → RP R 0 W)
    (hP : ∀ R i W W', w.heap.size ≤ R → RP R i W → Fr (fun b => b = A ∨ (R < b ∧ b < R + 7)) W W' → RP R i W')
    (hH : ∀ R i r W, w.heap.size ≤ R → recs[i]? = some r → RP R i W → W.heap[R + 2]? = some (.cells #[.func (.func 63) #[.pointer (some ⟨R, 0, none⟩)] #[]] 127 (0, 0)) → W.heap[R + 3]? = some (.cells #[.func (.func 76) #[.pointer (some ⟨R, 0, none⟩)] #[]] 162 (0, 0)) → Calls Tryz.prog 115 #[.agg r.toArray, .pointer (some ⟨R + 2, 0, none⟩), .pointer (some ⟨R + 3, 0, none⟩)] W fun e w' => e = .returned (.bool true) ∧ RP R (i + 1) w' ∧ Fr (fun b => b = R ∨ R + 7 ≤ b) W w') :
    Calls Tryz.prog 46 #[.iface 31 (.pointer (some ⟨A, 0, none⟩)), .int .i64 p, .func cfn ca cc] w fun e w' => ∃ X, e = .returned (.tuple #[.pointer (some ⟨X, 0, none⟩), .nilIface]) ∧ OpnS RP A B n calls writes p (.func cfn ca cc) recs w X w' := by
  have hmf : ∀ (fn : Fn) (first cap : Array Value) (w : World), (Instr.makeFunc fn first cap).run Tryz.prog w = .ok (.func fn first cap) w := fun _ _ _ _ => rfl
  have hd1 : decide (p < 1) = false := by simpa using hp1
  have hd2 : decide (64 < p) = false := by simpa using hp2
  have hAl := lt_of_heap hd
  have hBl := lt_of_heap hr.1
  go_enter Tryz.func46, Tryz.ntmps46
  go_wp2_with fail
  refine (New_ok hd hn8 hn).mono ?_
  rintro e w2 ⟨V, rfl, hv, hVl, hf⟩
  go_wp2_with fail
  refine (jRoom_ok hv (by omega) hn).mono ?_
  rintro e w' ⟨rfl, rfl⟩
  go_wp2_with fail
  refine (rollNew_ok _ _).mono ?_
  rintro e w3 ⟨rfl, rfl⟩
  have hVl2 := lt_of_heap hv
  have hsz := hf.size
  obtain ⟨R, HRR⟩ : ∃ R, Hid (R = w'.heap.size) := ⟨_, rfl⟩
  have hf3 : Fr (fun _ => False) w' (w'.alloc (.cells #[.slice none 0 0, .int .i64 ((n : Int) - 1)] 176)) := (Fr.refl _ _).alloc _
  have hroll : (w'.alloc (.cells #[.slice none 0 0, .int .i64 ((n : Int) - 1)] 176)).heap[w'.heap.size]? = some (.cells #[.slice none 0 0, .int .i64 ((n : Int) - 1)] 176 (0, 0)) := heap_alloc_at _ _
  have hsz3 : (w'.alloc (.cells #[.slice none 0 0, .int .i64 ((n : Int) - 1)] 176)).heap.size = R + 1 := by rw [HRR.out]; simp
  obtain ⟨W3, HW3⟩ : ∃ W3, Hid (W3 = w'.alloc (.cells #[.slice none 0 0, .int .i64 ((n : Int) - 1)] 176)) := ⟨_, rfl⟩
  have hRl : w.heap.size ≤ R := by rw [HRR.out]; exact hsz
  have hVR : V < R := by rw [HRR.out]; exact hVl2
  rw [← HW3.out] at hf3 hroll hsz3 ⊢
  rw [← HRR.out] at hroll ⊢
  have hf13 : Fr (fun b => b = A) w W3 := (hf.mono (fun _ _ h => h.elim)).trans (hf3.mono (fun _ _ h => h.elim)) (fun _ _ h => h)
  have HF := Find_ok (w := W3) (tfn := .func 63) (ta := #[.pointer (some ⟨R, 0, none⟩)]) (tc := #[]) (ffn := .func 76) (fa := #[.pointer (some ⟨R, 0, none⟩)]) (fc := #[]) (hv.fr hf3 id) ((hd.fr hf id).fr hf3 id) ⟨hf3.keep (hf.keep hr.1 id) id, hr.2⟩ h0 h1 hn8 hn hbs hrl hrec (RP R) (fun b => b = R)
    (fun w4 hf4 h46 => hR R w4 hRl (hf4.keep hroll (by omega)) (by omega)) (fun i W1 W2 hr1 hf1 => hP R i W1 W2 hRl hr1 (hf1.mono (fun b _ h => by rw [hsz3] at h; rcases h with h | h; exact .inl h; exact .inr (by omega)))) (fun b hb => by omega)
    (fun i r W hr1 hrp h3 h4 => by
      rw [hsz3] at h3 h4 ⊢
      refine (hH R i r W hRl hr1 hrp h3 h4).mono ?_
      rintro e w5 ⟨h1, h2, h3⟩
      exact ⟨h1, h2, h3.mono (fun b _ h => by rcases h with h | h; exact .inl h; exact .inr (by omega))⟩)
  clear hroll HW3 HRR hf3 hv hH hR
  go_wp2_with fail
  refine HF.mono ?_
  rintro e w5 ⟨rfl, cl, g1, g2, g3, g4, g5, g6⟩
  have hsz5 := g5.size
  rw [hsz3] at g3 g6 ⊢
  have hfe : Fr (fun _ => False) w5 (w5.alloc (.cells #[.pointer (some ⟨R + 1 + 3, 0, none⟩), .pointer (some ⟨R, 0, none⟩), .bool false, .int .i64 0, .int .i64 p, .func cfn ca cc] 91)) := (Fr.refl _ _).alloc _
  have HQ : Hid (R + 7 ≤ w5.heap.size → OpnS RP A B n calls writes p (.func cfn ca cc) recs w w5.heap.size (w5.alloc (.cells #[.pointer (some ⟨R + 1 + 3, 0, none⟩), .pointer (some ⟨R, 0, none⟩), .bool false, .int .i64 0, .int .i64 p, .func cfn ca cc] 91))) :=
    fun h7 => ⟨V, R, R + 1 + 3, cl, heap_alloc_at _ _, g1, g2, g3.fr hfe id id id (g3.d.fr hfe id), hP R _ _ _ hRl g4 (hfe.mono (fun _ _ h => h.elim)), hVl, hVR, by omega, h7, (hf13.trans g5 (fun b hb h => by rcases h with h | h; exact h; omega)).trans hfe (fun _ _ h => h.elim)⟩
  clear HF hfe g4 g5 hf13 hP
  go_wp2
  go_ret2
  exact ⟨_, rfl, HQ.out (by omega)⟩
set_option maxRecDepth 100000 in
set_option maxHeartbeats 1000000 in
theorem sOpen_corrupt (p : Int) (hp1 : ¬ p < 1) (hp2 : ¬ 64 < p) (hd : DiskAt w A B n (.slice none 0 0) calls writes) (hr : RowsAt w B n bs) (h0 : 0 ≤ calls) (h1 : calls < 90000000) (hn8 : 8 ≤ n) (hn : n ≤ 400) (hz : bs.take 128 = zB) :
    Calls Tryz.prog 46 #[.iface 31 (.pointer (some ⟨A, 0, none⟩)), .int .i64 p, .func cfn ca cc] w fun e w' => ∃ v, e = .returned (.tuple #[.pointer none, v]) ∧ ErrAt w' v 6 ∧ DiskAt w' A B n (.slice none 0 0) (calls + 1) writes ∧ Fr (fun b => b = A) w w' := by
  have hmf : ∀ (fn : Fn) (first cap : Array Value) (w : World), (Instr.makeFunc fn first cap).run Tryz.prog w = .ok (.func fn first cap) w := fun _ _ _ _ => rfl
  have hd1 : decide (p < 1) = false := by simpa using hp1
  have hd2 : decide (64 < p) = false := by simpa using hp2
  have hAl := lt_of_heap hd
  go_enter Tryz.func46, Tryz.ntmps46
  go_wp2_with fail
  refine (New_ok hd hn8 hn).mono ?_
  rintro e w2 ⟨V, rfl, hv, hVl, hf⟩
  go_wp2_with fail
  refine (jRoom_ok hv (by omega) hn).mono ?_
  rintro e w' ⟨rfl, rfl⟩
  go_wp2_with fail
  refine (rollNew_ok _ _).mono ?_
  rintro e w3 ⟨rfl, rfl⟩
  have hf3 : Fr (fun _ => False) w' (w'.alloc (.cells #[.slice none 0 0, .int .i64 ((n : Int) - 1)] 176)) := (Fr.refl _ _).alloc _
  go_wp2_with fail
  refine (Find_bad (hv.fr hf3 id) ((hd.fr hf id).fr hf3 id) ⟨hf3.keep (hf.keep hr.1 id) id, hr.2⟩ h0 h1 hn8 hn hz).mono ?_
  rintro e w5 ⟨rfl, hd5, hf5⟩
  have hF5 : Fr (fun b => b = A) w w5 := ((hf.mono (fun _ _ h => h.elim)).trans (hf3.mono (fun _ _ h => h.elim)) (fun _ _ h => h)).trans hf5 (fun _ _ h => h)
  go_wp2_with fail
  refine (wrapped_err _ 6 _).mono ?_
  rintro e w6 ⟨rfl, rfl⟩
  clear hf hf3 hf5 hv
  go_wp2
  go_ret2
  exact ⟨_, rfl, Or.inr ⟨_, _, rfl, heap_alloc_at _ _, by decide⟩, hd5.alloc _, hF5.alloc _⟩
set_option maxRecDepth 100000 in
set_option maxHeartbeats 1000000 in
theorem sOpen_size {cache : Value} (p : Int) (hp1 : ¬ p < 1) (hp2 : ¬ 64 < p) (hd : DiskAt w A B n cache calls writes) (hn : n < 8 ∨ 400 < n) :
    Calls Tryz.prog 46 #[.iface 31 (.pointer (some ⟨A, 0, none⟩)), .int .i64 p, .func cfn ca cc] w fun e w' => ∃ v, e = .returned (.tuple #[.pointer none, v]) ∧ ErrAt w' v 7 ∧ Fr (fun _ => False) w w' := by
  have hd1 : decide (p < 1) = false := by simpa using hp1
  have hd2 : decide (64 < p) = false := by simpa using hp2
  go_enter Tryz.func46, Tryz.ntmps46
  go_wp2_with fail
  refine (New_bad hd hn).mono ?_
  rintro e w2 ⟨rfl, hf⟩
  go_wp2_with fail
  refine (wrapped_err _ 7 _).mono ?_
  rintro e w3 ⟨rfl, rfl⟩
  go_wp2
  go_ret2
  exact ⟨_, rfl, Or.inr ⟨_, _, rfl, heap_alloc_at _ _, by decide⟩, hf.alloc _⟩
set_option maxRecDepth 100000 in
set_option maxHeartbeats 1000000 in
theorem sOpen_pause (p : Int) (hp : p < 1 ∨ 64 < p) :
    Calls Tryz.prog 46 #[.iface 31 (.pointer (some ⟨A, 0, none⟩)), .int .i64 p, .func cfn ca cc] w fun e w' => ∃ v, e = .returned (.tuple #[.pointer none, v]) ∧ ErrAt w' v 8 ∧ Fr (fun _ => False) w w' := by
  by_cases h1 : p < 1
  · have hd1 : decide (p < 1) = true := by simpa using h1
    go_enter Tryz.func46, Tryz.ntmps46
    go_wp2_with fail
    refine (wrapped_err _ 8 _).mono ?_
    rintro e w3 ⟨rfl, rfl⟩
    go_wp2
    go_ret2
    exact ⟨_, rfl, Or.inr ⟨_, _, rfl, heap_alloc_at _ _, by decide⟩, (Fr.refl _ _).alloc _⟩
  · have h2 : 64 < p := by omega
    have hd1 : decide (p < 1) = false := by simpa using h1
    have hd2 : decide (64 < p) = true := by simpa using h2
    go_enter Tryz.func46, Tryz.ntmps46
    go_wp2_with fail
    refine (wrapped_err _ 8 _).mono ?_
    rintro e w3 ⟨rfl, rfl⟩
    go_wp2
    go_ret2
    exact ⟨_, rfl, Or.inr ⟨_, _, rfl, heap_alloc_at _ _, by decide⟩, (Fr.refl _ _).alloc _⟩
/-- plain.Open hands on what sagas.Open answers. -/
theorem pOpen_any {Pp : Nat} {p : Int} {Q : Ending → World → Prop} (h : Calls Tryz.prog 46 #[.iface 31 (.pointer (some ⟨A, 0, none⟩)), .int .i64 p, .func (.func 47) #[.pointer (some ⟨Pp, 0, none⟩)] #[]] w fun e w' => ∃ x v, e = .returned (.tuple #[x, v]) ∧ Q e w') :
    Calls Tryz.prog 33 #[.pointer (some ⟨A, 0, none⟩), .int .i64 p, .pointer (some ⟨Pp, 0, none⟩)] w Q := by
  have hmf : ∀ (fn : Fn) (first cap : Array Value) (w : World), (Instr.makeFunc fn first cap).run Tryz.prog w = .ok (.func fn first cap) w := fun _ _ _ _ => rfl
  go_enter Tryz.func33, Tryz.ntmps33
  go_wp2_with fail
  refine h.mono ?_
  rintro e w' ⟨x, v, rfl, hQ⟩
  go_wp2
  exact hQ
end
end Go.Proofs.YteebjgfalllbjaaGreatDoor
namespace Go.Proofs.YteebjgfalllbjaaGreatDoor
open Go.RowKit Go.Shelf

theorem EngAt.c {w : World} {X J R : Nat} {clock pause : Int} {cv : Value} (h : EngAt w X J R clock pause cv) {i : Nat} {v : Value} (hi : #[Value.pointer (some ⟨J, 0, none⟩), .pointer (some ⟨R, 0, none⟩), .bool false, .int .i64 clock, .int .i64 pause, cv][i]? = some v) : w.cell? ⟨X, i, none⟩ = some v := (cell_of_row w X i _ _ _ h).trans hi
/-- The roll of an engine without sagas. -/
def Roll0 (w : World) (R : Nat) (room : Int) : Prop := w.heap[R]? = some (.cells #[.slice none 0 0, .int .i64 room] 176 (0, 0))
theorem mk0 (w : World) : (Instr.makeSlice 69 (.int .i64 0) (.int .i64 0)).run Tryz.prog w = .ok (.slice (some ⟨w.heap.size, 0, none⟩) 0 0) (w.alloc (.cells #[] 42)) := by kernel_rfl
set_option maxRecDepth 100000 in
theorem Statuses_none {w : World} {R : Nat} {room : Int} (h : Roll0 w R room) : Calls Tryz.prog 64 #[.pointer (some ⟨R, 0, none⟩)] w fun e w' => (∃ a, e = .returned (.slice a 0 0)) ∧ Fr (fun _ => False) w w' := by
  have c0 : w.cell? ⟨R, 0, none⟩ = some (.slice none 0 0) := (cell_of_row w R 0 _ _ _ h).trans rfl
  have hr' : Roll0 (w.alloc (.cells #[] 42)) R room := by unfold Roll0; rw [heap_alloc_lt _ _ _ (lt_of_heap h)]; exact h
  have c1 : (w.alloc (.cells #[] 42)).cell? ⟨R, 0, none⟩ = some (.slice none 0 0) := (cell_of_row _ R 0 _ _ _ hr').trans rfl
  go_enter Tryz.func64, Tryz.ntmps64
  go_wp2_with (first | (refine wpList_makeSlice 69 (.tmp 10) (.tmp 10) rfl rfl (by exact mk0 _) ?_))
  refine wp_loop_rounds 1 ?_
  rw [rounds_succ]
  go_wp2
  go_ret
  exact ⟨⟨_, rfl⟩, (Fr.refl _ _).alloc _⟩
theorem eAll_ok (x : Addr) (w : World) : Calls Tryz.prog 48 #[.pointer (some x)] w fun e w' => e = .returned (.func (.func 78) #[] #[.pointer (some ⟨w.heap.size, 0, none⟩)]) ∧ w' = w.alloc (.cells #[.pointer (some x)] 32) := by
  have hmf : ∀ (fn : Fn) (first cap : Array Value) (w : World), (Instr.makeFunc fn first cap).run Tryz.prog w = .ok (.func fn first cap) w := fun _ _ _ _ => rfl
  go_enter Tryz.func48, Tryz.ntmps48
  go_wp2
  go_ret
  exact ⟨rfl, rfl⟩
set_option maxRecDepth 100000 in
theorem eAll1_none {w : World} {X J R b : Nat} {clock pause room : Int} {cv : Value} (he : EngAt w X J R clock pause cv) (hr : Roll0 w R room) (hb : w.cell? ⟨b, 0, none⟩ = some (.pointer (some ⟨X, 0, none⟩))) (y : Value) : Calls Tryz.prog 78 #[y, .pointer (some ⟨b, 0, none⟩)] w fun e w' => e = .returned (.tuple #[]) ∧ Fr (fun _ => False) w w' := by
  have c1 := he.c (i := 1) rfl
  go_enter Tryz.func78, Tryz.ntmps78
  go_wp2_with fail
  refine (Statuses_none hr).mono ?_
  rintro e w2 ⟨⟨a, rfl⟩, hf⟩
  go_wp2
  refine wp_loop_rounds 1 ?_
  rw [rounds_succ]
  go_wp2
  go_end0
  exact ⟨rfl, hf⟩
theorem grown_fr {w w' : World} (h : Fr (fun _ => False) w w') : w.grownBy w' none := ⟨h.os, h.tape, h.output, h.size, fun k hk _ => h.block k hk (fun h => h)⟩
theorem none_stops {w : World} {X J R b : Nat} {clock pause room : Int} {cv : Value} (he : EngAt w X J R clock pause cv) (hr : Roll0 w R room) (hb : w.heap[b]? = some (.cells #[.pointer (some ⟨X, 0, none⟩)] 32 (0, 0))) (n : Nat) : SeqStopsK (α := Empty) Fence.wide n Tryz.prog 78 #[.pointer (some ⟨b, 0, none⟩)] (fun x => nomatch x) (Below w.heap.size) (fun _ => True) (fun _ => False) 0 w := by
  intro l J' Jx W hB hJ hJx hY h0
  have he' : EngAt W X J R clock pause cv := (hB.block X (lt_of_heap he)).trans he
  have hr' : Roll0 W R room := (hB.block R (lt_of_heap hr)).trans hr
  have hb' := (hB.block b (lt_of_heap hb)).trans hb
  refine (callsIn_wide.2 (eAll1_none he' hr' ((cell_of_row W b 0 _ _ _ hb').trans rfl) _)).mono ?_
  rintro e w' ⟨rfl, hf⟩
  exact ⟨⟨_, rfl⟩, .inl ⟨[], trivial, hJ [] W w' none h0 (grown_fr hf) (fun r e => by cases e)⟩⟩
set_option maxRecDepth 100000 in
set_option maxHeartbeats 1000000 in
theorem pAll_in0 {w : World} {X J R : Nat} {clock pause room : Int} {cv : Value} (he : EngAt w X J R clock pause cv) (hr : Roll0 w R room) (most : Int) (hm : ¬ most < 1) : CallsIn Fence.wide 3 Tryz.prog 35 #[.pointer (some ⟨X, 0, none⟩), .int .i64 most] w fun e w' => e = .returned (.slice none 0 0) ∧ Below w.heap.size w w' := by
  have hro : Fence.wide.round = none := rfl
  obtain ⟨W0, HW0⟩ : ∃ W0, Hid (W0 = ((w.alloc (.cells #[.int .i64 most] 3)).alloc (.cells #[.slice none 0 0] 69)).alloc (.cells #[.pointer (some ⟨X, 0, none⟩)] 32)) := ⟨_, rfl⟩
  have hsz : W0.heap.size = w.heap.size + 3 := by rw [HW0.out]; simp
  have hB0 : Below w.heap.size w W0 := by rw [HW0.out]; exact (((Below.refl _ w).alloc (Nat.le_refl _) _).alloc (by simp) _).alloc (by simp; omega) _
  have hX : W0.heap[w.heap.size + 2]? = some (.cells #[.pointer (some ⟨X, 0, none⟩)] 32 (0, 0)) := by
    rw [HW0.out]
    have := heap_alloc_at (((w.alloc (.cells #[.int .i64 most] 3)).alloc (.cells #[.slice none 0 0] 69))) (.cells #[.pointer (some ⟨X, 0, none⟩)] 32)
    simpa using this
  have hO : W0.heap[w.heap.size + 1]? = some (.cells #[.slice none 0 0] 69 (0, 0)) := by
    rw [HW0.out, heap_alloc_lt _ _ _ (by simp)]
    have := heap_alloc_at (w.alloc (.cells #[.int .i64 most] 3)) (.cells #[.slice none 0 0] 69)
    simpa using this
  have he' : EngAt W0 X J R clock pause cv := (hB0.block X (lt_of_heap he)).trans he
  have hr' : Roll0 W0 R room := (hB0.block R (lt_of_heap hr)).trans hr
  refine callsIn_of_wp_marks Tryz.func35 rfl trivial ?_ hro
  simp only [Tryz.ntmps35, List.size_toArray, List.length_cons, List.length_nil, Nat.reduceAdd, Nat.reduceSub, Array.replicate_succ, Array.replicate_zero, List.push_toArray, List.append_toArray, List.nil_append, List.cons_append]
  gi_wp2_with (refine ⟨trivial, ?_⟩; gi_at_call 48; refine (callsIn_wide.2 (eAll_ok _ _)).mono ?_; rintro e w' ⟨rfl, rfl⟩)
  rw [← HW0.out]
  clear HW0
  refine wpIn_rangeFunc_ownF hro (by decide) (gf := 78) (lb := #[.pointer (some ⟨w.heap.size + 2, 0, none⟩)]) (by first | rfl | simp [Act.eval]) trivial (enters_of Tryz.func78 (by kernel_rfl) rfl)
    (none_stops he' hr' hX _) belowK_t (belowK_b (Nat.le_refl _)) (Below.refl _ _) (fun x => nomatch x)
    (fun _ W => W.cell? ⟨w.heap.size + 1, 0, none⟩ = some (.slice none 0 0) ∧ Below w.heap.size w W)
    (fun _ _ _ => False)
    (OwnFrom.and (Own.from (fun s A B row hs hg hr => cell_kept hs hg hr) _) (ownFrom_below (Nat.le_refl _) (by omega)))
    (fun _ _ _ _ _ hs _ _ => hs)
    ⟨(cell_of_row W0 _ 0 _ _ _ hO).trans rfl, hB0⟩
    (fun x => nomatch x) (fun _ x => nomatch x) (fun _ _ x => nomatch x) ?done ?stop
  case done =>
    rintro D ys W hD _ ⟨hc, hB⟩ hK
    gi_wp2
    refine ⟨by simp, .inl ⟨_, _, rfl, run_takeDeferred hK, ?_⟩⟩
    exact ⟨_, results_tmp rfl _ _ _, rfl, hB.trans (belowK_b (w := w) (Nat.le_refl _) W D _ _ (by omega) hK rfl rfl)⟩
  case stop =>
    rintro D c pre W _ h _ _
    exact h.elim
set_option maxRecDepth 100000 in
set_option maxHeartbeats 1000000 in
theorem pAll_in1 {w : World} {X J R : Nat} {clock pause room : Int} {cv : Value} (he : EngAt w X J R clock pause cv) (hr : Roll0 w R room) (most : Int) (hm : most < 1) : CallsIn Fence.wide 3 Tryz.prog 35 #[.pointer (some ⟨X, 0, none⟩), .int .i64 most] w fun e w' => e = .returned (.slice none 0 0) ∧ Below w.heap.size w w' := by
  have hro : Fence.wide.round = none := rfl
  obtain ⟨W0, HW0⟩ : ∃ W0, Hid (W0 = ((w.alloc (.cells #[.int .i64 0] 3)).alloc (.cells #[.slice none 0 0] 69)).alloc (.cells #[.pointer (some ⟨X, 0, none⟩)] 32)) := ⟨_, rfl⟩
  have hsz : W0.heap.size = w.heap.size + 3 := by rw [HW0.out]; simp
  have hB0 : Below w.heap.size w W0 := by rw [HW0.out]; exact (((Below.refl _ w).alloc (Nat.le_refl _) _).alloc (by simp) _).alloc (by simp; omega) _
  have hX : W0.heap[w.heap.size + 2]? = some (.cells #[.pointer (some ⟨X, 0, none⟩)] 32 (0, 0)) := by
    rw [HW0.out]
    have := heap_alloc_at (((w.alloc (.cells #[.int .i64 0] 3)).alloc (.cells #[.slice none 0 0] 69))) (.cells #[.pointer (some ⟨X, 0, none⟩)] 32)
    simpa using this
  have hO : W0.heap[w.heap.size + 1]? = some (.cells #[.slice none 0 0] 69 (0, 0)) := by
    rw [HW0.out, heap_alloc_lt _ _ _ (by simp)]
    have := heap_alloc_at (w.alloc (.cells #[.int .i64 0] 3)) (.cells #[.slice none 0 0] 69)
    simpa using this
  have he' : EngAt W0 X J R clock pause cv := (hB0.block X (lt_of_heap he)).trans he
  have hr' : Roll0 W0 R room := (hB0.block R (lt_of_heap hr)).trans hr
  refine callsIn_of_wp_marks Tryz.func35 rfl trivial ?_ hro
  simp only [Tryz.ntmps35, List.size_toArray, List.length_cons, List.length_nil, Nat.reduceAdd, Nat.reduceSub, Array.replicate_succ, Array.replicate_zero, List.push_toArray, List.append_toArray, List.nil_append, List.cons_append]
  gi_wp2_with (refine ⟨trivial, ?_⟩; gi_at_call 48; refine (callsIn_wide.2 (eAll_ok _ _)).mono ?_; rintro e w' ⟨rfl, rfl⟩)
  rw [← HW0.out]
  clear HW0
  refine wpIn_rangeFunc_ownF hro (by decide) (gf := 78) (lb := #[.pointer (some ⟨w.heap.size + 2, 0, none⟩)]) (by first | rfl | simp [Act.eval]) trivial (enters_of Tryz.func78 (by kernel_rfl) rfl)
    (none_stops he' hr' hX _) belowK_t (belowK_b (Nat.le_refl _)) (Below.refl _ _) (fun x => nomatch x)
    (fun _ W => W.cell? ⟨w.heap.size + 1, 0, none⟩ = some (.slice none 0 0) ∧ Below w.heap.size w W)
    (fun _ _ _ => False)
    (OwnFrom.and (Own.from (fun s A B row hs hg hr => cell_kept hs hg hr) _) (ownFrom_below (Nat.le_refl _) (by omega)))
    (fun _ _ _ _ _ hs _ _ => hs)
    ⟨(cell_of_row W0 _ 0 _ _ _ hO).trans rfl, hB0⟩
    (fun x => nomatch x) (fun _ x => nomatch x) (fun _ _ x => nomatch x) ?done ?stop
  case done =>
    rintro D ys W hD _ ⟨hc, hB⟩ hK
    gi_wp2
    refine ⟨by simp, .inl ⟨_, _, rfl, run_takeDeferred hK, ?_⟩⟩
    exact ⟨_, results_tmp rfl _ _ _, rfl, hB.trans (belowK_b (w := w) (Nat.le_refl _) W D _ _ (by omega) hK rfl rfl)⟩
  case stop =>
    rintro D c pre W _ h _ _
    exact h.elim
theorem pAll_none {w : World} {X J R : Nat} {clock pause room : Int} {cv : Value} (he : EngAt w X J R clock pause cv) (hr : Roll0 w R room) (most : Int) : Calls Tryz.prog 35 #[.pointer (some ⟨X, 0, none⟩), .int .i64 most] w fun e w' => e = .returned (.slice none 0 0) ∧ Fr (fun _ => False) w w' := by
  by_cases hm : most < 1
  · exact ((callsIn_wide (n := 3)).1 (pAll_in1 he hr most hm)).mono (fun _ _ h => ⟨h.1, ⟨h.2.os, h.2.tape, h.2.output, h.2.size, fun k hk _ => h.2.block k hk⟩⟩)
  · exact ((callsIn_wide (n := 3)).1 (pAll_in0 he hr most hm)).mono (fun _ _ h => ⟨h.1, ⟨h.2.os, h.2.tape, h.2.output, h.2.size, fun k hk _ => h.2.block k hk⟩⟩)
end Go.Proofs.YteebjgfalllbjaaGreatDoor
