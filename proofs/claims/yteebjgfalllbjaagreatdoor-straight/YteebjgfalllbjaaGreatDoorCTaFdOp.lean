import Derived.Test.YteebjgfalllbjaaGreatDoorCJrFmJf
import Derived.Test.YteebjgfalllbjaaGreatDoorCLnLpOwn
namespace Go.Proofs.YteebjgfalllbjaaGreatDoor
open Go.RowKit
set_option maxRecDepth 100000 in
set_option maxHeartbeats 1000000 in
theorem Try_any {w : World} {f : FuncId} {caps : Array Value} {Q : Value → World → Prop} (hcf : ∀ w, (callFunc f caps).run Tryz.prog w = .ok (.enter f caps) w)
  (hC : Calls Tryz.prog f caps (w.alloc (.cells #[.nilIface] 36)) fun e w' => ∃ v, e = .returned v ∧ v.oneCell' = true ∧ w'.heap[w.heap.size]? = some (.cells #[.nilIface] 36 (0, 0)) ∧ Q v (w'.setCell ⟨w.heap.size, 0, none⟩ v)) :
  Calls Tryz.prog 92 #[.func (.func f) #[] caps] w fun e w' => ∃ v, e = .returned v ∧ Q v w' := by
 have hmf : ∀ (fn : Fn) (first cap : Array Value) (w : World), (Instr.makeFunc fn first cap).run Tryz.prog w = .ok (.func fn first cap) w := fun _ _ _ _ => rfl
 go_enter_defers Tryz.func92, Tryz.ntmps92
 go_wp2_with fail
 refine hC.mono ?_
 rintro e w2 ⟨v, rfl, hv, hE, hQ⟩
 have cE : w2.cell? ⟨w.heap.size, 0, none⟩ = some .nilIface := by rw [cell_of_row w2 w.heap.size 0 _ _ _ hE]; rfl
 have fE : w2.frozen? ⟨w.heap.size, 0, none⟩ = false := frozen_of_row w2 w.heap.size 0 _ _ hE
 have hst := run_storeAt_one (P := Tryz.prog) (w := w2) (a := ⟨w.heap.size, 0, none⟩) (t := 36) (v := v) cE fE (by kernel_rfl) hv
 go_wp2_with (first | (refine wpList_store 36 (w' := w2.setCell ⟨w.heap.size, 0, none⟩ v) _ _ rfl rfl ?_ ?_; exact hst))
 refine leaves_cons (f := 139) (args := #[.pointer (some ⟨w.heap.size, 0, none⟩)]) (by simp) (by simp [go_sem]) ?_
 refine (Try1_idle ⟨w.heap.size, 0, none⟩ _).mono ?_
 rintro e u' w'' ⟨rfl, rfl, rfl⟩
 have cE' : (w2.setCell ⟨w.heap.size, 0, none⟩ v).cell? ⟨w.heap.size, 0, none⟩ = some v := World.cell?_setCell_same _ _ _ cE
 simp [Leaves, settle, results, Tryz.results92, go_sem, cE']
 exact hQ
end Go.Proofs.YteebjgfalllbjaaGreatDoor
namespace Go.Proofs.YteebjgfalllbjaaGreatDoor
open Go.RowKit
def fdW (w : World) (V : Nat) (tv fv : Value) : World :=
 (((((w.alloc (.cells #[.pointer (some ⟨V, 0, none⟩)] 155)).alloc (.cells #[tv] 127)).alloc (.cells #[fv] 162)).alloc (.cells #[.pointer (some ⟨V, 0, none⟩), .int .i64 1, .bool false] 179)).alloc (.cells #[.pointer (some ⟨w.heap.size + 1 + 1 + 1, 0, none⟩)] 87))
theorem fdW_fr (w : World) (V : Nat) (tv fv : Value) : Fr (fun _ => False) w (fdW w V tv fv) := (((((Fr.refl _ _).alloc _).alloc _).alloc _).alloc _).alloc _
theorem fdW_size (w : World) (V : Nat) (tv fv : Value) : (fdW w V tv fv).heap.size = w.heap.size + 5 := by simp [fdW]
theorem fdW_s {w : World} {V A B n : Nat} {tv fv : Value} {calls writes : Int} {bs : List Value} (hv : VolAt w V A n) (hd : DiskAt w A B n (.slice none 0 0) calls writes) (hr : RowsAt w B n bs) :
  FdS (fdW w V tv fv) w.heap.size (w.heap.size + 4) (w.heap.size + 1) (w.heap.size + 2) V (w.heap.size + 3) A B n tv fv calls writes bs := by
 have hf := fdW_fr w V tv fv
 refine ⟨?_, ?_, ?_, ?_, hv.fr hf id, hd.fr hf id, ⟨hf.keep hr.1 id, hr.2⟩, ?_⟩
 ·unfold fdW
  rw [heap_alloc_lt _ _ _ (by simp <;> omega), heap_alloc_lt _ _ _ (by simp <;> omega), heap_alloc_lt _ _ _ (by simp <;> omega), heap_alloc_lt _ _ _ (by simp <;> omega)]
  exact heap_alloc_at _ _
 ·unfold fdW
  have := heap_alloc_at ((((w.alloc (.cells #[.pointer (some ⟨V, 0, none⟩)] 155)).alloc (.cells #[tv] 127)).alloc (.cells #[fv] 162)).alloc (.cells #[.pointer (some ⟨V, 0, none⟩), .int .i64 1, .bool false] 179)) (.cells #[.pointer (some ⟨w.heap.size + 1 + 1 + 1, 0, none⟩)] 87)
  simpa using this
 ·unfold fdW
  rw [heap_alloc_lt _ _ _ (by simp <;> omega), heap_alloc_lt _ _ _ (by simp <;> omega), heap_alloc_lt _ _ _ (by simp <;> omega)]
  have := heap_alloc_at (w.alloc (.cells #[.pointer (some ⟨V, 0, none⟩)] 155)) (.cells #[tv] 127)
  simpa using this
 ·unfold fdW
  rw [heap_alloc_lt _ _ _ (by simp <;> omega), heap_alloc_lt _ _ _ (by simp <;> omega)]
  have := heap_alloc_at ((w.alloc (.cells #[.pointer (some ⟨V, 0, none⟩)] 155)).alloc (.cells #[tv] 127)) (.cells #[fv] 162)
  simpa using this
 ·unfold fdW JAt
  rw [heap_alloc_lt _ _ _ (by simp <;> omega)]
  have := heap_alloc_at (((w.alloc (.cells #[.pointer (some ⟨V, 0, none⟩)] 155)).alloc (.cells #[tv] 127)).alloc (.cells #[fv] 162)) (.cells #[.pointer (some ⟨V, 0, none⟩), .int .i64 1, .bool false] 179)
  simpa using this
section
variable {w : World} {V A B n : Nat} {tfn ffn : Fn} {ta tc fa fc : Array Value} {calls writes : Int} {bs : List Value}
set_option maxRecDepth 100000 in
set_option maxHeartbeats 1000000 in
theorem Find_ok {recs : List (List Value)} (hv : VolAt w V A n) (hd : DiskAt w A B n (.slice none 0 0) calls writes) (hr : RowsAt w B n bs) (h0 : 0 ≤ calls) (h1 : calls < 90000000) (hn8 : 8 ≤ n) (hn : n ≤ 400) (hbs : bs = layB n recs) (hrl : recs.length < n) (hrec : ∀ r ∈ recs, RecOk r)
  (RP : Nat → World → Prop) (SR : Nat → Prop) (hR : ∀ w', Fr (fun b => b = A) w w' → w.heap.size + 6 ≤ w'.heap.size → RP 0 w') (hP : ∀ i W W', RP i W → Fr (fun b => b = A ∨ (w.heap.size ≤ b ∧ b < w.heap.size + 6)) W W' → RP i W') (hSR : ∀ b, SR b → b < w.heap.size ∧ b ≠ A ∧ b ≠ V ∧ b ≠ B)
  (hH : ∀ i r W, recs[i]? = some r → RP i W → W.heap[w.heap.size + 1]? = some (.cells #[.func tfn ta tc] 127 (0, 0)) → W.heap[w.heap.size + 2]? = some (.cells #[.func ffn fa fc] 162 (0, 0)) → Calls Tryz.prog 115 #[.agg r.toArray, .pointer (some ⟨w.heap.size + 1, 0, none⟩), .pointer (some ⟨w.heap.size + 2, 0, none⟩)] W fun e w' => e = .returned (.bool true) ∧ RP (i + 1) w' ∧ Fr (fun b => SR b ∨ w.heap.size + 6 ≤ b) W w') :
  Calls Tryz.prog 75 #[.pointer (some ⟨V, 0, none⟩), .func tfn ta tc, .func ffn fa fc] w fun e w' => e = .returned (.tuple #[.pointer (some ⟨w.heap.size + 3, 0, none⟩), .nilIface]) ∧ ∃ calls', calls ≤ calls' ∧ calls' ≤ calls + 1 + n ∧ RdS w' (w.heap.size + 3) V A B n calls' writes recs.length (layB n recs) ∧ RP recs.length w' ∧ Fr (fun b => b = A ∨ SR b) w w' ∧ w.heap.size + 6 ≤ w'.heap.size := by
 have hmf : ∀ (fn : Fn) (first cap : Array Value) (w : World), (Instr.makeFunc fn first cap).run Tryz.prog w = .ok (.func fn first cap) w := fun _ _ _ _ => rfl
 have hs := fdW_s (tv := .func tfn ta tc) (fv := .func ffn fa fc) hv hd hr
 have hfw := fdW_fr w V (.func tfn ta tc) (.func ffn fa fc)
 have hsz := fdW_size w V (.func tfn ta tc) (.func ffn fa fc)
 obtain ⟨W, HW⟩ : ∃ W, Hid (W = fdW w V (.func tfn ta tc) (.func ffn fa fc)) := ⟨_, rfl⟩
 rw [← HW.out] at hs hfw hsz
 have hAl := lt_of_heap hd
 have hVl := lt_of_heap hv
 have hBl := lt_of_heap hr.1
 have hT := Try_any (w := W) (f := 111) (caps := #[.pointer (some ⟨w.heap.size, 0, none⟩), .pointer (some ⟨w.heap.size + 4, 0, none⟩), .pointer (some ⟨w.heap.size + 1, 0, none⟩), .pointer (some ⟨w.heap.size + 2, 0, none⟩)])
  (Q := fun v w' => v = .nilIface ∧ (∃ calls', calls ≤ calls' ∧ calls' ≤ calls + 1 + n ∧ RdS w' (w.heap.size + 3) V A B n calls' writes recs.length (layB n recs) ∧ RP recs.length w') ∧ w'.cell? ⟨w.heap.size + 4, 0, none⟩ = some (.pointer (some ⟨w.heap.size + 3, 0, none⟩)) ∧ Fr (fun b => b = A ∨ SR b) w w' ∧ w.heap.size + 6 ≤ w'.heap.size) (fun _ => by kernel_rfl) (by
   have hfa : Fr (fun _ => False) W (W.alloc (.cells #[.nilIface] 36)) := (Fr.refl _ _).alloc _
   have hfb : Fr (fun b => b = A) w (W.alloc (.cells #[.nilIface] 36)) := (hfw.mono (fun _ _ h => h.elim)).trans (hfa.mono (fun _ _ h => h.elim)) (fun _ _ h => h)
   have hs2 := hs.frz hfa
   have nS : ∀ b, b < w.heap.size + 6 → w.heap.size ≤ b → ¬ (SR b ∨ w.heap.size + 6 ≤ b) := fun b h1 h2 h => by
    rcases h with h | h
    ·have := hSR b h; omega
    ·omega
   refine (Find1_ok hs2 h0 h1 hn8 hn hbs hrl hrec RP (fun b => SR b ∨ w.heap.size + 6 ≤ b) (fun w' hf' => hR w' (hfb.trans hf' (fun _ _ h => h)) (by have h1 := hf'.size; simp at h1; omega)) (fun i W1 W2 hr1 hf1 => hP i W1 W2 hr1 (hf1.mono (fun b _ h => by rcases h with h | h; exact .inl h; exact .inr (by omega)))) ⟨?_, nS _ (by omega) (by omega), ?_, ?_, nS _ (by omega) (by omega), nS _ (by omega) (by omega), nS _ (by omega) (by omega)⟩ (fun i r W1 hr1 hrp h3 h4 => hH i r W1 hr1 hrp h3 h4)).mono ?_
   ·rintro (h | h)
    ·exact (hSR _ h).2.1 rfl
    ·omega
   ·rintro (h | h)
    ·exact (hSR _ h).2.2.1 rfl
    ·omega
   ·rintro (h | h)
    ·exact (hSR _ h).2.2.2 rfl
    ·omega
   rintro e w' ⟨rfl, cl, g1, g2, g3, g4, g5⟩
   have gF : Fr (fun b => b = A ∨ SR b) w w' := (hfb.mono (fun _ _ h => .inl h)).trans g5 (fun b hb h => by
    rcases h with h | h | h | h
    ·exact .inl h
    ·omega
    ·exact .inr h
    ·omega)
   have hk : ∀ {b : Nat} {o : Obj}, (W.alloc (.cells #[.nilIface] 36)).heap[b]? = some o → b ≠ A → b ≠ w.heap.size + 3 → ¬ (SR b ∨ w.heap.size + 6 ≤ b) → w'.heap[b]? = some o := fun hb h1 h2 h3 => g5.keep hb (by rintro (h | h | h); exact h1 h; exact h2 h; exact h3 h)
   have hE : w'.heap[W.heap.size]? = some (.cells #[.nilIface] 36 (0, 0)) := hk (heap_alloc_at _ _) (by omega) (by omega) (nS _ (by omega) (by omega))
   have hX2 := hk hs2.x2 (by omega) (by omega) (nS _ (by omega) (by omega))
   have hset : Fr (fun b => b = W.heap.size) w' (w'.setCell ⟨W.heap.size, 0, none⟩ .nilIface) := Fr.set1 _ _ _ _
   refine ⟨_, rfl, rfl, hE, rfl, ⟨cl, g1, g2, g3.fr hset (by omega) (by omega) (by omega) (g3.d.fr hset (by omega)), hP _ _ _ g4 (hset.mono (fun b _ h => .inr (by omega)))⟩, ?_, gF.trans hset (fun b hb h => by omega), ?_⟩
   ·exact hset.cell ((cell_of_row w' _ 0 _ _ _ hX2).trans rfl) (by simp; omega)
   ·have h5 := g5.size
    have h6 := hset.size
    simp at h5
    omega)
 unfold fdW at HW
 clear hs hfw
 go_enter Tryz.func75, Tryz.ntmps75
 go_wp2_with fail
 rw [← HW.out]
 refine hT.mono ?_
 rintro e w' ⟨v, rfl, rfl, HX, hc, hf', hs6⟩
 clear HW hT
 go_wp2
 go_ret2
 obtain ⟨cl, g1, g2, g3, g4⟩ := HX
 exact ⟨rfl, cl, g1, g2, g3, g4, hf', hs6⟩
end
theorem rollNew_ok (r : Int) (w : World) : Calls Tryz.prog 73 #[.int .i64 r] w fun e w' => e = .returned (.pointer (some ⟨w.heap.size, 0, none⟩)) ∧ w' = w.alloc (.cells #[.slice none 0 0, .int .i64 r] 176) := by
 go_enter Tryz.func73, Tryz.ntmps73
 go_wp2
 go_ret
 exact ⟨rfl, rfl⟩
theorem jRoom_ok {w : World} {V A n : Nat} (h : VolAt w V A n) (hn : 1 ≤ n) (hn' : n ≤ 400) : Calls Tryz.prog 74 #[.pointer (some ⟨V, 0, none⟩)] w fun e w' => e = .returned (.int .i64 ((n : Int) - 1)) ∧ w' = w := by
 go_enter Tryz.func74, Tryz.ntmps74
 go_wp2_with fail
 refine (vBlocks_ok h).mono ?_
 rintro e w' ⟨rfl, rfl⟩
 go_wp2
 go_ret
 exact ⟨by go_num, rfl⟩
end Go.Proofs.YteebjgfalllbjaaGreatDoor
namespace Go.Proofs.YteebjgfalllbjaaGreatDoor
open Go.RowKit
def EngAt (w : World) (X J R : Nat) (clock pause : Int) (cv : Value) : Prop := w.heap[X]? = some (.cells #[.pointer (some ⟨J, 0, none⟩), .pointer (some ⟨R, 0, none⟩), .bool false, .int .i64 clock, .int .i64 pause, cv] 91 (0, 0))
def OpnS (RP : Nat → Nat → World → Prop) (A B n : Nat) (calls writes : Int) (p : Int) (cv : Value) (recs : List (List Value)) (w : World) (X : Nat) (w' : World) : Prop :=
 ∃ V R J calls', EngAt w' X J R 0 p cv ∧ calls ≤ calls' ∧ calls' ≤ calls + 1 + n ∧ RdS w' J V A B n calls' writes recs.length (layB n recs) ∧ RP R recs.length w' ∧ w.heap.size ≤ V ∧ V < R ∧ J = R + 4 ∧ R + 7 ≤ X ∧ Fr (fun b => b = A) w w'
section
variable {w : World} {A B n : Nat} {cfn : Fn} {ca cc : Array Value} {calls writes : Int} {bs : List Value}
set_option maxRecDepth 100000 in
set_option maxHeartbeats 1000000 in
theorem sOpen_ok {recs : List (List Value)} (p : Int) (hp1 : ¬ p < 1) (hp2 : ¬ 64 < p) (hd : DiskAt w A B n (.slice none 0 0) calls writes) (hr : RowsAt w B n bs) (h0 : 0 ≤ calls) (h1 : calls < 90000000) (hn8 : 8 ≤ n) (hn : n ≤ 400) (hbs : bs = layB n recs) (hrl : recs.length < n) (hrec : ∀ r ∈ recs, RecOk r)
  (RP : Nat → Nat → World → Prop) (hR : ∀ R W, w.heap.size ≤ R → W.heap[R]? = some (.cells #[.slice none 0 0, .int .i64 ((n : Int) - 1)] 176 (0, 0)) → R + 7 ≤ W.heap.size → RP R 0 W)
  (hP : ∀ R i W W', w.heap.size ≤ R → RP R i W → Fr (fun b => b = A ∨ (R < b ∧ b < R + 7)) W W' → RP R i W')
  (hH : ∀ R i r W, w.heap.size ≤ R → recs[i]? = some r → RP R i W → W.heap[R + 2]? = some (.cells #[.func (.func 63) #[.pointer (some ⟨R, 0, none⟩)] #[]] 127 (0, 0)) → W.heap[R + 3]? = some (.cells #[.func (.func 76) #[.pointer (some ⟨R, 0, none⟩)] #[]] 162 (0, 0)) → Calls Tryz.prog 115 #[.agg r.toArray, .pointer (some ⟨R + 2, 0, none⟩), .pointer (some ⟨R + 3, 0, none⟩)] W fun e w' => e = .returned (.bool true) ∧ RP R (i + 1) w' ∧ Fr (fun b => b = R ∨ R + 7 ≤ b) W w') :
  Calls Tryz.prog 46 #[.iface 31 (.pointer (some ⟨A, 0, none⟩)), .int .i64 p, .func cfn ca cc] w fun e w' => ∃ X, e = .returned (.tuple #[.pointer (some ⟨X, 0, none⟩), .nilIface]) ∧ OpnS RP A B n calls writes p (.func cfn ca cc) recs w X w' := by
 have hmf : ∀ (fn : Fn) (first cap : Array Value) (w : World), (Instr.makeFunc fn first cap).run Tryz.prog w = .ok (.func fn first cap) w := fun _ _ _ _ => rfl
 have hd1 : decide (p < 1) = false := by simpa using hp1
 have hd2 : decide (64 < p) = false := by simpa using hp2
 have hAl := lt_of_heap hd
 have hBl := lt_of_heap hr.1
 go_enter Tryz.func46, Tryz.ntmps46
 go_wp2_with fail
 refine (New_ok hd hn8 hn).mono ?_
 rintro e w2 ⟨V, rfl, hv, hVl, hf⟩
 go_wp2_with fail
 refine (jRoom_ok hv (by omega) hn).mono ?_
 rintro e w' ⟨rfl, rfl⟩
 go_wp2_with fail
 refine (rollNew_ok _ _).mono ?_
 rintro e w3 ⟨rfl, rfl⟩
 have hVl2 := lt_of_heap hv
 have hsz := hf.size
 obtain ⟨R, HRR⟩ : ∃ R, Hid (R = w'.heap.size) := ⟨_, rfl⟩
 have hf3 : Fr (fun _ => False) w' (w'.alloc (.cells #[.slice none 0 0, .int .i64 ((n : Int) - 1)] 176)) := (Fr.refl _ _).alloc _
 have hroll : (w'.alloc (.cells #[.slice none 0 0, .int .i64 ((n : Int) - 1)] 176)).heap[w'.heap.size]? = some (.cells #[.slice none 0 0, .int .i64 ((n : Int) - 1)] 176 (0, 0)) := heap_alloc_at _ _
 have hsz3 : (w'.alloc (.cells #[.slice none 0 0, .int .i64 ((n : Int) - 1)] 176)).heap.size = R + 1 := by rw [HRR.out]; simp
 obtain ⟨W3, HW3⟩ : ∃ W3, Hid (W3 = w'.alloc (.cells #[.slice none 0 0, .int .i64 ((n : Int) - 1)] 176)) := ⟨_, rfl⟩
 have hRl : w.heap.size ≤ R := by rw [HRR.out]; exact hsz
 have hVR : V < R := by rw [HRR.out]; exact hVl2
 rw [← HW3.out] at hf3 hroll hsz3 ⊢
 rw [← HRR.out] at hroll ⊢
 have hf13 : Fr (fun b => b = A) w W3 := (hf.mono (fun _ _ h => h.elim)).trans (hf3.mono (fun _ _ h => h.elim)) (fun _ _ h => h)
 have HF := Find_ok (w := W3) (tfn := .func 63) (ta := #[.pointer (some ⟨R, 0, none⟩)]) (tc := #[]) (ffn := .func 76) (fa := #[.pointer (some ⟨R, 0, none⟩)]) (fc := #[]) (hv.fr hf3 id) ((hd.fr hf id).fr hf3 id) ⟨hf3.keep (hf.keep hr.1 id) id, hr.2⟩ h0 h1 hn8 hn hbs hrl hrec (RP R) (fun b => b = R)
  (fun w4 hf4 h46 => hR R w4 hRl (hf4.keep hroll (by omega)) (by omega)) (fun i W1 W2 hr1 hf1 => hP R i W1 W2 hRl hr1 (hf1.mono (fun b _ h => by rw [hsz3] at h; rcases h with h | h; exact .inl h; exact .inr (by omega)))) (fun b hb => by omega)
  (fun i r W hr1 hrp h3 h4 => by
   rw [hsz3] at h3 h4 ⊢
   refine (hH R i r W hRl hr1 hrp h3 h4).mono ?_
   rintro e w5 ⟨h1, h2, h3⟩
   exact ⟨h1, h2, h3.mono (fun b _ h => by rcases h with h | h; exact .inl h; exact .inr (by omega))⟩)
 clear hroll HW3 HRR hf3 hv hH hR
 go_wp2_with fail
 refine HF.mono ?_
 rintro e w5 ⟨rfl, cl, g1, g2, g3, g4, g5, g6⟩
 have hsz5 := g5.size
 rw [hsz3] at g3 g6 ⊢
 have hfe : Fr (fun _ => False) w5 (w5.alloc (.cells #[.pointer (some ⟨R + 1 + 3, 0, none⟩), .pointer (some ⟨R, 0, none⟩), .bool false, .int .i64 0, .int .i64 p, .func cfn ca cc] 91)) := (Fr.refl _ _).alloc _
 have HQ : Hid (R + 7 ≤ w5.heap.size → OpnS RP A B n calls writes p (.func cfn ca cc) recs w w5.heap.size (w5.alloc (.cells #[.pointer (some ⟨R + 1 + 3, 0, none⟩), .pointer (some ⟨R, 0, none⟩), .bool false, .int .i64 0, .int .i64 p, .func cfn ca cc] 91))) :=
  fun h7 => ⟨V, R, R + 1 + 3, cl, heap_alloc_at _ _, g1, g2, g3.fr hfe id id id (g3.d.fr hfe id), hP R _ _ _ hRl g4 (hfe.mono (fun _ _ h => h.elim)), hVl, hVR, by omega, h7, (hf13.trans g5 (fun b hb h => by rcases h with h | h; exact h; omega)).trans hfe (fun _ _ h => h.elim)⟩
 clear HF hfe g4 g5 hf13 hP
 go_wp2
 go_ret2
 exact ⟨_, rfl, HQ.out (by omega)⟩
theorem pOpen_any {Pp : Nat} {p : Int} {Q : Ending → World → Prop} (h : Calls Tryz.prog 46 #[.iface 31 (.pointer (some ⟨A, 0, none⟩)), .int .i64 p, .func (.func 47) #[.pointer (some ⟨Pp, 0, none⟩)] #[]] w fun e w' => ∃ x v, e = .returned (.tuple #[x, v]) ∧ Q e w') :
  Calls Tryz.prog 33 #[.pointer (some ⟨A, 0, none⟩), .int .i64 p, .pointer (some ⟨Pp, 0, none⟩)] w Q := by
 have hmf : ∀ (fn : Fn) (first cap : Array Value) (w : World), (Instr.makeFunc fn first cap).run Tryz.prog w = .ok (.func fn first cap) w := fun _ _ _ _ => rfl
 go_enter Tryz.func33, Tryz.ntmps33
 go_wp2_with fail
 refine h.mono ?_
 rintro e w' ⟨x, v, rfl, hQ⟩
 go_wp2
 exact hQ
end
end Go.Proofs.YteebjgfalllbjaaGreatDoor
