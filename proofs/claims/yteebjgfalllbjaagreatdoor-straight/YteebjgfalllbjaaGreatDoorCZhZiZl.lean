import Derived.Test.YteebjgfalllbjaaGreatDoorCUpPlZg
import Derived.Test.YteebjgfalllbjaaGreatDoorCZdZeZf
import Derived.Test.YteebjgfalllbjaaGreatDoorCAsTlLm
import Derived.Test.YteebjgfalllbjaaGreatDoorCHeadSecureTry
namespace Go.Proofs.YteebjgfalllbjaaGreatDoor
open Go.RowKit Go.Extern.Stop Go.Stop Go.Extern
theorem rt_assertErr (p : Addr) (w : World) : (Instr.typeAssert (.iface 258 (.pointer (some p))) 20 36 true).run Tryz.prog w = .ok (.tuple #[.iface 258 (.pointer (some p)), .bool true]) w := run_typeAssert_hasB Tryz.underlying36 (by kernel_rfl) _ _ w
set_option maxRecDepth 100000 in
set_option maxHeartbeats 1000000 in
theorem caught_ok (g : Nat) (w : World) (hG : GOk w) : Calls Tryz.prog 140 #[.iface 258 (.pointer (some ⟨g, 0, none⟩))] w fun e w' => e = .returned (.iface 258 (.pointer (some ⟨g, 0, none⟩))) ∧ Fr (fun _ => False) w w' := by
 have f1 := rt_assertErr
 have hb : (w.alloc (.cells #[.pointer none] 258)).heap[w.heap.size]? = some (.cells #[.pointer none] 258 (0, 0)) := heap_alloc_at _ _
 have hA := AsT_ok g w.heap.size (.pointer none) (w.alloc (.cells #[.pointer none] 258)) (by rw [World.cell?_alloc_lt _ _ ⟨0, 0, none⟩ (World.block_lt_of_cell? w _ hG)]; exact hG) ((cell_of_row _ _ 0 _ _ _ hb).trans rfl) (frozen_of_row _ _ 0 _ _ hb)
 have HF : Hid (Fr (fun _ => False) w (w.alloc (.cells #[.pointer none] 258))) := (Fr.refl _ _).alloc _
 clear hb
 go_enter Tryz.func140, Tryz.ntmps140
 go_wp2_with fail
 refine hA.mono ?_
 rintro e w2 ⟨rfl, hc2, hf2⟩
 have HF2 : Hid (Fr (fun _ => False) w w2) := (HF.out.mono (fun _ _ h => h.elim)).trans hf2 (fun b hb e => by omega)
 clear hA hf2
 go_wp2
 go_ret
 exact ⟨rfl, HF2.out⟩
theorem Try1_panics (p : Addr) (old : Value) (g : Nat) (older : List PanicEntry) (w : World) (hG : GOk w) (hc : w.cell? p = some old) (hz : w.frozen? p = false) :
  CallsD Tryz.prog 139 #[.pointer (some p)] (.panicking ({ v := .iface 258 (.pointer (some ⟨g, 0, none⟩)), recovered := false } :: older)) w fun e u' w' =>
   e = .returned (.tuple #[]) ∧ u' = .panicking ({ v := .iface 258 (.pointer (some ⟨g, 0, none⟩)), recovered := true } :: older) ∧ ∃ w1, Fr (fun _ => False) w w1 ∧ w' = w1.setCell p (.iface 258 (.pointer (some ⟨g, 0, none⟩))) := by
 refine callsD_of_wpS Tryz.func139 rfl fun c₀ cs hu => ?_
 apply wpS_seq
 apply wpS_region
 simp [wpOpsS, go_sem, recoverD, hu, Tryz.ntmps139, Exit.thenS]
 apply wpS_seq
 apply wpS_region
 simp [wpOpsS, go_sem, Exit.thenS]
 refine wpS_cond (t := true) (by simp [Act.eval, Array.replicate]) ?_
 simp only [if_true]
 refine wpS_of_wp ?_
 have e : (#[Value.pointer (some p)] ++ ((((Array.replicate 6 undef).setIfInBounds 1 (Value.iface 258 (Value.pointer (some ⟨g, 0, none⟩)))).setIfInBounds 0 (Value.iface 258 (Value.pointer (some ⟨g, 0, none⟩)))).setIfInBounds 2 (Value.iface 258 (Value.pointer (some ⟨g, 0, none⟩)))).setIfInBounds 3 (Value.bool true)) = #[.pointer (some p), .iface 258 (.pointer (some ⟨g, 0, none⟩)), .iface 258 (.pointer (some ⟨g, 0, none⟩)), .iface 258 (.pointer (some ⟨g, 0, none⟩)), .bool true, undef, undef] := rfl
 rw [e]
 go_wp2_with fail
 refine (caught_ok g w hG).mono ?_
 rintro e w2 ⟨rfl, hf2⟩
 have hc2 := hf2.cell hc (fun h => h)
 have hz2 : w2.frozen? p = false := by
  have hl := World.block_lt_of_cell? w _ hc
  unfold World.frozen? at hz ⊢
  rw [hf2.block p.block hl (fun h => h)]; exact hz
 go_wp2
 simp [bodyPostS, results, Tryz.results139]
 exact ⟨w2, hf2, rfl⟩
end Go.Proofs.YteebjgfalllbjaaGreatDoor
namespace Go.Proofs.YteebjgfalllbjaaGreatDoor
open Go.RowKit
def trV (g : Nat) : Value := .iface 258 (.pointer (some ⟨g, 0, none⟩))
set_option maxRecDepth 100000 in
set_option maxHeartbeats 1000000 in
theorem Try_gen {w : World} {f : FuncId} {caps : Array Value} {Q : Value → World → Prop} (hcf : ∀ w, (callFunc f caps).run Tryz.prog w = .ok (.enter f caps) w)
  (hC : Calls Tryz.prog f caps (w.alloc (.cells #[.nilIface] 36)) fun e w' => w'.heap[w.heap.size]? = some (.cells #[.nilIface] 36 (0, 0)) ∧ ((∃ v, e = .returned v ∧ v.oneCell' = true ∧ Q v (w'.setCell ⟨w.heap.size, 0, none⟩ v)) ∨ (∃ g, e = .panicked [{ v := .iface 258 (.pointer (some ⟨g, 0, none⟩)), recovered := false }] ∧ GOk w' ∧ ∀ w1, Fr (fun _ => False) w' w1 → Q (trV g) (w1.setCell ⟨w.heap.size, 0, none⟩ (trV g))))) :
  Calls Tryz.prog 92 #[.func (.func f) #[] caps] w fun e w' => ∃ v, e = .returned v ∧ Q v w' := by
 have hmf : ∀ (fn : Fn) (first cap : Array Value) (w : World), (Instr.makeFunc fn first cap).run Tryz.prog w = .ok (.func fn first cap) w := fun _ _ _ _ => rfl
 go_enter_defers Tryz.func92, Tryz.ntmps92
 go_wp2_with fail
 refine hC.mono ?_
 rintro e w2 ⟨hE, ⟨v, rfl, hv, hQ⟩ | ⟨g, rfl, hG, hQ⟩⟩
 ·have cE : w2.cell? ⟨w.heap.size, 0, none⟩ = some .nilIface := by rw [cell_of_row w2 w.heap.size 0 _ _ _ hE]; rfl
  have fE : w2.frozen? ⟨w.heap.size, 0, none⟩ = false := frozen_of_row w2 w.heap.size 0 _ _ hE
  have hst := run_storeAt_one (P := Tryz.prog) (w := w2) (a := ⟨w.heap.size, 0, none⟩) (t := 36) (v := v) cE fE (by kernel_rfl) hv
  go_wp2_with (first | (refine wpList_store 36 (w' := w2.setCell ⟨w.heap.size, 0, none⟩ v) _ _ rfl rfl ?_ ?_; exact hst))
  refine leaves_cons (f := 139) (args := #[.pointer (some ⟨w.heap.size, 0, none⟩)]) (by simp) (by simp [go_sem]) ?_
  refine (Try1_idle ⟨w.heap.size, 0, none⟩ _).mono ?_
  rintro e u' w'' ⟨rfl, rfl, rfl⟩
  have cE' : (w2.setCell ⟨w.heap.size, 0, none⟩ v).cell? ⟨w.heap.size, 0, none⟩ = some v := World.cell?_setCell_same _ _ _ cE
  simp [Leaves, settle, results, Tryz.results92, go_sem, cE']
  exact hQ
 ·have cE : w2.cell? ⟨w.heap.size, 0, none⟩ = some .nilIface := by rw [cell_of_row w2 w.heap.size 0 _ _ _ hE]; rfl
  have fE : w2.frozen? ⟨w.heap.size, 0, none⟩ = false := frozen_of_row w2 w.heap.size 0 _ _ hE
  refine leaves_cons (f := 139) (args := #[.pointer (some ⟨w.heap.size, 0, none⟩)]) (by simp) (by simp [go_sem]) ?_
  refine (Try1_panics ⟨w.heap.size, 0, none⟩ .nilIface g [] w2 hG cE fE).mono ?_
  rintro e u' w'' ⟨rfl, rfl, w1, hf1, rfl⟩
  have cE' : (w1.setCell ⟨w.heap.size, 0, none⟩ (.iface 258 (.pointer (some ⟨g, 0, none⟩)))).cell? ⟨w.heap.size, 0, none⟩ = some (.iface 258 (.pointer (some ⟨g, 0, none⟩))) := World.cell?_setCell_same _ _ _ (hf1.cell cE (fun h => h))
  simp [Leaves, settle, results, Tryz.results92, go_sem, cE']
  exact hQ w1 hf1
end Go.Proofs.YteebjgfalllbjaaGreatDoor
namespace Go.Proofs.YteebjgfalllbjaaGreatDoor
open Go.RowKit
theorem own_tyZ {w : World} {base e size n : Nat} {v : Value} {xs : List Value} (h : w.ownsRow base e size v n xs) {b : Nat} (hb : v.ownBlock = some b) : ∃ cs, w.heap[b]? = some (.cells cs e (0, 0)) := by
 rcases h.2 with ⟨rfl, _⟩ | ⟨g, cap, cur, rfl, _, hg, _⟩
 ·cases hb
 ·simp only [Value.ownBlock, Option.some.injEq] at hb
  subst hb
  exact ⟨cur, hg⟩
def DP.good (d : DP) : Prop := d.off < 0 ∧ d.hi ≤ d.lo
theorem DP.good.bad {d : DP} (h : d.good) : d.bad = false := by
 cases hb : d.bad with
 | false => rfl
 | true =>
  rw [DP.bad_iff] at hb
  have := h.1; have := h.2
  omega
structure DS where
 d : DP
 ents : List (Nat × List Value)
 bs : List Value
def DS.fail (s : DS) : DS := ⟨s.d.next, s.ents, s.bs⟩
def DS.store (s : DS) (i : Nat) (b : List Value) : Bool × DS := if s.d.bad = true then (false, s.fail) else (true, ⟨s.d.next.wrote, s.ents ++ [(i, b)], s.bs⟩)
def DS.secure (s : DS) : Bool × DS := if s.d.bad = true then (false, s.fail) else (true, ⟨s.d.next, [], lain s.bs s.ents⟩)
def DS.put (s : DS) (i : Nat) (b : List Value) : Bool × DS := if (s.store i b).1 = true then (s.store i b).2.secure else (false, (s.store i b).2)
structure DSAt (w : World) (A B n base : Nat) (cache : Value) (s : DS) : Prop where
 d : DkAt w A B n cache s.d
 r : RowsAt w B s.d.cap s.bs
 q : EnqAt w base s.ents.length n cache s.ents
 b : base ≤ w.heap.size
 c : n ≤ s.d.cap
def ItH (i : Nat) : Prop := ∀ W, GOk W → Calls Tryz.prog 143 #[.int .i64 i] W fun e w' => (∃ s, e = .returned (.string s) ∧ s.size ≤ 100) ∧ Fr (fun _ => False) W w'
theorem itH_small {i : Nat} (h : i < 100) : ItH i := fun W _ => (Itoa_small i h W).mono fun _ _ ⟨h1, h2⟩ => ⟨h1, by rw [h2]; exact Fr.refl _ _⟩
def Thrown (g : Nat) : Ending := .panicked [{ v := .iface 258 (.pointer (some ⟨g, 0, none⟩)), recovered := false }]
def DkF (A B : Nat) (cache : Value) (b : Nat) : Prop := b = A ∨ b = B ∨ cache.ownBlock = some b
section
variable {w w' : World} {V A B n base : Nat} {cache : Value} {s : DS}
theorem DSAt.ne (h : DSAt w A B n base cache s) : A ≠ B ∧ cache.ownBlock ≠ some A ∧ cache.ownBlock ≠ some B := by
 refine ⟨?_, ?_, ?_⟩
 ·intro e; have h1 := h.d; rw [e] at h1; have := h1.symm.trans h.r.1; simp at this
 ·intro e
  obtain ⟨c, hc⟩ := own_tyZ h.q.o e
  have := h.d.symm.trans hc; simp at this
 ·intro e
  obtain ⟨c, hc⟩ := own_tyZ h.q.o e
  have := h.r.1.symm.trans hc; simp at this
theorem DSAt.fr {S : Nat → Prop} (h : DSAt w A B n base cache s) (hf : Fr S w w') (hS : ∀ b, DkF A B cache b → ¬ S b) : DSAt w' A B n base cache s :=
 ⟨h.d.fr hf (hS _ (.inl rfl)), ⟨hf.keep h.r.1 (hS _ (.inr (.inl rfl))), h.r.2⟩, h.q.fr hf (fun b _ _ hb => hS b (.inr (.inr hb))), Nat.le_trans h.b hf.size, h.c⟩
theorem DSAt.frz (h : DSAt w A B n base cache s) (hf : Fr (fun _ => False) w w') : DSAt w' A B n base cache s := h.fr hf (fun _ _ h => h)
theorem DSAt.failed (h : DSAt w A B n base cache s) (hd : DkAt w' A B n cache s.d.next) (hf : Fr (· = A) w w') : DSAt w' A B n base cache s.fail :=
 ⟨hd, ⟨hf.keep h.r.1 (fun e => h.ne.1 e.symm), h.r.2⟩, h.q.fr hf (fun b c hb _ e => by rw [e, h.d] at hb; simp at hb), Nat.le_trans h.b hf.size, h.c⟩
theorem flat_snoc (ents : List (Nat × List Value)) (i : Nat) (b : List Value) : flat (ents ++ [(i, b)]) = flat ents ++ (.int .i64 i :: b) := by simp [flat]
theorem Store_ds (hv : VolAt w V A n) (h : DSAt w A B n base cache s) (ho : s.d.Ok) (hl : s.ents.length < 900000) (i : Nat) (hi : i < n) (data : List Value) (hdl : data.length = 128) (hone : ∀ v ∈ data, v.oneCell' = true) (HI : ItH i) (hG : GOk w) (hgA : 0 ≠ A) :
  Calls Tryz.prog 94 #[.pointer (some ⟨V, 0, none⟩), .int .i64 i, .agg data.toArray] w fun e w' => ∃ cache', DSAt w' A B n base cache' (s.store i data).2 ∧ CB w cache cache' ∧ Fr (DkF A B cache) w w' ∧ (if (s.store i data).1 = true then e = .returned (.tuple #[]) else ∃ g, e = Thrown g ∧ TrAt w' g) := by
 by_cases hb : s.d.bad = true
 ·refine (Store_bad hv h.d ho hb i data (fun W hf => HI W (hG.fr hf hgA))).mono ?_
  rintro e w' ⟨g, rfl, ht, hd, hf⟩
  unfold DS.store
  rw [if_pos hb]
  exact ⟨cache, h.failed hd hf, fun b hb => .inl hb, hf.mono (fun _ _ h => .inl h), g, rfl, ht⟩
 ·have hb' : s.d.bad = false := by simpa using hb
  refine (Store_good hv h.d ho hb' h.q.o (by omega) h.b i hi data hdl hone).mono ?_
  rintro e w' ⟨rfl, cache', hd, hown, hcb, hf⟩
  unfold DS.store
  rw [if_neg hb]
  refine ⟨cache', ⟨hd, ⟨hf.keep h.r.1 ?_, h.r.2⟩, ⟨?_, ?_, ?_, ?_, ?_⟩, Nat.le_trans h.b hf.size, h.c⟩, hcb, hf.mono (fun b _ h => by rcases h with h | h; exact .inl h; exact .inr (.inr h)), rfl⟩
  ·rintro (e | e)
   ·exact h.ne.1 e.symm
   ·exact h.ne.2.2 e
  ·rw [List.length_append, List.length_singleton, flat_snoc]; exact hown
  ·rw [List.length_append, List.length_singleton]; omega
  ·intro p hp
   rcases List.mem_append.1 hp with hp | hp
   ·exact h.q.l p hp
   ·rw [List.mem_singleton.1 hp]; exact hdl
  ·intro p hp
   rcases List.mem_append.1 hp with hp | hp
   ·exact h.q.one p hp
   ·rw [List.mem_singleton.1 hp]; exact hone
  ·intro p hp
   rcases List.mem_append.1 hp with hp | hp
   ·exact h.q.n p hp
   ·rw [List.mem_singleton.1 hp]; exact hi
theorem Secure_ds (hv : VolAt w V A n) (h : DSAt w A B n base cache s) (ho : s.d.Ok) (hne : 0 < s.ents.length) :
  Calls Tryz.prog 95 #[.pointer (some ⟨V, 0, none⟩)] w fun e w' => ∃ cache', DSAt w' A B n base cache' s.secure.2 ∧ CB w cache cache' ∧ Fr (DkF A B cache) w w' ∧ (if s.secure.1 = true then e = .returned (.tuple #[]) else ∃ g, e = Thrown g ∧ TrAt w' g) := by
 by_cases hb : s.d.bad = true
 ·refine (Secure_bad hv h.d ho hb).mono ?_
  rintro e w' ⟨g, rfl, ht, hd, hf⟩
  unfold DS.secure
  rw [if_pos hb]
  exact ⟨cache, h.failed hd hf, fun b hb => .inl hb, hf.mono (fun _ _ h => .inl h), g, rfl, ht⟩
 ·have hb' : s.d.bad = false := by simpa using hb
  refine (Secure_good hv h.d h.c h.r ho hb' h.q.o h.q.k hne h.q.l h.q.one h.q.n).mono ?_
  rintro e w' ⟨rfl, hd, hr, hf⟩
  unfold DS.secure
  rw [if_neg hb]
  exact ⟨.slice none 0 0, ⟨hd, hr, ⟨World.ownsRow_nil _ _ _ _, by show (0 : Nat) < _; omega, (fun p hp => absurd hp (by simp)), (fun p hp => absurd hp (by simp)), (fun p hp => absurd hp (by simp))⟩, Nat.le_trans h.b hf.size, h.c⟩, fun b hb => by simp [Value.ownBlock] at hb, hf.mono (fun b _ h => by rcases h with h | h; exact .inl h; exact .inr (.inl h)), rfl⟩
theorem Load_ds (hv : VolAt w V A n) (h : DSAt w A B n base cache s) (ho : s.d.Ok) (i : Nat) (hi : i < n) (HI : ¬ s.d.good → ItH i) (hG : GOk w) (hgA : 0 ≠ A) :
  Calls Tryz.prog 112 #[.pointer (some ⟨V, 0, none⟩), .int .i64 i] w fun e w' => DSAt w' A B n base cache s.fail ∧ Fr (· = A) w w' ∧ (if s.d.bad = true then ∃ g, e = Thrown g ∧ TrAt w' g else e = .returned (.agg (blkOf (lain s.bs s.ents) i).toArray)) := by
 by_cases hb : s.d.bad = true
 ·refine (Load_bad hv h.d ho hb i (fun W hf => HI (fun hg => by rw [hg.bad] at hb; cases hb) W (hG.fr hf hgA))).mono ?_
  rintro e w' ⟨g, rfl, ht, hd, hf⟩
  rw [if_pos hb]
  exact ⟨h.failed hd hf, hf, g, rfl, ht⟩
 ·have hb' : s.d.bad = false := by simpa using hb
  refine (Load_good hv h.d ho hb' h.c h.r h.q i hi).mono ?_
  rintro e w' ⟨rfl, hd, hf⟩
  rw [if_neg hb]
  exact ⟨h.failed hd hf, hf, rfl⟩
end
end Go.Proofs.YteebjgfalllbjaaGreatDoor
