import Derived.WalkKit
import Derived.Deep.MidRow
import Derived.Laws.CopyOwn
import Derived.Deep.WholeRow
import Derived.Deep.AppendLies
import Derived.Deep.DeepCutAuto
import Derived.Test.YteebjgfalllbjaaGreatDoorProg
import Derived.WalkSpells
import Derived.BigQuiet
import Derived.Laws.StructEq
namespace Go.Proofs.YteebjgfalllbjaaGreatDoor
open Go.RowKit

/-- What a piece of work leaves: no block but those of S has turned among those that were there. -/
structure Fr (S : Nat → Prop) (w w' : World) : Prop where
  os : w'.os = w.os
  tape : w'.tape = w.tape
  output : w'.output = w.output
  size : w.heap.size ≤ w'.heap.size
  block : ∀ k, k < w.heap.size → ¬ S k → w'.heap[k]? = w.heap[k]?

theorem Fr.refl (S : Nat → Prop) (w : World) : Fr S w w := ⟨rfl, rfl, rfl, Nat.le_refl _, fun _ _ _ => rfl⟩
theorem Fr.trans {S S2 : Nat → Prop} {a b c : World} (h : Fr S a b) (k : Fr S2 b c) (hs : ∀ k, k < a.heap.size → S2 k → S k) : Fr S a c :=
  ⟨k.os.trans h.os, k.tape.trans h.tape, k.output.trans h.output, Nat.le_trans h.size k.size,
    fun i hi hn => (k.block i (Nat.lt_of_lt_of_le hi h.size) (fun h2 => hn (hs i hi h2))).trans (h.block i hi hn)⟩
theorem Fr.mono {S S2 : Nat → Prop} {a b : World} (h : Fr S a b) (hs : ∀ k, k < a.heap.size → S k → S2 k) : Fr S2 a b :=
  ⟨h.os, h.tape, h.output, h.size, fun i hi hn => h.block i hi (fun h2 => hn (hs i hi h2))⟩
theorem Fr.drew {S : Nat → Prop} {a b : World} (h : Fr S a b) : Fr S a b.drew := ⟨h.os, h.tape, h.output, h.size, h.block⟩
theorem Fr.alloc {S : Nat → Prop} {a b : World} (h : Fr S a b) (o : Obj) : Fr S a (b.alloc o) :=
  ⟨h.os, h.tape, h.output, Nat.le_trans h.size (by simp), fun i hi hn => (Below.heap_alloc _ _ _ (Nat.lt_of_lt_of_le hi h.size)).trans (h.block i hi hn)⟩
theorem Fr.set1 (w : World) (A i : Nat) (v : Value) : Fr (· = A) w (w.setCell ⟨A, i, none⟩ v) :=
  ⟨rfl, rfl, rfl, by simp [World.setCell], fun k _ hn => Below.heap_setCell _ _ _ _ hn⟩
theorem Fr.setCell {S : Nat → Prop} {a b : World} (h : Fr S a b) (p : Addr) (hp : p.block < a.heap.size → S p.block) (u : Value) : Fr S a (b.setCell p u) :=
  ⟨h.os, h.tape, h.output, Nat.le_trans h.size (by simp [World.setCell]), fun i hi hn => (Below.heap_setCell _ _ _ _ (fun e => hn (by subst e; exact hp hi))).trans (h.block i hi hn)⟩
theorem Fr.grown {S : Nat → Prop} {a b c : World} {row : Option Nat} (h : Fr S a b) (hg : b.grownBy c row) (hr : ∀ k, k < a.heap.size → row = some k → S k) : Fr S a c :=
  ⟨hg.os.trans h.os, hg.tape.trans h.tape, hg.output.trans h.output, Nat.le_trans h.size hg.size,
    fun i hi hn => (hg.block i (Nat.lt_of_lt_of_le hi h.size) (fun e => hn (hr i hi e.symm))).trans (h.block i hi hn)⟩
theorem Fr.below {S : Nat → Prop} {B : Nat} {a b : World} (h : Fr S a b) (hb : B ≤ a.heap.size) (hs : ∀ k, S k → B ≤ k) : Below B a b :=
  ⟨h.os, h.tape, h.output, h.size, fun k hk => h.block k (by omega) (fun h2 => by have := hs k h2; omega)⟩
theorem Fr.keep {S : Nat → Prop} {a b : World} (h : Fr S a b) {k : Nat} {o : Obj} (ho : a.heap[k]? = some o) (hn : ¬ S k) : b.heap[k]? = some o := by
  rw [h.block k (Array.getElem?_eq_some_iff.1 ho).1 hn]; exact ho
theorem Fr.cell {S : Nat → Prop} {a b : World} (h : Fr S a b) {p : Addr} {v : Value} (hc : a.cell? p = some v) (hn : ¬ S p.block) : b.cell? p = some v := by
  rw [World.cell?_of_block (w := a) (h.block p.block (World.block_lt_of_cell? a _ hc) hn)]; exact hc
theorem lt_of_heap {w : World} {k : Nat} {o : Obj} (h : w.heap[k]? = some o) : k < w.heap.size := (Array.getElem?_eq_some_iff.1 h).1

/-- A block's cells behind a store into it. -/
theorem heap_setCell_at (w : World) (g i : Nat) (cs : Array Value) (t : TypeId) (v : Value) (hg : w.heap[g]? = some (.cells cs t (0, 0))) :
    (w.setCell ⟨g, i, none⟩ v).heap[g]? = some (.cells (cs.setIfInBounds i v) t (0, 0)) := by
  simp only [World.setCell, Array.getElem?_modify, if_true, hg, Option.map_some, Option.isSome_none, Bool.false_eq_true, if_false]
theorem heap_setCell_ne (w : World) (a : Addr) (k : Nat) (v : Value) (h : k ≠ a.block) : (w.setCell a v).heap[k]? = w.heap[k]? := Below.heap_setCell w a v k h
theorem heap_drew' (w : World) (k : Nat) : w.drew.heap[k]? = w.heap[k]? := rfl
theorem heap_alloc_at (w : World) (o : Obj) : (w.alloc o).heap[w.heap.size]? = some o := heap_alloc_new w o
theorem heap_alloc_lt (w : World) (o : Obj) (k : Nat) (h : k < w.heap.size) : (w.alloc o).heap[k]? = w.heap[k]? := Below.heap_alloc w o k h
section
variable {P : Program} {ops : Array Oper} {rest : List Oper} {op : Oper} {a : Act} {w w' : World} {Q : Exit → Act → World → Prop} {v : Value}
/-- An operation whose run is known. -/
theorem wpList_value (hgd : op.guard = none) (hr : (execOp a.eval op).run P w = .ok (.value v) w') (h : wpList P ops Q rest (a.put op.dst v) w') : wpList P ops Q (op :: rest) a w :=
  wpList_plain hgd fun _ hK => by unfold Oper.wp; rw [hr]; exact hK _ _ h
theorem wpList_makeSlice (t : TypeId) (l c : Operand) (ho : op.op = .makeSlice t l c) (hgd : op.guard = none) (hr : (Instr.makeSlice t (a.eval l) (a.eval c)).run P w = .ok v w')
    (h : wpList P ops Q rest (a.put op.dst v) w') : wpList P ops Q (op :: rest) a w :=
  wpList_value hgd (by simp only [execOp, ho, Sem.run_bind, hr, Result.andThen_ok, Sem.run_pure]) h
theorem wpList_alloc (t : TypeId) (ho : op.op = .alloc t) (hgd : op.guard = none) (hr : (Instr.alloc t true (.tuple #[])).run P w = .ok v w')
    (h : wpList P ops Q rest (a.put op.dst v) w') : wpList P ops Q (op :: rest) a w :=
  wpList_value hgd (by simp only [execOp, ho, Sem.run_bind, hr, Result.andThen_ok, Sem.run_pure]) h
theorem wpList_store (t : TypeId) (x y : Operand) (ho : op.op = .store t x y) (hgd : op.guard = none) (hr : (Instr.storeAt t (a.eval x) (a.eval y)).run P w = .ok () w')
    (h : wpList P ops Q rest (a.put op.dst undef) w') : wpList P ops Q (op :: rest) a w :=
  wpList_plain hgd fun _ hK => by
    unfold Oper.wp
    simp only [execOp, ho, Sem.run_bind, hr, Result.andThen_ok, Sem.run_pure]
    exact hK _ _ h
theorem wpList_buildOf (t : TypeId) (ps : Array (Nat × Operand)) (ho : op.op = .build t ps) (hgd : op.guard = none) (vs : Array (Nat × Value)) (hvs : (ps.map fun (i, x) => (i, a.eval x)) = vs) (hr : (Instr.build t vs).run P w = .ok v w')
    (h : wpList P ops Q rest (a.put op.dst v) w') : wpList P ops Q (op :: rest) a w :=
  wpList_value hgd (by simp only [execOp, ho, hvs, Sem.run_bind, hr, Result.andThen_ok, Sem.run_pure]) h
theorem wpOp_value {i : Nat} {o : Oper} {K : Act → World → Prop} (hi : ops[i]? = some o) (hgd : o.guard = none) (hr : (execOp a.eval o).run P w = .ok (.value v) w') (h : K (a.put o.dst v) w') : wpOp P ops Q i K a w := by
  unfold wpOp
  have hw : Region.wanted o (yielded ops a.tmps) = true := by simp [Region.wanted, hgd]
  simp only [hi, hw, if_true, Oper.wp, hr, Oper.upon]
  exact .inl h
theorem wpOp_of_wp {i : Nat} {o : Oper} {K : Act → World → Prop} (hi : ops[i]? = some o) (hgd : o.guard = none) (h : Oper.wp P o a w K Q) : wpOp P ops Q i K a w := by
  unfold wpOp
  have hw : Region.wanted o (yielded ops a.tmps) = true := by simp [Region.wanted, hgd]
  simp only [hi, hw, if_true]
  exact .inl h
theorem wpOp_call {i : Nat} {o : Oper} {K : Act → World → Prop} {f : FuncId} {args : Array Value} (hi : ops[i]? = some o) (hgd : o.guard = none) (hr : (execOp a.eval o).run P w = .ok (.enter f args) w)
    (h : Calls P f args w fun e w2 => ∃ v, e = .returned v ∧ K (a.put o.dst v) w2) : wpOp P ops Q i K a w := by
  unfold wpOp
  have hw : Region.wanted o (yielded ops a.tmps) = true := by simp [Region.wanted, hgd]
  simp only [hi, hw, if_true, Oper.wp, hr, Oper.upon]
  refine .inl (h.mono fun e w2 he => ?_)
  obtain ⟨v, rfl, hk⟩ := he
  exact hk
theorem wpOp_skip {i : Nat} {o : Oper} {K : Act → World → Prop} (hi : ops[i]? = some o) (hgd : o.guard = none) (hr : (execOp a.eval o).run P w = .ok .skip w') (h : K (a.put o.dst undef) w') : wpOp P ops Q i K a w := by
  unfold wpOp
  have hw : Region.wanted o (yielded ops a.tmps) = true := by simp [Region.wanted, hgd]
  simp only [hi, hw, if_true, Oper.wp, hr, Oper.upon]
  exact .inl h
theorem wpList_box (t : TypeId) (x : Operand) (ho : op.op = .box t x) (hgd : op.guard = none) (hr : (Instr.box t (a.eval x)).run P w = .ok v w')
    (h : wpList P ops Q rest (a.put op.dst v) w') : wpList P ops Q (op :: rest) a w :=
  wpList_value hgd (by simp only [execOp, ho, Sem.run_bind, hr, Result.andThen_ok, Sem.run_pure]) h
theorem wpList_sliceAt (t : TypeId) (x : Operand) (lo hi mx : Option Operand) (ho : op.op = .slice t x lo hi mx) (hgd : op.guard = none) (hr : (Instr.sliceAt t (a.eval x) (lo.map a.eval) (hi.map a.eval) (mx.map a.eval)).run P w = .ok v w')
    (h : wpList P ops Q rest (a.put op.dst v) w') : wpList P ops Q (op :: rest) a w :=
  wpList_value hgd (by simp only [execOp, ho, Sem.run_bind, hr, Result.andThen_ok, Sem.run_pure]) h
/-- copy into a row that is known whole; the world behind it a letter. -/
theorem wpList_copy_to (hgd : op.guard = none) (d s : Operand) (dT sT : TypeId)
    (ho : op.op = .call { callee := .builtin .copy, args := #[d, s], argTypes := #[dT, sT] }) (elem : TypeId) (hu : P.underlying dT = some (.slice elem)) (hsz : (P.info? elem).map (·.size) = some 1)
    (g off dLen dCap : Nat) (ad : Addr) (sLen sCap : Nat) (hd : a.eval d = .slice (some ⟨g, off, none⟩) dLen dCap) (hs : a.eval s = .slice (some ad) sLen sCap)
    (cur : Array Value) (t : TypeId) (hg : w.heap[g]? = some (.cells cur t (0, 0))) (cs : List Value) (hn : cs.length = Nat.min sLen dLen)
    (hsrc : ∀ j v, cs[j]? = some v → w.cell? (ad.add j) = some v) (hfit : off + cs.length ≤ cur.size) (h1 : ∀ v ∈ cs, v.oneCell' = true)
    (new : List Value) (hnew : cur.toList.take off ++ (cs ++ cur.toList.drop (off + cs.length)) = new)
    (h : ∀ w2, Hid (w2 = w.setRow g new.toArray) → wpList P ops Q rest (a.put op.dst (goInt cs.length)) w2) : wpList P ops Q (op :: rest) a w :=
  wpList_copy_own hgd d s dT sT ho elem hu hsz g off dLen dCap ad sLen sCap hd hs cur t hg cs hn hsrc hfit h1 (by rw [hnew]; exact h _ rfl)
end
theorem Fr.setRow {S : Nat → Prop} {a b : World} (h : Fr S a b) (g : Nat) (hp : g < a.heap.size → S g) (cs : Array Value) : Fr S a (b.setRow g cs) :=
  ⟨h.os, h.tape, h.output, Nat.le_trans h.size (by simp), fun i hi hn => (setRow_other b g i cs (fun e => hn (by subst e; exact hp hi))).trans (h.block i hi hn)⟩
/-- The cells of a row from an offset on. -/
theorem src_of_row {w : World} {b : Nat} {bs : List Value} {t : TypeId} {fr : Nat × Nat} (hb : w.heap[b]? = some (.cells bs.toArray t fr)) (o n : Nat) :
    ∀ j v, ((bs.drop o).take n)[j]? = some v → w.cell? ((⟨b, o, none⟩ : Addr).add j) = some v := by
  intro j v hv
  rw [Addr.add_mid, cell_of_row w b (o + j) _ t fr hb]
  rw [List.getElem?_take] at hv
  split at hv
  · rw [List.getElem?_drop] at hv; simpa using hv
  · cases hv
end Go.Proofs.YteebjgfalllbjaaGreatDoor
namespace Go.Proofs.YteebjgfalllbjaaGreatDoor
open Go.RowKit

/-- A goal that is not looked into. -/
structure Bx (p : Prop) : Prop where
  out : p
section
variable {P : Program} {ops : Array Oper} {w : World} {Q : Act → Prop} {a : Act} {o : Oper} {rest : List Oper}
theorem bx_step (h : ∀ K : Act → Prop, (∀ a, Bx (wpStill P ops w Q rest a) → K a) → if Region.wanted o (yielded ops a.tmps) then o.still P a w K else K (a.put o.dst undef)) : Bx (wpStill P ops w Q (o :: rest) a) :=
  ⟨wpStill_step (fun K hK => h K (fun a ha => hK a ha.out))⟩
theorem bx_nil (h : Q a) : Bx (wpStill P ops w Q [] a) := ⟨wpStill_nil h⟩
end

/-- Rows of some cells each, as they lie behind a slice. -/
def RowsOf (w : World) (ao : Option Addr) (size : Nat) (l : List (List Value)) : Prop := ∀ i cs, l[i]? = some cs → ∃ g off, ao = some ⟨g, off, none⟩ ∧ w.rangeAt g (off + i * size) cs
theorem RowsOf.frz {w w' : World} {ao : Option Addr} {size : Nat} {l : List (List Value)} (h : RowsOf w ao size l) (hf : Fr (fun _ => False) w w') : RowsOf w' ao size l := by
  intro i cs hi
  obtain ⟨g, off, e, hr⟩ := h i cs hi
  exact ⟨g, off, e, fun j v hv => hf.cell (hr j v hv) id⟩

/-- A step, and its cells. -/
abbrev SS := ByteArray × ByteArray
def stv (p : SS) : List Value := [.string p.1, .string p.2]
/-- Where a saga stands. -/
abbrev SP := Int × Int
def spv (p : SP) : List Value := [.int .i64 p.1, .int .i64 p.2]
/-- A saga of the document's answer. -/
structure RS where
  id : Int
  sa : Option Addr
  sc : Nat
  st : List SS
  S : SP
  tries : Int
  due : Int
  ma : Option Addr
  mc : Nat
  may : List SP
def RS.cs (r : RS) : List Value := [.int .i64 r.id, .slice r.sa r.st.length r.sc, .int .i64 r.S.1, .int .i64 r.S.2, .int .i64 r.tries, .int .i64 r.due, .slice r.ma r.may.length r.mc]
/-- The sagas behind a slice, with what they point to. -/
structure SagasAt (w : World) (ao : Option Addr) (L : List RS) : Prop where
  r : RowsOf w ao 7 (L.map RS.cs)
  s : ∀ r ∈ L, RowsOf w r.sa 2 (r.st.map stv)
  m : ∀ r ∈ L, RowsOf w r.ma 2 (r.may.map spv)
  n : ∀ r ∈ L, r.st.length ≤ 1000000
theorem SagasAt.frz {w w' : World} {ao : Option Addr} {L : List RS} (h : SagasAt w ao L) (hf : Fr (fun _ => False) w w') : SagasAt w' ao L :=
  ⟨h.r.frz hf, fun r hr => (h.s r hr).frz hf, fun r hr => (h.m r hr).frz hf, h.n⟩
theorem SagasAt.get {w : World} {ao : Option Addr} {L : List RS} (h : SagasAt w ao L) {i : Nat} {r : RS} (hi : L[i]? = some r) : ∃ g off, ao = some ⟨g, off, none⟩ ∧ w.rangeAt g (off + i * 7) r.cs :=
  h.r i r.cs (by simp [hi])


set_option maxRecDepth 100000 in
set_option maxHeartbeats 1000000 in
theorem Has_ok {w : World} {ao : Option Addr} {cap : Nat} {l : List SP} (hl : RowsOf w ao 2 (l.map spv)) (hn : l.length ≤ 1000000) (s : SP) :
    Calls Tryz.prog 119 #[.slice ao l.length cap, .agg #[.int .i64 s.1, .int .i64 s.2]] w fun e w' => e = .returned (.bool (decide (s ∈ l))) ∧ Fr (fun _ => False) w w' := by
  obtain ⟨s1, s2⟩ := s
  have HL : Hid (RowsOf w ao 2 (l.map spv)) := hl
  have HW : Hid (Fr (fun _ => False) w (w.alloc (.cells #[.int .i64 s1, .int .i64 s2] 220))) := (Fr.refl _ _).alloc _
  clear hl
  go_enter Tryz.func119, Tryz.ntmps119
  go_wp2
  go_loopw [5] (fun c wr => ∃ i : Nat, i ≤ l.length ∧ c = .int .i64 i ∧ Hid (Fr (fun _ => False) (w.alloc (.cells #[.int .i64 s1, .int .i64 s2] 220)) wr) ∧ Hid ((s1, s2) ∉ l.take i)) (fun c _ => l.length - (intOf c).toNat)
  case atStart => exact ⟨0, Nat.zero_le _, rfl, Fr.refl _ _, (by simp : (s1, s2) ∉ l.take 0)⟩
  case round =>
    obtain ⟨i, hi, rfl, HR, HT⟩ := hrel
    by_cases hlt : i < l.length
    · have hlt' : (i : Int) < l.length := by omega
      obtain ⟨p, hp⟩ : ∃ p, l[i]? = some p := ⟨_, List.getElem?_eq_getElem hlt⟩
      obtain ⟨g, off, rfl, hr⟩ := HL.out i (spv p) (by simp [hp])
      obtain ⟨p1, p2⟩ := p
      have c0 : wr.cell? ⟨g, off + i * 2, none⟩ = some (.int .i64 p1) := HR.out.cell (HW.out.cell (hr 0 _ rfl) id) id
      have c1 : wr.cell? ⟨g, off + i * 2 + 1, none⟩ = some (.int .i64 p2) := HR.out.cell (HW.out.cell (hr 1 _ rfl) id) id
      have hb := HR.out.keep (heap_alloc_at w _) id
      have b0 : wr.cell? ⟨w.heap.size, 0, none⟩ = some (.int .i64 s1) := by rw [cell_of_row wr w.heap.size 0 _ _ _ hb]; rfl
      have b1 : wr.cell? ⟨w.heap.size, 1, none⟩ = some (.int .i64 s2) := by rw [cell_of_row wr w.heap.size 1 _ _ _ hb]; rfl
      clear hr hb
      have HP : Hid (l[i]? = some (p1, p2)) := hp
      clear hp
      have HX : Hid (¬ (p1 = s1 ∧ p2 = s2) → (s1, s2) ∉ l.take (i + 1)) := fun hne => by
        rw [List.take_add_one, HP.out]
        simp only [Option.toList_some, List.mem_append, List.mem_singleton, Prod.mk.injEq, not_or]
        exact ⟨HT.out, fun e => hne ⟨e.1.symm, e.2.symm⟩⟩
      by_cases e1 : p1 = s1
      · by_cases e2 : p2 = s2
        · go_wp2
          go_still (by kernel_rfl)
          go_wp2
          go_ret
          refine ⟨?_, (HW.out.trans HR.out (fun _ _ h => h)).drew⟩
          have : (s1, s2) ∈ l := by rw [← e1, ← e2]; exact List.mem_of_getElem? HP.out
          simp [this]
        · have HN : Hid ((s1, s2) ∉ l.take (i + 1)) := HX.out (fun h => e2 h.2)
          go_wp2
          go_still (by kernel_rfl)
          go_wp2
          go_roundw
          case rel => exact ⟨i + 1, by omega, by go_num, HR.out.drew, HN⟩
          case measure => simp [intOf]; omega
      · have HN : Hid ((s1, s2) ∉ l.take (i + 1)) := HX.out (fun h => e1 h.1)
        go_wp2
        go_still (by kernel_rfl)
        go_wp2
        go_roundw
        case rel => exact ⟨i + 1, by omega, by go_num, HR.out.drew, HN⟩
        case measure => simp [intOf]; omega
    · have hlt' : ¬ (i : Int) < l.length := by omega
      go_wp2
      go_ret
      refine ⟨?_, HW.out.trans HR.out (fun _ _ h => h)⟩
      have := HT.out
      rw [List.take_of_length_le (by omega)] at this
      simp [this]

def FindP (L : List RS) (id : Int) (k : Nat) (t : Bool) : Prop := k ≤ L.length ∧ (∀ j r, j < k → L[j]? = some r → r.id < id) ∧ (∀ r, L[k]? = some r → id ≤ r.id) ∧ (t = true ↔ ∃ r, L[k]? = some r ∧ r.id = id)
def FindQ (L : List RS) (id : Int) (w : World) (e : Ending) (w' : World) : Prop := ∃ k t, e = .returned (.tuple #[.int .i64 ((k : Nat) : Int), .bool t]) ∧ FindP L id k t ∧ Fr (fun _ => False) w w'
set_option maxRecDepth 100000 in
set_option maxHeartbeats 1000000 in
theorem rFind_ok {w : World} {ao : Option Addr} {cap : Nat} {L : List RS} (hl : RowsOf w ao 7 (L.map RS.cs)) (hn : L.length ≤ 1000000) (pa cl : Int) (f : Bool) (id : Int) :
    Calls Tryz.prog 121 #[.agg #[.int .i64 pa, .int .i64 cl, .bool f, .slice ao L.length cap], .int .i64 id] w fun e w' => FindQ L id w e w' := by
  have HL : Hid (RowsOf w ao 7 (L.map RS.cs)) := hl
  have HW : Hid (Fr (fun _ => False) w (w.alloc (.cells #[.int .i64 pa, .int .i64 cl, .bool f, .slice ao L.length cap] 109))) := (Fr.refl _ _).alloc _
  clear hl
  go_enter Tryz.func121, Tryz.ntmps121
  go_wp2
  go_loopw [6] (fun c wr => ∃ i : Nat, i ≤ L.length ∧ c = .int .i64 i ∧ Hid (Fr (fun _ => False) (w.alloc (.cells #[.int .i64 pa, .int .i64 cl, .bool f, .slice ao L.length cap] 109)) wr) ∧ Hid (∀ j r, j < i → L[j]? = some r → r.id < id)) (fun c _ => L.length - (intOf c).toNat)
  case atStart => exact ⟨0, Nat.zero_le _, rfl, Fr.refl _ _, (fun j _ hj => absurd hj (by omega) : ∀ j r, j < 0 → L[j]? = some r → r.id < id)⟩
  case round =>
    obtain ⟨i, hi, rfl, HR, HT⟩ := hrel
    have hb := HR.out.keep (heap_alloc_at w _) (fun h => h)
    have b3 : wr.cell? ⟨w.heap.size, 3, none⟩ = some (.slice ao L.length cap) := by rw [cell_of_row wr w.heap.size 3 _ _ _ hb]; rfl
    clear hb
    by_cases hlt : i < L.length
    · have hlt' : (i : Int) < L.length := by omega
      obtain ⟨r, hr⟩ : ∃ r, L[i]? = some r := ⟨_, List.getElem?_eq_getElem hlt⟩
      obtain ⟨g, off, rfl, hrg⟩ := HL.out i r.cs (by simp [hr])
      have c0 : wr.cell? ⟨g, off + i * 7, none⟩ = some (.int .i64 r.id) := HR.out.cell (HW.out.cell (hrg 0 _ rfl) (fun h => h)) (fun h => h)
      clear hrg
      have HP : Hid (L[i]? = some r) := hr
      clear hr
      obtain ⟨rid, hrid⟩ : ∃ z, r.id = z := ⟨_, rfl⟩
      have HID : Hid (r.id = rid) := hrid
      rw [hrid] at c0
      clear hrid
      by_cases e1 : id ≤ rid
      · have HQ : Hid (FindP L id i (rid == id)) := ⟨hi, HT.out, (fun r' h' => by rw [HP.out] at h'; cases h'; rw [HID.out]; exact e1), by simp [HP.out, HID.out]⟩
        go_wp2
        go_still (by kernel_rfl)
        go_wp2
        go_ret2
        exact ⟨i, (rid == id), rfl, HQ.out, (HW.out.trans HR.out (fun _ _ h => h)).drew⟩
      · have HN : Hid (∀ j r, j < i + 1 → L[j]? = some r → r.id < id) := fun j r' hj h' => by
          by_cases hji : j < i
          · exact HT.out j r' hji h'
          · obtain rfl : j = i := by omega
            rw [HP.out] at h'; cases h'; rw [HID.out]; omega
        go_wp2
        go_roundw
        case rel => exact ⟨i + 1, by omega, by go_num, HR, HN⟩
        case measure => simp [intOf]; omega
    · have hlt' : ¬ (i : Int) < L.length := by omega
      obtain rfl : i = L.length := by omega
      go_wp2
      go_ret2
      exact ⟨L.length, false, rfl, ⟨Nat.le_refl _, HT.out, (fun r' h' => by simp at h'), by simp⟩, HW.out.trans HR.out (fun _ _ h => h)⟩
end Go.Proofs.YteebjgfalllbjaaGreatDoor
namespace Go.Proofs.YteebjgfalllbjaaGreatDoor
open Go.RowKit

theorem str_eq {a b : ByteArray} (h : a = b) : (a.toList == b.toList) = true := by rw [h]; simp
theorem str_ne {a b : ByteArray} (h : ¬ a = b) : (a.toList == b.toList) = false := by
  rw [← beq_toListBytes]
  by_cases hb : (a == b) = true
  · exfalso; apply h; rw [beq_toListBytes, beq_iff_eq, ByteArray.toList_eq, ByteArray.toList_eq] at hb; exact ByteArray.ext (Array.ext' hb)
  · simpa using hb


set_option maxRecDepth 100000 in
set_option maxHeartbeats 2000000 in
theorem rSame_ok {w : World} {ao bo : Option Addr} {ca cb : Nat} {a b : List SS} (ha : RowsOf w ao 2 (a.map stv)) (hb : RowsOf w bo 2 (b.map stv)) (hn : a.length ≤ 1000000) :
    Calls Tryz.prog 122 #[.slice ao a.length ca, .slice bo b.length cb] w fun e w' => e = .returned (.bool (decide (a = b))) ∧ Fr (fun _ => False) w w' := by
  by_cases hlen : a.length = b.length
  · have HA : Hid (RowsOf w ao 2 (a.map stv)) := ha
    have HB : Hid (RowsOf w bo 2 (b.map stv)) := hb
    have HLEN : Hid (a.length = b.length) := hlen
    rw [← hlen]
    clear ha hb hlen
    go_enter Tryz.func122, Tryz.ntmps122
    go_wp2
    go_loopw [5] (fun c wr => ∃ i : Nat, i ≤ a.length ∧ c = .int .i64 i ∧ Hid (Fr (fun _ => False) w wr) ∧ Hid (a.take i = b.take i)) (fun c _ => a.length - (intOf c).toNat)
    case atStart => exact ⟨0, Nat.zero_le _, rfl, Fr.refl _ _, (by simp : a.take 0 = b.take 0)⟩
    case round =>
      obtain ⟨i, hi, rfl, HR, HT⟩ := hrel
      by_cases hlt : i < a.length
      · have hlt' : (i : Int) < a.length := by omega
        obtain ⟨p, hp⟩ : ∃ p, a[i]? = some p := ⟨_, List.getElem?_eq_getElem hlt⟩
        obtain ⟨q, hq⟩ : ∃ q, b[i]? = some q := ⟨_, List.getElem?_eq_getElem (by have := HLEN.out; omega)⟩
        obtain ⟨g, off, rfl, hr⟩ := HA.out i (stv p) (by simp [hp])
        obtain ⟨g2, off2, rfl, hr2⟩ := HB.out i (stv q) (by simp [hq])
        obtain ⟨p1, p2⟩ := p
        obtain ⟨q1, q2⟩ := q
        have c0 : wr.cell? ⟨g, off + i * 2, none⟩ = some (.string p1) := HR.out.cell (hr 0 _ rfl) (fun h => h)
        have c1 : wr.cell? ⟨g, off + i * 2 + 1, none⟩ = some (.string p2) := HR.out.cell (hr 1 _ rfl) (fun h => h)
        have d0 : wr.cell? ⟨g2, off2 + i * 2, none⟩ = some (.string q1) := HR.out.cell (hr2 0 _ rfl) (fun h => h)
        have d1 : wr.cell? ⟨g2, off2 + i * 2 + 1, none⟩ = some (.string q2) := HR.out.cell (hr2 1 _ rfl) (fun h => h)
        clear hr hr2
        have HP : Hid (a[i]? = some (p1, p2) ∧ b[i]? = some (q1, q2)) := ⟨hp, hq⟩
        clear hp hq
        by_cases e1 : p1 = q1
        · have s1 := str_eq e1
          by_cases e2 : p2 = q2
          · have s2 := str_eq e2
            have HN : Hid (a.take (i + 1) = b.take (i + 1)) := by
              show a.take (i + 1) = b.take (i + 1)
              rw [List.take_add_one, List.take_add_one, HP.out.1, HP.out.2, HT.out, e1, e2]
            go_wp2
            refine wp_region_still_lit (by kernel_rfl) (by kernel_rfl) (Bx.out ?_)
            repeat (refine bx_step (fun K hK => ?_); go_simp; refine hK _ ?_; clear hK K)
            refine bx_nil ?_
            go_wp2
            go_roundw
            case rel => exact ⟨i + 1, by omega, by go_num, HR.out.drew, HN⟩
            case measure => simp [intOf]; omega
          · have s2 := str_ne e2
            go_wp2
            refine wp_region_still_lit (by kernel_rfl) (by kernel_rfl) (Bx.out ?_)
            repeat (refine bx_step (fun K hK => ?_); go_simp; refine hK _ ?_; clear hK K)
            refine bx_nil ?_
            go_wp2
            go_ret
            refine ⟨?_, HR.out.drew⟩
            have : a ≠ b := fun h => by have := HP.out; rw [h] at this; rw [this.1] at this; simp at this; exact e2 this.2
            simp [this]
        · have s1 := str_ne e1
          go_wp2
          refine wp_region_still_lit (by kernel_rfl) (by kernel_rfl) (Bx.out ?_)
          repeat (refine bx_step (fun K hK => ?_); go_simp; refine hK _ ?_; clear hK K)
          refine bx_nil ?_
          go_wp2
          go_ret
          refine ⟨?_, HR.out.drew⟩
          have : a ≠ b := fun h => by have := HP.out; rw [h] at this; rw [this.1] at this; simp at this; exact e1 this.1
          simp [this]
      · have hlt' : ¬ (i : Int) < a.length := by omega
        go_wp2
        go_ret
        refine ⟨?_, HR.out⟩
        have := HT.out
        rw [List.take_of_length_le (by omega), List.take_of_length_le (by have := HLEN.out; omega)] at this
        simp [this]
  · have hlen' : ¬ (a.length : Int) = b.length := by omega
    have hne : a ≠ b := fun h => hlen (by rw [h])
    have HE : Hid (decide (a = b) = false) := by simp [Hid, hne]
    clear hne ha hb
    go_enter Tryz.func122, Tryz.ntmps122
    go_wp2
    go_ret
    exact ⟨by rw [HE.out]; rfl, Fr.refl _ _⟩

/-- Is it a saga? -/
def sagaOk (id : Int) (st : List SS) : Bool := decide (1 ≤ id ∧ id ≤ 1000 ∧ 1 ≤ st.length ∧ st.length ≤ 6 ∧ ∀ p ∈ st, p.1.size ≤ 8 ∧ p.2.size ≤ 8)
set_option maxRecDepth 100000 in
set_option maxHeartbeats 2000000 in
theorem rWhole_ok {w : World} {ao : Option Addr} {cap : Nat} {st : List SS} (hl : RowsOf w ao 2 (st.map stv)) (id : Int) :
    Calls Tryz.prog 157 #[.int .i64 id, .slice ao st.length cap] w fun e w' => e = .returned (.bool (sagaOk id st)) ∧ Fr (fun _ => False) w w' := by
  have HL : Hid (RowsOf w ao 2 (st.map stv)) := hl
  clear hl
  by_cases h1 : id < 1
  · have HE : Hid (sagaOk id st = false) := by simp [Hid, sagaOk]; omega
    go_enter Tryz.func157, Tryz.ntmps157
    go_wp2
    go_ret
    exact ⟨by rw [HE.out]; rfl, Fr.refl _ _⟩
  by_cases h2 : 1000 < id
  · have HE : Hid (sagaOk id st = false) := by simp [Hid, sagaOk]; omega
    go_enter Tryz.func157, Tryz.ntmps157
    go_wp2
    go_ret
    exact ⟨by rw [HE.out]; rfl, Fr.refl _ _⟩
  by_cases h3 : (st.length : Int) < 1
  · have HE : Hid (sagaOk id st = false) := by simp [Hid, sagaOk]; omega
    go_enter Tryz.func157, Tryz.ntmps157
    go_wp2
    go_ret
    exact ⟨by rw [HE.out]; rfl, Fr.refl _ _⟩
  by_cases h4 : (6 : Int) < st.length
  · have HE : Hid (sagaOk id st = false) := by simp [Hid, sagaOk]; omega
    go_enter Tryz.func157, Tryz.ntmps157
    go_wp2
    go_ret
    exact ⟨by rw [HE.out]; rfl, Fr.refl _ _⟩
  have HE : Hid ((∀ p ∈ st, p.1.size ≤ 8 ∧ p.2.size ≤ 8) → sagaOk id st = true) := fun h => by
    unfold sagaOk; exact decide_eq_true ⟨by omega, by omega, by omega, by omega, h⟩
  have HF : Hid (∀ p, p ∈ st → ¬ (p.1.size ≤ 8 ∧ p.2.size ≤ 8) → sagaOk id st = false) := fun p hp hq => by
    unfold sagaOk; exact decide_eq_false (fun h => hq (h.2.2.2.2 p hp))
  go_enter Tryz.func157, Tryz.ntmps157
  go_wp2
  go_loopw [5] (fun c wr => ∃ i : Nat, i ≤ st.length ∧ c = .int .i64 i ∧ Hid (Fr (fun _ => False) w wr) ∧ Hid (∀ p ∈ st.take i, p.1.size ≤ 8 ∧ p.2.size ≤ 8)) (fun c _ => st.length - (intOf c).toNat)
  case atStart => exact ⟨0, Nat.zero_le _, rfl, Fr.refl _ _, (fun p hp => absurd hp (by simp) : ∀ p ∈ st.take 0, p.1.size ≤ 8 ∧ p.2.size ≤ 8)⟩
  case round =>
    obtain ⟨i, hi, rfl, HR, HT⟩ := hrel
    by_cases hlt : i < st.length
    · have hlt' : (i : Int) < st.length := by omega
      obtain ⟨p, hp⟩ : ∃ p, st[i]? = some p := ⟨_, List.getElem?_eq_getElem hlt⟩
      obtain ⟨g, off, rfl, hr⟩ := HL.out i (stv p) (by simp [hp])
      obtain ⟨p1, p2⟩ := p
      have c0 : wr.cell? ⟨g, off + i * 2, none⟩ = some (.string p1) := HR.out.cell (hr 0 _ rfl) (fun h => h)
      have c1 : wr.cell? ⟨g, off + i * 2 + 1, none⟩ = some (.string p2) := HR.out.cell (hr 1 _ rfl) (fun h => h)
      clear hr
      have HP : Hid (st[i]? = some (p1, p2)) := hp
      clear hp
      by_cases e1 : (8 : Int) < p1.size
      · go_wp2
        go_ret
        exact ⟨by rw [HF.out _ (List.mem_of_getElem? HP.out) (by simp; omega)]; rfl, HR.out⟩
      · by_cases e2 : (8 : Int) < p2.size
        · go_wp2
          go_ret
          exact ⟨by rw [HF.out _ (List.mem_of_getElem? HP.out) (by simp; omega)]; rfl, HR.out⟩
        · have HN : Hid (∀ p ∈ st.take (i + 1), p.1.size ≤ 8 ∧ p.2.size ≤ 8) := fun p hp => by
            rw [List.take_add_one, HP.out, List.mem_append] at hp
            rcases hp with hp | hp
            · exact HT.out p hp
            · simp at hp; subst hp; exact ⟨by simp; omega, by simp; omega⟩
          go_wp2
          go_roundw
          case rel => exact ⟨i + 1, by omega, by go_num, HR, HN⟩
          case measure => simp [intOf]; omega
    · have hlt' : ¬ (i : Int) < st.length := by omega
      go_wp2
      go_ret
      have := HT.out
      rw [List.take_of_length_le (by omega)] at this
      exact ⟨by rw [HE.out this]; rfl, HR.out⟩
end Go.Proofs.YteebjgfalllbjaaGreatDoor
