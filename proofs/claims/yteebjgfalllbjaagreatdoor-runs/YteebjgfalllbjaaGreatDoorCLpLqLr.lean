import Derived.Test.YteebjgfalllbjaaGreatDoorCTlLmLn
namespace Go.Proofs.YteebjgfalllbjaaGreatDoor
open Go.RowKit

/-- Which number Submit answers with: of sagas L, on n blocks. -/
def SubK (L : List RS) (id : Int) (st : List SS) (n : Nat) (k : Int) : Prop :=
  (sagaOk id st = false ∧ k = 1) ∨ (sagaOk id st = true ∧ ∃ r ∈ L, r.id = id ∧ k = if r.st = st then 0 else 2) ∨ (sagaOk id st = true ∧ (∀ r ∈ L, r.id ≠ id) ∧ (k = 0 ∨ k = 3 ∧ n < roomNeed L st.length))
/-- The blocks that the script's own lists and disks lie in. -/
def Mine (t : TypeId) : Prop := t = 111 ∨ t = 48 ∨ t = 223 ∨ t = 220 ∨ t = 165 ∨ t = 58 ∨ t = 119
/-- A call of Submit leaves all that is the script's. -/
def EngQ (Post : Int → World → Prop) (S : Nat → Prop) (L : List RS) (id : Int) (st : List SS) (n : Nat) (w : World) (e : Ending) (w' : World) : Prop :=
  ∃ v k, e = .returned v ∧ ErrAt w' v k ∧ SubK L id st n k ∧ Post k w' ∧ Fr S w w'
/-- .. and what the script knows of its disk then. -/
def SubmQ (Post : Int → World → Prop) (L : List RS) (D A Pp n : Nat) (nn : Bool) (x : Value) (pause clock : Int) (Lv : Value) (bo : Option Addr) (cb : Nat) (id : Int) (st : List SS) (w : World) (e : Ending) (w' : World) : Prop :=
  e = .returned (.bool true) ∧ ∃ wS k g, Post k wS ∧ SubK L id st n k ∧ w.heap.size ≤ g ∧ (∃ cs, wS.heap[g]? = some (.cells cs 58 (0, 0))) ∧ Fr (fun b => b = D ∨ b = g) wS w' ∧
    ((LawAt w' D A Pp n nn x pause clock Lv ∧ ¬ (k = 0 ∧ ∀ r ∈ L, r.id ≠ id)) ∨
     (k = 0 ∧ (∀ r ∈ L, r.id ≠ id) ∧ ∃ j t v s, FindP L id j t ∧ LawAt w' D A Pp n nn x pause clock v ∧ w'.ownsRow w.heap.size 223 7 v (L.length + 1) (rcells (L.take j ++ s :: L.drop j)) ∧ s.id = id ∧ s.sa = bo ∧ s.sc = cb ∧ s.st = st ∧ s.S = (1, 1) ∧ s.tries = 0 ∧ s.due = 0 ∧ s.may = [(1, 1)] ∧ s.mc = 1 ∧ MayAt w' s))

theorem own_frT {S : Nat → Prop} {w w' : World} {base e size n : Nat} {v : Value} {xs : List Value} (h : w.ownsRow base e size v n xs) (hf : Fr S w w') (hS : ∀ b c, w.heap[b]? = some (.cells c e (0, 0)) → ¬ S b) : w'.ownsRow base e size v n xs := by
  refine ⟨h.1, ?_⟩
  rcases h.2 with hn | ⟨g, cap, cur, rfl, hb, hg, rest⟩
  · exact .inl hn
  · exact .inr ⟨g, cap, cur, rfl, hb, hf.keep hg (hS g cur hg), rest⟩
theorem exec_build2 {P : Program} {ρ : Operand → Value} {o : Oper} {w w' : World} {v : Value} (t : TypeId) (ps : Array (Nat × Operand)) (ho : o.op = .build t ps) (vs : Array (Nat × Value)) (hvs : (ps.map fun (i, x) => (i, ρ x)) = vs) (hr : (Instr.build t vs).run P w = .ok v w') : (execOp ρ o).run P w = .ok (.value v) w' := by
  simp only [execOp, ho, hvs, Sem.run_bind, hr, Result.andThen_ok, Sem.run_pure]
theorem law_range {w : World} {D A Pp n : Nat} {nn : Bool} {x Lv : Value} {pause clock : Int} (h : LawAt w D A Pp n nn x pause clock Lv) : w.rangeAt D 6 [.int .i64 pause, .int .i64 clock, .bool false, Lv] := by
  intro j v hv
  match j, hv with
  | 0, hv => simp at hv; subst hv; exact h.c6
  | 1, hv => simp at hv; subst hv; exact h.c7
  | 2, hv => simp at hv; subst hv; exact h.c8
  | 3, hv => simp at hv; subst hv; exact h.c9
/-- What the document says of a disk's sagas is stored. -/
theorem law_store {w : World} {D A Pp n : Nat} {nn : Bool} {x Lv : Value} {pause clock : Int} (v : Value) (h : LawAt w D A Pp n nn x pause clock Lv) (hv : v.oneCell' = true := by rfl) : (Instr.storeAt 109 (.pointer (some ⟨D, 6, none⟩)) (.agg #[.int .i64 pause, .int .i64 clock, .bool false, v])).run Tryz.prog w = .ok () (w.setRow D (lc A Pp n nn x pause clock v)) ∧ LawAt (w.setRow D (lc A Pp n nn x pause clock v)) D A Pp n nn x pause clock v := by
  have := run_storeAt_row (P := Tryz.prog) (o := 6) (ty := 109) (cur := (lc A Pp n nn x pause clock Lv).toList) (vs := [.int .i64 pause, .int .i64 clock, .bool false, v]) h (by simp [lc]) (by simpa [Value.oneCell'] using hv) (by kernel_rfl)
  exact ⟨this, setRow_heap _ _ _ _ _ _ h⟩
/-- Steps that nobody writes any more. -/
def StepsAt (w : World) (b : Nat) (sa : Option Addr) (sc : Nat) (st : List SS) : Prop := w.ownsRow b 165 2 (.slice sa st.length sc) st.length (scells st)
theorem StepsAt.rows {w : World} {b : Nat} {sa : Option Addr} {sc : Nat} {st : List SS} (h : StepsAt w b sa sc st) : RowsOf w sa 2 (st.map stv) :=
  rows_of_own h (fun x hx => by simp only [List.mem_map] at hx; obtain ⟨r, _, rfl⟩ := hx; rfl) (by simp)
theorem StepsAt.fr {S : Nat → Prop} {w w' : World} {b : Nat} {sa : Option Addr} {sc : Nat} {st : List SS} (h : StepsAt w b sa sc st) (hf : Fr S w w') (hS : ∀ b c, w.heap[b]? = some (.cells c 165 (0, 0)) → ¬ S b) : StepsAt w' b sa sc st := own_frT h hf hS
/-- The sagas of a disk of the script, by the document. -/
structure LAt (w : World) (b : Nat) (Lv : Value) (L : List RS) : Prop where
  o : w.ownsRow b 223 7 Lv L.length (rcells L)
  s : ∀ r ∈ L, StepsAt w b r.sa r.sc r.st
  m : ∀ r ∈ L, MayAt w r ∧ r.may = [r.S] ∧ r.mc = 1
  n : ∀ r ∈ L, r.st.length ≤ 100000
theorem LAt.fr {S : Nat → Prop} {w w' : World} {b : Nat} {Lv : Value} {L : List RS} (h : LAt w b Lv L) (hf : Fr S w w') (hS : ∀ b c t, w.heap[b]? = some (.cells c t (0, 0)) → t = 223 ∨ t = 165 ∨ t = 220 → ¬ S b) : LAt w' b Lv L :=
  ⟨own_frT h.o hf (fun b c hb => hS b c _ hb (.inl rfl)), fun r hr => (h.s r hr).fr hf (fun b c hb => hS b c _ hb (.inr (.inl rfl))), fun r hr => ⟨(h.m r hr).1.fr hf (fun b c hb => hS b c _ hb (.inr (.inr rfl))), (h.m r hr).2⟩, h.n⟩
theorem LAt.frz {w w' : World} {b : Nat} {Lv : Value} {L : List RS} (h : LAt w b Lv L) (hf : Fr (fun _ => False) w w') : LAt w' b Lv L := h.fr hf (fun _ _ _ _ _ h => h)
theorem LAt.sagas {w : World} {b : Nat} {ao : Option Addr} {cap : Nat} {L : List RS} (h : LAt w b (.slice ao L.length cap) L) : SagasAt w ao L :=
  ⟨rows_saga h.o, fun r hr => (h.s r hr).rows, fun r hr => by
    obtain ⟨⟨g, e, hg⟩, hm, _⟩ := h.m r hr
    rw [hm, e]
    intro i cs hi
    match i with
    | 0 =>
      simp at hi; subst hi
      exact ⟨g, 0, rfl, fun j v hv => by rw [cell_of_row w g _ _ _ _ hg]; simpa [spv] using hv⟩
    | i + 1 => simp at hi, fun r hr => by have := h.n r hr; omega⟩

set_option maxRecDepth 100000 in
set_option maxHeartbeats 8000000 in
theorem submitted_ok {Post : Int → World → Prop} {S : Nat → Prop} {w : World} {D A B n Pp b : Nat} {nn : Bool} {x : Value} {pause clock calls writes : Int} {ao bo : Option Addr} {cap cb : Nat} {L : List RS} {lo : Option Addr} {lm lcap : Nat} {pe pl pa : Value}
    (h : LawAt w D A Pp n nn x pause clock (.slice ao L.length cap)) (hdk : DiskAt w A B n (.slice none 0 0) calls writes) (hP : w.heap[Pp]? = some (.cells #[.slice lo lm lcap, pe, pl, pa] 48 (0, 0)))
    (hl : LAt w b (.slice ao L.length cap) L) (hn : L.length ≤ 100000) (hS : ∀ r ∈ L, r.S.1 ≠ 0) (hs : L.Pairwise (fun a b => a.id < b.id)) (hG : GOk w) (hgS : ¬ S 0)
    (id : Int) (st : List SS) (hst : StepsAt w b bo cb st) (hsl : st.length ≤ 100000)
    (hMine : ∀ b c t, w.heap[b]? = some (.cells c t (0, 0)) → Mine t → ¬ S b) (hSlt : ∀ b, S b → b < w.heap.size)
    (hE : ∀ (w1 : World) (g : Nat), Fr (fun _ => False) w w1 → w.heap.size ≤ g → w1.heap[g]? = some (.cells (scells (st ++ [bey, bey])).toArray 58 (0, 0)) → Calls Tryz.prog 21 #[x, .int .i64 id, .slice (some ⟨g, 0, none⟩) st.length (st.length + 2)] w1 fun e w' => EngQ Post S L id st n w1 e w') :
    Calls Tryz.prog 84 #[.pointer (some ⟨D, 0, none⟩), .int .i64 id, .slice bo st.length cb] w fun e w' => SubmQ Post L D A Pp n nn x pause clock (.slice ao L.length cap) bo cb id st w e w' := by
  have c6 := h.c6
  have c7 := h.c7
  have c8 := h.c8
  have c9 := h.c9
  have HD : Hid (LawAt w D A Pp n nn x pause clock (.slice ao L.length cap)) := h
  have HL : Hid (LAt w b (.slice ao L.length cap) L) := hl
  have HS0 : Hid (∀ r ∈ L, r.S.1 ≠ 0) := hS
  have HSO : Hid (L.Pairwise (fun a b => a.id < b.id)) := hs
  have HP : Hid (w.heap[Pp]? = some (.cells #[.slice lo lm lcap, pe, pl, pa] 48 (0, 0))) := hP
  have HM : Hid (∀ b c t, w.heap[b]? = some (.cells c t (0, 0)) → Mine t → ¬ S b) := hMine
  have HT : Hid (StepsAt w b bo cb st) := hst
  have HDK : Hid (DiskAt w A B n (.slice none 0 0) calls writes) := hdk
  have HEE := hE
  clear h hl hS hs hP hMine hst hdk hE
  go_enter Tryz.func84, Tryz.ntmps84
  go_wp2_with fail
  refine (rFind_ok (HL.out.sagas.r) (by omega) pause clock false id).mono ?_
  rintro e w1 ⟨k, t, rfl, hp, hf1⟩
  clear c6 c7 c8 c9
  have hd1 := HD.out.fr hf1 (fun h => h)
  have c9 := hd1.c9
  have c0 := hd1.c0
  have HD1 : Hid (LawAt w1 D A Pp n nn x pause clock (.slice ao L.length cap)) := hd1
  have HF1 : Hid (Fr (fun _ => False) w w1) := hf1
  have HFP : Hid (FindP L id k t) := hp
  have hdk1 := HDK.out.fr hf1 (fun h => h)
  have HA : Hid (∀ r, L[k]? = some r → ∃ g off, ao = some ⟨g, off, none⟩ ∧ w1.cell? ⟨g, off + k * 7 + 2, none⟩ = some (.int .i64 r.S.1)) := fun r hr => by
    obtain ⟨g, off, e, hrg⟩ := HL.out.sagas.get hr
    exact ⟨g, off, e, (range_fr hrg HF1.out) 2 _ rfl⟩
  have hft : t = true → ∃ r, L[k]? = some r ∧ r.id = id := (sorted_find HSO.out hp).1
  have hff : t = false → ∀ r ∈ L, r.id ≠ id := (sorted_find HSO.out hp).2
  have HFF : Hid (t = false → ∀ r ∈ L, r.id ≠ id) := hff
  clear hd1 hf1 hp hff
  have c1 := HD1.out.c1
  have p0 : w1.cell? ⟨Pp, 0, none⟩ = some (.slice lo lm lcap) := (cell_of_row w1 Pp 0 _ _ _ (HF1.out.keep HP.out (fun h => h))).trans rfl
  have HK1 : Hid (DiskAt w1 A B n (.slice none 0 0) calls writes) := hdk1
  clear hdk1
  cases t
  · have HNO : Hid (∀ r ∈ L, r.id ≠ id) := HFF.out rfl
    clear hft HFF
    go_wp2_with fail
    refine (dTold_ok HK1.out).mono ?_
    rintro e w1a ⟨rfl, hw⟩
    rw [hw]
    clear hw
    go_wp2_with fail
    refine (lsteps_ok (HT.out.rows.frz HF1.out) (by omega)).mono ?_
    rintro e w2 ⟨g, rfl, hg, hrow, hf2⟩
    have hF2 := HF1.out.trans hf2 (fun _ _ h => h)
    have hgw : w.heap.size ≤ g := Nat.le_trans HF1.out.size hg
    have c5 := (HD.out.fr hF2 (fun h => h)).c5
    have HROW : Hid (w2.heap[g]? = some (.cells (scells (st ++ [bey, bey])).toArray 58 (0, 0))) := hrow
    have HF2 : Hid (Fr (fun _ => False) w w2) := hF2
    clear c0 c1 c9 p0 hg hf2 hF2 hrow
    go_wp2_with fail
    refine (HEE w2 g HF2.out hgw HROW.out).mono ?_
    rintro e w3 ⟨v, kk, rfl, hv, hk, hpost, hfS⟩
    have hSD : ¬ S D := HM.out _ _ _ HD.out (.inl rfl)
    have hSP : ¬ S Pp := HM.out _ _ _ HP.out (.inr (.inl rfl))
    have hSg : ¬ S g := fun h => by have := hSlt g h; omega
    have hM2 : ∀ b c t, w2.heap[b]? = some (.cells c t (0, 0)) → Mine t → ¬ S b := fun b c t hb ht h => by
      have := hSlt b h
      rw [HF2.out.block b this (fun h => h)] at hb
      exact HM.out b c t hb ht h
    have HD3 : Hid (LawAt w3 D A Pp n nn x pause clock (.slice ao L.length cap)) := (HD.out.fr HF2.out (fun h => h)).fr hfS hSD
    have HT3 : Hid (StepsAt w3 b bo cb st) := (HT.out.fr HF2.out (fun _ _ _ h => h)).fr hfS (fun b c hb => hM2 b c _ hb (.inr (.inr (.inr (.inr (.inl rfl))))))
    have HL3 : Hid (LAt w3 b (.slice ao L.length cap) L) := (HL.out.frz HF2.out).fr hfS (fun b c t hb ht => hM2 b c t hb (by rcases ht with h | h | h <;> subst h <;> simp [Mine]))
    have HR3 : Hid (w3.heap[g]? = some (.cells (scells (st ++ [bey, bey])).toArray 58 (0, 0))) := hfS.keep HROW.out hSg
    have HG3 : Hid (GOk w3) := (hG.fr HF2.out (fun h => h)).fr hfS hgS
    have HP3 : Hid (w3.heap[Pp]? = some (.cells #[.slice lo lm lcap, pe, pl, pa] 48 (0, 0))) := hfS.keep (HF2.out.keep HP.out (fun h => h)) hSP
    have HPO : Hid (Post kk w3 ∧ SubK L id st n kk) := ⟨hpost, hk⟩
    have hv1 := hv.one
    have HX3 : Hid (Fr S w2 w3) := hfS
    clear c5 hSD hSP hSg hM2 hfS hpost hk HEE
    go_wp2_with fail
    refine (still_ok HT3.out.rows (by omega) HR3.out).mono ?_
    rintro e w4 ⟨rfl, hf4⟩
    have hv4 : ErrAt w4 v kk := hv.fr hf4 (fun b c hb e => by subst e; rw [HR3.out] at hb; simp at hb)
    have hgG : ¬ 0 = g := by
      intro e
      have h1 := World.block_lt_of_cell? w _ hG
      simp only at h1
      omega
    have hG4 : GOk w4 := HG3.out.fr hf4 hgG
    have HF4 : Hid (Fr (· = g) w3 w4) := hf4
    clear hv hf4 hgG
    go_wp2_with fail
    refine (Told_any hv4 hG4).mono ?_
    rintro e w5 ⟨rfl, hf5⟩
    go_wp2_with fail
    refine (num_ok kk _).mono ?_
    rintro e w5a ⟨rfl, hw⟩
    rw [hw]
    clear hw
    have HF5 : Hid (Fr (· = g) w3 w5) := HF4.out.trans (hf5.mono (fun _ _ h => h.elim)) (fun _ _ h => h)
    have hDg : ¬ D = g := fun e => by have := lt_of_heap HD.out; omega
    have hPg : ¬ Pp = g := fun e => by have := lt_of_heap HP.out; omega
    have hTg : ∀ b c t, w3.heap[b]? = some (.cells c t (0, 0)) → t = 223 ∨ t = 165 ∨ t = 220 → ¬ b = g := fun b c t hb ht e => by
      subst e; rw [HR3.out] at hb; rcases ht with h | h | h <;> subst h <;> simp at hb
    have HD5 : Hid (LawAt w5 D A Pp n nn x pause clock (.slice ao L.length cap)) := HD3.out.fr HF5.out hDg
    have HT5 : Hid (StepsAt w5 b bo cb st) := HT3.out.fr HF5.out (fun b c hb => hTg b c _ hb (.inr (.inl rfl)))
    have HL5 : Hid (LAt w5 b (.slice ao L.length cap) L) := HL3.out.fr HF5.out hTg
    have HP5 : Hid (w5.heap[Pp]? = some (.cells #[.slice lo lm lcap, pe, pl, pa] 48 (0, 0))) := HF5.out.keep HP3.out hPg
    have d6 := HD5.out.c6
    have d7 := HD5.out.c7
    have d8 := HD5.out.c8
    have d9 := HD5.out.c9
    clear hv4 hG4 hf5 hDg hPg hTg
    go_wp2_with fail
    refine (rSubmits_ok HL5.out.sagas (by omega) HT5.out.rows pause clock false id).mono ?_
    rintro e w6 ⟨k2, t2, hp2, he, hf6⟩
    have HF6 : Hid (Fr (· = g) w3 w6) := HF5.out.trans (hf6.mono (fun _ _ h => h.elim)) (fun _ _ h => h)
    have HD6 : Hid (LawAt w6 D A Pp n nn x pause clock (.slice ao L.length cap)) := HD5.out.fr hf6 (fun h => h)
    have HL6 : Hid (LAt w6 b (.slice ao L.length cap) L) := HL5.out.frz hf6
    have HT6 : Hid (StepsAt w6 b bo cb st) := HT5.out.fr hf6 (fun _ _ _ h => h)
    have e1 := HD6.out.c1
    have z0 : w6.cell? ⟨Pp, 0, none⟩ = some (.slice lo lm lcap) := (cell_of_row w6 Pp 0 _ _ _ (hf6.keep HP5.out (fun h => h))).trans rfl
    have he' := he (match L[k2]? with | some r => decide (r.st = st) | none => false) (by intro r hr; rw [hr])
    have hft2 := sorted_find HSO.out hp2
    have HEND : Hid (∀ (w' : World), Fr (fun b => b = D ∨ b = g) w3 w' → Post kk w3 ∧ SubK L id st n kk ∧ w.heap.size ≤ g ∧ (∃ cs, w3.heap[g]? = some (.cells cs 58 (0, 0))) ∧ Fr (fun b => b = D ∨ b = g) w3 w') := fun w' hf => ⟨HPO.out.1, HPO.out.2, hgw, ⟨_, HR3.out⟩, hf⟩
    clear d6 d7 d8 d9 he hf6
    have ht2 : t2 = false := by
      cases t2
      · rfl
      · obtain ⟨r, hr, hid⟩ := hft2.1 rfl
        exact absurd hid (HNO.out r (List.mem_of_getElem? hr))
    subst ht2
    clear hft2
    rcases HPO.out.2 with ⟨hok, hkk⟩ | ⟨hok, r, hr, hid, _⟩ | ⟨hok, _, hkk | ⟨hkk, hroom⟩⟩
    · subst hkk
      rw [hok] at he'
      subst he'
      have HNEW : Hid (¬ ((1 : Int) = 0 ∧ ∀ r ∈ L, r.id ≠ id)) := fun h => by cases h.1
      simp only [subsOf]
      clear hok
      go_wp2
      go_ret
      obtain ⟨x1, x2, x3, x4, x5⟩ := HEND.out _ (HF6.out.mono (fun _ _ h => .inr h))
      exact ⟨rfl, w3, _, g, x1, x2, x3, x4, x5, .inl ⟨HD6.out, HNEW.out⟩⟩
    · exact absurd hid (HNO.out r hr)
    · subst hkk
      rw [hok] at he'
      subst he'
      simp only [subsOf]
      clear hok
      have d6 := HD6.out.c6
      have d7 := HD6.out.c7
      have d8 := HD6.out.c8
      have d9 := HD6.out.c9
      go_wp2_with fail
      obtain ⟨W7, HW7⟩ : ∃ W7, Hid (W7 = w6.alloc (.cells #[.int .i64 1, .int .i64 1] 220)) := ⟨_, rfl⟩
      obtain ⟨B2, HB2⟩ : ∃ B2, Hid (B2 = w6.heap.size) := ⟨_, rfl⟩
      have hf7 : Fr (fun _ => False) w6 W7 := by rw [HW7.out]; exact (Fr.refl _ _).alloc _
      have hb7 : W7.heap[B2]? = some (.cells #[.int .i64 1, .int .i64 1] 220 (0, 0)) := by rw [HW7.out, HB2.out]; exact heap_alloc_at _ _
      rw [← HW7.out, ← HB2.out]
      clear d6 d7 d8 d9 HW7 HB2 e1 z0
      have hd7 := HD6.out.fr hf7 (fun h => h)
      have d6 := hd7.c6
      have d7 := hd7.c7
      have d8 := hd7.c8
      have d9 := hd7.c9
      have i0 : W7.cell? ⟨B2, 0, none⟩ = some (.int .i64 1) := (cell_of_row W7 B2 0 _ _ _ hb7).trans rfl
      have i1 : W7.cell? ⟨B2, 1, none⟩ = some (.int .i64 1) := (cell_of_row W7 B2 1 _ _ _ hb7).trans rfl
      obtain ⟨W8, HW8⟩ : ∃ W8, Hid (W8 = W7.drew) := ⟨_, rfl⟩
      obtain ⟨M2, HM2⟩ : ∃ M2, Hid (M2 = W8.heap.size) := ⟨_, rfl⟩
      obtain ⟨W9, HW9⟩ : ∃ W9, Hid (W9 = W8.alloc (.cells #[.int .i64 1, .int .i64 1] 220)) := ⟨_, rfl⟩
      have hf8 : Fr (fun _ => False) w6 W8 := by rw [HW8.out]; exact hf7.drew
      have hf9 : Fr (fun _ => False) w6 W9 := by rw [HW9.out]; exact hf8.alloc _
      have hm9 : W9.heap[M2]? = some (.cells #[.int .i64 1, .int .i64 1] 220 (0, 0)) := by rw [HW9.out, HM2.out]; exact heap_alloc_at W8 _
      have h9 : (Instr.buildSlice 221 1 #[(0, .agg #[.int .i64 1, .int .i64 1])]).run Tryz.prog W8 = .ok (.slice (some ⟨M2, 0, none⟩) 1 1) W9 := by
        obtain ⟨inf, hi0, hz0, hz1, _⟩ := info_parts state_info
        rw [HW9.out, HM2.out]
        exact run_buildSlice_one W8 221 220 inf _ _ Tryz.underlying221 hi0 hz0 (by rw [hz1]; rfl) (by omega) (by omega)
      have hb8 : W8.heap[B2]? = some (.cells #[.int .i64 1, .int .i64 1] 220 (0, 0)) := by rw [HW8.out]; exact hb7
      have hb9 : W9.heap[B2]? = some (.cells #[.int .i64 1, .int .i64 1] 220 (0, 0)) := by rw [HW9.out, heap_alloc_lt _ _ _ (lt_of_heap hb8)]; exact hb8
      let S2 : World → Prop := fun w' => w'.rangeAt B2 0 [.int .i64 1, .int .i64 1]
      have hS : S2 W8 := fun j v hv => by rw [cell_of_row W8 B2 _ _ _ _ hb8]; simpa using hv
      have hS9 : S2 W9 := fun j v hv => by rw [cell_of_row W9 B2 _ _ _ _ hb9]; simpa using hv
      have hd8 := HD6.out.fr hf8 (fun h => h)
      have hd9 := HD6.out.fr hf9 (fun h => h)
      have hr8 : W8.rangeAt D 6 [.int .i64 pause, .int .i64 clock, .bool false, .slice ao L.length cap] := law_range hd8
      have hr9 : W9.rangeAt D 6 [.int .i64 pause, .int .i64 clock, .bool false, .slice ao L.length cap] := law_range hd9
      have ho9 := own_fr2 HL6.out.o hf9 (fun _ _ h => h)
      have hw := rWith_ok ho9 (by omega) pause clock false ⟨id, bo, cb, st, (1, 1), 0, 0, some ⟨M2, 0, none⟩, 1, [(1, 1)]⟩
      have hB2D : B2 ≠ D := fun e => by subst e; have := hb9.symm.trans hd9; simp at this
      have hMD : ¬ M2 = D := fun e => by subst e; have := hm9.symm.trans hd9; simp at this
      have HL9 : Hid (Fr (fun _ => False) w6 W9 ∧ W9.heap[M2]? = some (.cells #[.int .i64 1, .int .i64 1] 220 (0, 0)) ∧ LawAt W9 D A Pp n nn x pause clock (.slice ao L.length cap) ∧ w.heap.size ≤ W9.heap.size) := ⟨hf9, hm9, hd9, Nat.le_trans (Nat.le_trans HF2.out.size (Nat.le_trans HX3.out.size HF6.out.size)) hf9.size⟩
      clear hf7 hb7 hd7 hf8 hf9 hm9 hb8 hb9 hd8 hd9 ho9 d6 d7 d8 d9 i0 i1 HM2 HW9
      have hlift : Tryz.prog.follows .mixedOrders = true := by kernel_rfl
      refine wp_region_held (S := S2) hlift ?_
      change wpAnyH _ _ _ _ S2 _ _ _ (World.drew _)
      rw [show W7.drew = W8 from HW8.out.symm]
      refine tkE (S := S2) (i := 0) (oi := ⟨some 208, .move (.tmp 0), _, _, _, none⟩) (v := .pointer (some ⟨D, 0, none⟩)) rfl hS ?_
      simp only [Act.put, lsE, lsZ, lsS]
      refine tkE (S := S2) (i := 1) (oi := ⟨some 209, .move (.tmp 0), _, _, _, none⟩) (v := .pointer (some ⟨D, 0, none⟩)) rfl hS ?_
      simp only [Act.put, lsE, lsZ, lsS]
      refine tkE (S := S2) (i := 2) (oi := ⟨some 210, .nilCheck (.tmp 209), _, _, _, none⟩) (v := .pointer (some ⟨D, 0, none⟩)) rfl hS ?_
      simp only [Act.put, lsE, lsZ, lsS]
      refine tkE (S := S2) (i := 3) (oi := ⟨some 211, .fieldAddr 111 (.tmp 210) 6, _, _, _, none⟩) (v := .pointer (some ⟨D, 6, none⟩)) rfl hS ?_
      simp only [Act.put, lsE, lsZ, lsS]
      refine tkE (S := S2) (i := 5) (oi := ⟨some 213, .move (.tmp 1), _, _, _, none⟩) (v := .int .i64 id) rfl hS ?_
      simp only [Act.put, lsE, lsZ, lsS]
      refine tkE (S := S2) (i := 6) (oi := ⟨some 214, .move (.tmp 2), _, _, _, none⟩) (v := .slice bo st.length cb) rfl hS ?_
      simp only [Act.put, lsE, lsZ, lsS]
      refine tkY (S := S2) (i := 7) (oi := ⟨some 215, .load 220 (.tmp 21), _, _, _, none⟩) (v := .agg #[.int .i64 1, .int .i64 1]) rfl (Or.inl ⟨rfl, fun w' hs => exec_load 220 (.tmp 21) rfl ⟨B2, 0, none⟩ rfl (run_loadAt_mid w' B2 0 220 [.int .i64 1, .int .i64 1] _ hs Tryz.underlying220 rfl (by kernel_rfl))⟩) hS ?_
      simp only [Act.put, lsE, lsZ, lsS]
      refine tkY (S := S2) (i := 8) (oi := ⟨some 216, .load 220 (.tmp 21), _, _, _, none⟩) (v := .agg #[.int .i64 1, .int .i64 1]) rfl (Or.inl ⟨rfl, fun w' hs => exec_load 220 (.tmp 21) rfl ⟨B2, 0, none⟩ rfl (run_loadAt_mid w' B2 0 220 [.int .i64 1, .int .i64 1] _ hs Tryz.underlying220 rfl (by kernel_rfl))⟩) hS ?_
      simp only [Act.put, lsE, lsZ, lsS]
      refine wpAnyH_all (rs := [4, 9]) (by kernel_rfl) (by simp) ?_
      intro i49 hi49
      obtain rfl | rfl : i49 = 4 ∨ i49 = 9 := by simpa using hi49
      case' inl =>
        refine wpOp_value (o := ⟨some 212, .load 109 (.tmp 211), _, _, _, none⟩) (v := .agg #[.int .i64 pause, .int .i64 clock, .bool false, .slice ao L.length cap]) (w' := W8) rfl rfl (exec_load 109 (.tmp 211) rfl ⟨D, 6, none⟩ rfl (run_loadAt_mid W8 D 6 109 [.int .i64 pause, .int .i64 clock, .bool false, .slice ao L.length cap] _ hr8 Tryz.underlying109 rfl (by kernel_rfl))) ⟨hS, ?_⟩
        simp only [Act.put, lsE, lsZ, lsS]
        refine wpAnyH_all (rs := [9]) (by kernel_rfl) (by simp) ?_
        intro i9 hi9
        obtain rfl : i9 = 9 := by simpa using hi9
        refine wpOp_value (o := ⟨some 217, .buildSlice 221 1 #[(0, .tmp 216)], _, _, _, none⟩) (v := .slice (some ⟨M2, 0, none⟩) 1 1) (w' := W9) rfl rfl (exec_buildSlice 221 1 _ rfl #[(0, .agg #[.int .i64 1, .int .i64 1])] (by kernel_rfl) h9) ⟨hS9, ?_⟩
        simp only [Act.put, lsE, lsZ, lsS]
        refine tkY (S := S2) (i := 10) (oi := ⟨some 218, .build 223 #[(0, .tmp 213), (1, .tmp 214), (2, .tmp 215), (5, .tmp 217)], _, _, _, none⟩) (v := .agg #[.int .i64 id, .slice bo st.length cb, .int .i64 1, .int .i64 1, .int .i64 0, .int .i64 0, .slice (some ⟨M2, 0, none⟩) 1 1]) rfl (Or.inl ⟨rfl, fun _ _ => exec_build2 223 _ rfl #[(0, .int .i64 id), (1, .slice bo st.length cb), (2, .agg #[.int .i64 1, .int .i64 1]), (5, .slice (some ⟨M2, 0, none⟩) 1 1)] (by kernel_rfl) (by kernel_rfl)⟩) hS9 ?_
        simp only [Act.put, lsE, lsZ, lsS]
      case' inr =>
        refine wpOp_value (o := ⟨some 217, .buildSlice 221 1 #[(0, .tmp 216)], _, _, _, none⟩) (v := .slice (some ⟨M2, 0, none⟩) 1 1) (w' := W9) rfl rfl (exec_buildSlice 221 1 _ rfl #[(0, .agg #[.int .i64 1, .int .i64 1])] (by kernel_rfl) h9) ⟨hS9, ?_⟩
        simp only [Act.put, lsE, lsZ, lsS]
        refine tkY (S := S2) (i := 10) (oi := ⟨some 218, .build 223 #[(0, .tmp 213), (1, .tmp 214), (2, .tmp 215), (5, .tmp 217)], _, _, _, none⟩) (v := .agg #[.int .i64 id, .slice bo st.length cb, .int .i64 1, .int .i64 1, .int .i64 0, .int .i64 0, .slice (some ⟨M2, 0, none⟩) 1 1]) rfl (Or.inl ⟨rfl, fun _ _ => exec_build2 223 _ rfl #[(0, .int .i64 id), (1, .slice bo st.length cb), (2, .agg #[.int .i64 1, .int .i64 1]), (5, .slice (some ⟨M2, 0, none⟩) 1 1)] (by kernel_rfl) (by kernel_rfl)⟩) hS9 ?_
        simp only [Act.put, lsE, lsZ, lsS]
        refine wpAnyH_all (rs := [4]) (by kernel_rfl) (by simp) ?_
        intro i4 hi4
        obtain rfl : i4 = 4 := by simpa using hi4
        refine wpOp_value (o := ⟨some 212, .load 109 (.tmp 211), _, _, _, none⟩) (v := .agg #[.int .i64 pause, .int .i64 clock, .bool false, .slice ao L.length cap]) (w' := W9) rfl rfl (exec_load 109 (.tmp 211) rfl ⟨D, 6, none⟩ rfl (run_loadAt_mid W9 D 6 109 [.int .i64 pause, .int .i64 clock, .bool false, .slice ao L.length cap] _ hr9 Tryz.underlying109 rfl (by kernel_rfl))) ⟨hS9, ?_⟩
        simp only [Act.put, lsE, lsZ, lsS]
      all_goals
        refine wpAnyH_all (rs := [11]) (by kernel_rfl) (by simp) ?_
        intro i11 hi11
        obtain rfl : i11 = 11 := by simpa using hi11
        refine wpOp_call (o := ⟨some 219, .call { callee := .value (.func 127), args := #[.tmp 212, .tmp 218], argTypes := _ }, _, _, _, none⟩) (f := 127) (args := #[.agg #[.int .i64 pause, .int .i64 clock, .bool false, .slice ao L.length cap], .agg #[.int .i64 id, .slice bo st.length cb, .int .i64 1, .int .i64 1, .int .i64 0, .int .i64 0, .slice (some ⟨M2, 0, none⟩) 1 1]]) rfl rfl (by kernel_rfl) ?_
        refine hw.mono ?_
        rintro e wA ⟨j, t3, v3, rfl, hp3, ho3, hfA⟩
        have hSA : S2 wA := range_fr hS9 hfA
        have hlA := HL9.out.2.2.1.fr hfA (fun h => h)
        obtain ⟨a3, c3, rfl, -, -⟩ := own_shape ho3
        obtain ⟨hstD, hlB⟩ := law_store (.slice a3 (L.length + 1) c3) hlA
        obtain ⟨wB, HWB⟩ : ∃ wB, Hid (wB = wA.setRow D (lc A Pp n nn x pause clock (.slice a3 (L.length + 1) c3))) := ⟨_, rfl⟩
        rw [← HWB.out] at hstD hlB
        have hfB : Fr (· = D) wA wB := by rw [HWB.out]; exact (Fr.refl (fun x => x = D) _).setRow _ (fun _ => rfl) _
        have hSB : S2 wB := fun j v hv => hfB.cell (hSA j v hv) (fun e => hB2D e)
        refine ⟨_, rfl, hSA, ?_⟩
        simp only [Act.put, lsE, lsZ, lsS]
        refine tkE (S := S2) (i := 12) (oi := ⟨some 220, .nilCheck (.tmp 208), _, _, _, none⟩) (v := .pointer (some ⟨D, 0, none⟩)) rfl hSA ?_
        simp only [Act.put, lsE, lsZ, lsS]
        refine tkE (S := S2) (i := 13) (oi := ⟨some 221, .fieldAddr 111 (.tmp 220) 6, _, _, _, none⟩) (v := .pointer (some ⟨D, 6, none⟩)) rfl hSA ?_
        simp only [Act.put, lsE, lsZ, lsS]
        refine wpAnyH_all (rs := [14]) (by kernel_rfl) (by simp) ?_
        intro i14 hi14
        obtain rfl : i14 = 14 := by simpa using hi14
        refine wpOp_skip (o := ⟨none, .store 109 (.tmp 221) (.tmp 219), _, _, _, none⟩) (w' := wB) rfl rfl (exec_store 109 _ _ rfl ⟨D, 6, none⟩ _ rfl rfl hstD) ⟨hSB, ?_⟩
        simp only [Act.put]
        refine wpAnyH_done (by kernel_rfl) ?_ _
        have HFIN : Hid (FindP L id j t3 ∧ LawAt wB D A Pp n nn x pause clock (.slice a3 (L.length + 1) c3) ∧ wB.ownsRow w.heap.size 223 7 (.slice a3 (L.length + 1) c3) (L.length + 1) (rcells (L.take j ++ ⟨id, bo, cb, st, (1, 1), 0, 0, some ⟨M2, 0, none⟩, 1, [(1, 1)]⟩ :: L.drop j)) ∧ MayAt wB ⟨id, bo, cb, st, (1, 1), 0, 0, some ⟨M2, 0, none⟩, 1, [(1, 1)]⟩ ∧ Fr (fun b => b = D ∨ b = g) w3 wB) := by
          refine ⟨hp3, hlB, own_base2 (own_fr2 ho3 hfB (fun b hb e => by have := lt_of_heap HD.out; have := HL9.out.2.2.2; omega)) HL9.out.2.2.2, ⟨M2, rfl, hfB.keep (hfA.keep HL9.out.2.1 (fun h => h)) hMD⟩, ?_⟩
          exact ((HF6.out.mono (fun _ _ h => .inr h)).trans (HL9.out.1.mono (fun _ _ h => h.elim)) (fun _ _ h => h)).trans ((hfA.mono (fun _ _ h => h.elim)).trans (hfB.mono (fun _ _ h => .inl h)) (fun _ _ h => h)) (fun _ _ h => h)
        clear hw h9 hr8 hr9 hS hS9 hSA hSB hlA hlB hfA hfB hp3 ho3 hstD HWB
        go_wp2
        go_ret
        obtain ⟨x1, x2, x3, x4, x5⟩ := HEND.out _ HFIN.out.2.2.2.2
        exact ⟨rfl, w3, 0, g, x1, x2, x3, x4, x5, .inr ⟨rfl, HNO.out, j, t3, _, _, HFIN.out.1, HFIN.out.2.1, HFIN.out.2.2.1, rfl, rfl, rfl, rfl, rfl, rfl, rfl, rfl, rfl, HFIN.out.2.2.2.1⟩⟩
    · subst hkk
      rw [hok] at he'
      subst he'
      have HNEW : Hid (¬ ((3 : Int) = 0 ∧ ∀ r ∈ L, r.id ≠ id)) := fun h => by cases h.1
      simp only [subsOf]
      have d2 := HD6.out.c2
      have d6 := HD6.out.c6
      have d7 := HD6.out.c7
      have d8 := HD6.out.c8
      have d9 := HD6.out.c9
      have HRM : Hid (decide (roomNeed L st.length ≤ n) = false) := by simp [Hid]; omega
      clear hok hroom
      go_wp2_with fail
      refine wp_region_still_tail 10 (by kernel_rfl) (by kernel_rfl) (Bx.out ?_)
      simp only [List.take_succ_cons, List.take_zero, List.drop_succ_cons, List.drop_zero]
      repeat (refine bx_step (fun K hK => ?_); go_simp; refine hK _ ?_; clear hK K)
      refine bx_nil ?_
      go_wp2_with fail
      refine (rRoom_ok (w := w6.drew) HL6.out.sagas.r (by omega) (fun r hr => by have := HL6.out.n r hr; omega) pause clock false n st.length (by omega)).mono ?_
      rintro e w7 ⟨rfl, hf7⟩
      rw [HRM.out]
      have HF7 : Hid (Fr (· = g) w3 w7) := HF6.out.drew.trans (hf7.mono (fun _ _ h => h.elim)) (fun _ _ h => h)
      have HD7 : Hid (LawAt w7 D A Pp n nn x pause clock (.slice ao L.length cap)) := LawAt.fr (w := w6.drew) HD6.out hf7 (fun h => h)
      clear d2 d6 d7 d8 d9 e1 z0 hf7
      go_wp2
      go_ret
      obtain ⟨x1, x2, x3, x4, x5⟩ := HEND.out _ (HF7.out.mono (fun _ _ h => .inr h))
      exact ⟨rfl, w3, _, g, x1, x2, x3, x4, x5, .inl ⟨HD7.out, HNEW.out⟩⟩
  · obtain ⟨r, hr, hrid⟩ := hft rfl
    have hr0 := HS0.out r (List.mem_of_getElem? hr)
    have hkl : (k : Int) < L.length := by have := (List.getElem?_eq_some_iff.1 hr).1; omega
    obtain ⟨g0, off, hao, c2⟩ := HA.out r hr
    have HRR : Hid (L[k]? = some r ∧ r.id = id) := ⟨hr, hrid⟩
    have HAO : Hid (ao = some ⟨g0, off, none⟩) := hao
    rw [hao] at c9
    clear hft hrid hr hao HFF
    go_wp2_with fail
    refine (dTold_ok HK1.out).mono ?_
    rintro e w1a ⟨rfl, hw⟩
    rw [hw]
    clear hw
    go_wp2_with fail
    refine (lsteps_ok (HT.out.rows.frz HF1.out) (by omega)).mono ?_
    rintro e w2 ⟨g, rfl, hg, hrow, hf2⟩
    have hF2 := HF1.out.trans hf2 (fun _ _ h => h)
    have hgw : w.heap.size ≤ g := Nat.le_trans HF1.out.size hg
    have c5 := (HD.out.fr hF2 (fun h => h)).c5
    have HROW : Hid (w2.heap[g]? = some (.cells (scells (st ++ [bey, bey])).toArray 58 (0, 0))) := hrow
    have HF2 : Hid (Fr (fun _ => False) w w2) := hF2
    clear c0 c1 c9 p0 hg hf2 hF2 hrow c2
    go_wp2_with fail
    refine (HEE w2 g HF2.out hgw HROW.out).mono ?_
    rintro e w3 ⟨v, kk, rfl, hv, hk, hpost, hfS⟩
    have hSD : ¬ S D := HM.out _ _ _ HD.out (.inl rfl)
    have hSP : ¬ S Pp := HM.out _ _ _ HP.out (.inr (.inl rfl))
    have hSg : ¬ S g := fun h => by have := hSlt g h; omega
    have hM2 : ∀ b c t, w2.heap[b]? = some (.cells c t (0, 0)) → Mine t → ¬ S b := fun b c t hb ht h => by
      have := hSlt b h
      rw [HF2.out.block b this (fun h => h)] at hb
      exact HM.out b c t hb ht h
    have HD3 : Hid (LawAt w3 D A Pp n nn x pause clock (.slice ao L.length cap)) := (HD.out.fr HF2.out (fun h => h)).fr hfS hSD
    have HT3 : Hid (StepsAt w3 b bo cb st) := (HT.out.fr HF2.out (fun _ _ _ h => h)).fr hfS (fun b c hb => hM2 b c _ hb (.inr (.inr (.inr (.inr (.inl rfl))))))
    have HL3 : Hid (LAt w3 b (.slice ao L.length cap) L) := (HL.out.frz HF2.out).fr hfS (fun b c t hb ht => hM2 b c t hb (by rcases ht with h | h | h <;> subst h <;> simp [Mine]))
    have HR3 : Hid (w3.heap[g]? = some (.cells (scells (st ++ [bey, bey])).toArray 58 (0, 0))) := hfS.keep HROW.out hSg
    have HG3 : Hid (GOk w3) := (hG.fr HF2.out (fun h => h)).fr hfS hgS
    have HP3 : Hid (w3.heap[Pp]? = some (.cells #[.slice lo lm lcap, pe, pl, pa] 48 (0, 0))) := hfS.keep (HF2.out.keep HP.out (fun h => h)) hSP
    have HPO : Hid (Post kk w3 ∧ SubK L id st n kk) := ⟨hpost, hk⟩
    have hv1 := hv.one
    have HX3 : Hid (Fr S w2 w3) := hfS
    clear c5 hSD hSP hSg hM2 hfS hpost hk HEE
    go_wp2_with fail
    refine (still_ok HT3.out.rows (by omega) HR3.out).mono ?_
    rintro e w4 ⟨rfl, hf4⟩
    have hv4 : ErrAt w4 v kk := hv.fr hf4 (fun b c hb e => by subst e; rw [HR3.out] at hb; simp at hb)
    have hgG : ¬ 0 = g := by
      intro e
      have h1 := World.block_lt_of_cell? w _ hG
      simp only at h1
      omega
    have hG4 : GOk w4 := HG3.out.fr hf4 hgG
    have HF4 : Hid (Fr (· = g) w3 w4) := hf4
    clear hv hf4 hgG
    go_wp2_with fail
    refine (Told_any hv4 hG4).mono ?_
    rintro e w5 ⟨rfl, hf5⟩
    go_wp2_with fail
    refine (num_ok kk _).mono ?_
    rintro e w5a ⟨rfl, hw⟩
    rw [hw]
    clear hw
    have HF5 : Hid (Fr (· = g) w3 w5) := HF4.out.trans (hf5.mono (fun _ _ h => h.elim)) (fun _ _ h => h)
    have hDg : ¬ D = g := fun e => by have := lt_of_heap HD.out; omega
    have hPg : ¬ Pp = g := fun e => by have := lt_of_heap HP.out; omega
    have hTg : ∀ b c t, w3.heap[b]? = some (.cells c t (0, 0)) → t = 223 ∨ t = 165 ∨ t = 220 → ¬ b = g := fun b c t hb ht e => by
      subst e; rw [HR3.out] at hb; rcases ht with h | h | h <;> subst h <;> simp at hb
    have HD5 : Hid (LawAt w5 D A Pp n nn x pause clock (.slice ao L.length cap)) := HD3.out.fr HF5.out hDg
    have HT5 : Hid (StepsAt w5 b bo cb st) := HT3.out.fr HF5.out (fun b c hb => hTg b c _ hb (.inr (.inl rfl)))
    have HL5 : Hid (LAt w5 b (.slice ao L.length cap) L) := HL3.out.fr HF5.out hTg
    have HP5 : Hid (w5.heap[Pp]? = some (.cells #[.slice lo lm lcap, pe, pl, pa] 48 (0, 0))) := HF5.out.keep HP3.out hPg
    have d6 := HD5.out.c6
    have d7 := HD5.out.c7
    have d8 := HD5.out.c8
    have d9 := HD5.out.c9
    clear hv4 hG4 hf5 hDg hPg hTg
    go_wp2_with fail
    refine (rSubmits_ok HL5.out.sagas (by omega) HT5.out.rows pause clock false id).mono ?_
    rintro e w6 ⟨k2, t2, hp2, he, hf6⟩
    have HF6 : Hid (Fr (· = g) w3 w6) := HF5.out.trans (hf6.mono (fun _ _ h => h.elim)) (fun _ _ h => h)
    have HD6 : Hid (LawAt w6 D A Pp n nn x pause clock (.slice ao L.length cap)) := HD5.out.fr hf6 (fun h => h)
    have HL6 : Hid (LAt w6 b (.slice ao L.length cap) L) := HL5.out.frz hf6
    have HT6 : Hid (StepsAt w6 b bo cb st) := HT5.out.fr hf6 (fun _ _ _ h => h)
    have e1 := HD6.out.c1
    have z0 : w6.cell? ⟨Pp, 0, none⟩ = some (.slice lo lm lcap) := (cell_of_row w6 Pp 0 _ _ _ (hf6.keep HP5.out (fun h => h))).trans rfl
    have he' := he (match L[k2]? with | some r => decide (r.st = st) | none => false) (by intro r hr; rw [hr])
    have hft2 := sorted_find HSO.out hp2
    have HEND : Hid (∀ (w' : World), Fr (fun b => b = D ∨ b = g) w3 w' → Post kk w3 ∧ SubK L id st n kk ∧ w.heap.size ≤ g ∧ (∃ cs, w3.heap[g]? = some (.cells cs 58 (0, 0))) ∧ Fr (fun b => b = D ∨ b = g) w3 w') := fun w' hf => ⟨HPO.out.1, HPO.out.2, hgw, ⟨_, HR3.out⟩, hf⟩
    clear d6 d7 d8 d9 he hf6
    have HRM : Hid (r ∈ L) := List.mem_of_getElem? HRR.out.1
    have ht2 : t2 = true := by
      cases t2
      · exact absurd HRR.out.2 (hft2.2 rfl r HRM.out)
      · rfl
    subst ht2
    obtain ⟨r2, hr2, hid2⟩ := hft2.1 rfl
    obtain rfl : r2 = r := sorted_one HSO.out hr2 HRR.out.1 (by rw [hid2, HRR.out.2])
    rw [hr2] at he'
    clear hft2 hr2 hid2
    rcases HPO.out.2 with ⟨hok, hkk⟩ | ⟨hok, r', hr', hid', hkk⟩ | ⟨_, hno, _⟩
    · subst hkk
      rw [hok] at he'
      subst he'
      have HNEW : Hid (¬ ((1 : Int) = 0 ∧ ∀ r ∈ L, r.id ≠ id)) := fun h => by cases h.1
      simp only [subsOf]
      clear hok
      go_wp2
      go_ret
      obtain ⟨x1, x2, x3, x4, x5⟩ := HEND.out _ (HF6.out.mono (fun _ _ h => .inr h))
      exact ⟨rfl, w3, _, g, x1, x2, x3, x4, x5, .inl ⟨HD6.out, HNEW.out⟩⟩
    · obtain ⟨j', hj'⟩ := List.mem_iff_getElem?.1 hr'
      obtain rfl : r' = r2 := sorted_one HSO.out hj' HRR.out.1 (by rw [hid', HRR.out.2])
      by_cases hse : r'.st = st
      · rw [if_pos hse] at hkk
        subst hkk
        rw [hok] at he'
        simp only [show decide (r'.st = st) = true by simp [hse]] at he'
        subst he'
        simp only [subsOf]
        clear hok hse hj' hid' hr'
        go_wp2
        go_ret
        obtain ⟨x1, x2, x3, x4, x5⟩ := HEND.out _ (HF6.out.mono (fun _ _ h => .inr h))
        exact ⟨rfl, w3, _, g, x1, x2, x3, x4, x5, .inl ⟨HD6.out, fun h => h.2 r' HRM.out HRR.out.2⟩⟩
      · rw [if_neg hse] at hkk
        subst hkk
        rw [hok] at he'
        simp only [show decide (r'.st = st) = false by simp [hse]] at he'
        subst he'
        have HNEW : Hid (¬ ((2 : Int) = 0 ∧ ∀ r ∈ L, r.id ≠ id)) := fun h => by cases h.1
        simp only [subsOf]
        clear hok hse hj' hid' hr'
        go_wp2
        go_ret
        obtain ⟨x1, x2, x3, x4, x5⟩ := HEND.out _ (HF6.out.mono (fun _ _ h => .inr h))
        exact ⟨rfl, w3, _, g, x1, x2, x3, x4, x5, .inl ⟨HD6.out, HNEW.out⟩⟩
    · exact absurd HRR.out.2 (hno r2 HRM.out)
end Go.Proofs.YteebjgfalllbjaaGreatDoor
namespace Go.Proofs.YteebjgfalllbjaaGreatDoor
open Go.RowKit

def inB (n : Nat) : Bool := decide (8 ≤ n ∧ n ≤ 400)
theorem fits_ok {w : World} {D A Pp n : Nat} {nn : Bool} {x Lv : Value} {pause clock : Int} (h : LawAt w D A Pp n nn x pause clock Lv) : Calls Tryz.prog 81 #[.pointer (some ⟨D, 0, none⟩)] w fun e w' => e = .returned (.bool (inB n)) ∧ w' = w := by
  have c2 := h.c2
  by_cases h8 : 8 ≤ n
  · have h8' : decide ((8 : Int) ≤ n) = true := by simp; omega
    by_cases h4 : n ≤ 400
    · have hi : inB n = true := by simp [inB, h8, h4]
      have h4' : decide ((n : Int) ≤ 400) = true := by simp; omega
      rw [hi]
      clear hi
      go_enter Tryz.func81, Tryz.ntmps81
      go_wp2
      go_ret
      exact ⟨rfl, rfl⟩
    · have hi : inB n = false := by simp [inB, h4]
      have h4' : decide ((n : Int) ≤ 400) = false := by simp; omega
      rw [hi]
      clear hi
      go_enter Tryz.func81, Tryz.ntmps81
      go_wp2
      go_ret
      exact ⟨rfl, rfl⟩
  · have h8' : decide ((8 : Int) ≤ n) = false := by simp; omega
    have hi : inB n = false := by simp [inB, h8]
    rw [hi]
    clear hi
    go_enter Tryz.func81, Tryz.ntmps81
    go_wp2
    go_ret
    exact ⟨rfl, rfl⟩

/-- What Format does to the rest, by its answer. -/
def FmtQ (Post : World → Prop) (S : Nat → Prop) (n : Nat) (w : World) (e : Ending) (w' : World) : Prop := ∃ v, e = .returned v ∧ ErrAt w' v (if inB n then 0 else 7) ∧ Post w' ∧ Fr S w w'
def FormQ (Post : World → Prop) (D A Pp n : Nat) (nn : Bool) (pause clock : Int) (Lv : Value) (w : World) (e : Ending) (w' : World) : Prop :=
  e = .returned (.bool true) ∧ ∃ wS, Post wS ∧ Fr (· = D) wS w' ∧ ((inB n = true ∧ LawAt w' D A Pp n false (.pointer none) 0 0 (.slice none 0 0)) ∨ (inB n = false ∧ LawAt w' D A Pp n nn (.pointer none) pause clock Lv)) ∧ w.heap.size ≤ wS.heap.size
set_option maxRecDepth 100000 in
set_option maxHeartbeats 2000000 in
theorem formatted_gen {Post : World → Prop} {S : Nat → Prop} {w : World} {D A B n Pp : Nat} {nn : Bool} {x : Value} {pause clock calls writes : Int} {cache Lv : Value}
    (h : LawAt w D A Pp n nn x pause clock Lv) (hdk : DiskAt w A B n cache calls writes) (hDA : A ≠ D) (hG : GOk w) (hgD : 0 ≠ D) (hgS : ¬ S 0) (hSD : ¬ S D)
    (hF : ∀ w1, Fr (· = D) w w1 → Calls Tryz.prog 40 #[.pointer (some ⟨A, 0, none⟩)] w1 fun e w' => FmtQ Post S n w1 e w') :
    Calls Tryz.prog 52 #[.pointer (some ⟨D, 0, none⟩)] w fun e w' => FormQ Post D A Pp n nn pause clock Lv w e w' := by
  have h1 := h.set5 (.pointer none)
  have hF1 : Fr (· = D) w (w.setCell ⟨D, 5, none⟩ (.pointer none)) := Fr.set1 _ _ _ _
  have hdk1 := hdk.setCell ⟨D, 5, none⟩ (.pointer none) hDA
  have c5 := h.c5
  have f5 := h.fz 5
  obtain ⟨W, HW⟩ : ∃ W, Hid (W = w.setCell ⟨D, 5, none⟩ (.pointer none)) := ⟨_, rfl⟩
  rw [← HW.out] at h1 hF1 hdk1
  have h5 : (Instr.storeAt 32 (.pointer (some ⟨D, 5, none⟩)) (.pointer none)).run Tryz.prog w = .ok () W := by rw [HW.out]; exact run_storeAt_one c5 f5 (by kernel_rfl) rfl
  have hG1 := hG.fr hF1 hgD
  have HF1 : Hid (Fr (· = D) w W) := hF1
  have H1 : Hid (LawAt W D A Pp n nn (.pointer none) pause clock Lv) := h1
  have c0 := h1.c0
  clear h hdk c5 f5 HW hF1
  go_enter Tryz.func52, Tryz.ntmps52
  go_wp2_with (refine wpList_store 32 (w' := W) _ _ rfl rfl ?_ ?_; exact h5)
  refine (dTold_ok hdk1).mono ?_
  rintro e w1 ⟨rfl, hw⟩
  rw [hw]
  clear hw
  go_wp2_with fail
  refine (hF W HF1.out).mono ?_
  rintro e w2 ⟨v, rfl, hv, hpost, hf2⟩
  obtain ⟨kk, hkk⟩ : ∃ kk : Int, (if inB n then 0 else 7) = kk := ⟨_, rfl⟩
  rw [hkk] at hv
  have HKK : Hid ((if inB n then 0 else 7) = kk) := hkk
  clear hkk
  have h2 := H1.out.fr hf2 hSD
  have hG2 := hG1.fr hf2 hgS
  have hv1 := hv.one
  have HP : Hid (Post w2 ∧ w.heap.size ≤ w2.heap.size) := ⟨hpost, Nat.le_trans HF1.out.size hf2.size⟩
  clear c0 h1 hG1 hdk1 hf2 hpost hF h5 H1
  go_wp2_with fail
  refine (Told_any hv hG2).mono ?_
  rintro e w3 ⟨rfl, hf3⟩
  have h3 := h2.fr hf3 (fun h => h)
  have HF3 : Hid (Fr (· = D) w2 w3) := hf3.mono (fun _ _ h => h.elim)
  clear hv h2 hG2 hf3
  go_wp2_with fail
  refine (num_ok kk _).mono ?_
  rintro e w4 ⟨rfl, hw⟩
  rw [hw]
  clear hw
  go_wp2_with fail
  refine (fits_ok h3).mono ?_
  rintro e w5 ⟨rfl, hw⟩
  rw [hw]
  clear hw
  have c3 := h3.c3
  have c4 := h3.c4
  have c6 := h3.c6
  have c7 := h3.c7
  have c8 := h3.c8
  have c9 := h3.c9
  have fz : ∀ j, w3.frozen? ⟨D, j, none⟩ = false := h3.fz
  have H3 : Hid (LawAt w3 D A Pp n nn (.pointer none) pause clock Lv) := h3
  clear h3
  have HKK2 := HKK.out
  clear HKK
  cases hi : inB n
  · rw [hi] at HKK2
    obtain rfl : kk = 7 := by simpa using HKK2.symm
    have HI : Hid (inB n = false) := hi
    clear hi HKK2
    go_wp2
    go_ret
    exact ⟨rfl, w2, HP.out.1, HF3.out, .inr ⟨HI.out, H3.out⟩, HP.out.2⟩
  · rw [hi] at HKK2
    obtain rfl : kk = 0 := by simpa using HKK2.symm
    have HI : Hid (inB n = true) := hi
    clear hi HKK2
    go_wp2
    go_ret
    have e3 := H3.out.set3 false
    have e4 := e3.set4
    have e6 := e4.set6 0
    have e7 := e6.set7 0
    have e8 := e7.set8
    have e9 := e8.set9 (.slice none 0 0)
    exact ⟨rfl, w2, HP.out.1, FrD.set (FrD.set (FrD.set (FrD.set (FrD.set (FrD.set HF3.out))))), .inl ⟨HI.out, e9⟩, HP.out.2⟩
end Go.Proofs.YteebjgfalllbjaaGreatDoor
namespace Go.Proofs.YteebjgfalllbjaaGreatDoor
open Go.RowKit

/-- Which number Open answers with. -/
def openK (p : Int) (n : Nat) (nn : Bool) : Int := if p < 1 ∨ 64 < p then 8 else if inB n = false then 7 else if nn then 6 else 0
def OpenQ (Post : Option Addr → Int → World → Prop) (S : Nat → Prop) (A B n : Nat) (nn : Bool) (p writes : Int) (w : World) (e : Ending) (w' : World) : Prop :=
  ∃ xo v k, e = .returned (.tuple #[.pointer xo, v]) ∧ ErrAt w' v k ∧ k = openK p n nn ∧ (xo = none ↔ k ≠ 0) ∧ (∃ calls, DiskAt w' A B n (.slice none 0 0) calls writes) ∧ Post xo k w' ∧ Fr S w w'
def OpndQ (Post : Option Addr → Int → World → Prop) (L : List RS) (D A Pp n : Nat) (nn : Bool) (pause0 clock : Int) (Lv : Value) (p : Int) (w : World) (e : Ending) (w' : World) : Prop :=
  e = .returned (.bool true) ∧ ∃ wS xo, Post xo (openK p n nn) wS ∧ Fr (· = D) wS w' ∧ w.heap.size ≤ wS.heap.size ∧
    ((openK p n nn ≠ 0 ∧ LawAt w' D A Pp n nn (.pointer none) pause0 clock Lv) ∨ (openK p n nn = 0 ∧ ∃ Lv' L', LawAt w' D A Pp n false (.pointer xo) p 0 Lv' ∧ FoundL L L' ∧ w'.ownsRow w.heap.size 223 7 Lv' L.length (rcells L') ∧ (∀ r ∈ L', MayAt w' r)))
set_option maxRecDepth 100000 in
set_option maxHeartbeats 4000000 in
theorem opened_gen {Post : Option Addr → Int → World → Prop} {S : Nat → Prop} {w : World} {D A B n Pp b : Nat} {nn : Bool} {x : Value} {pause0 clock calls writes : Int} {ao : Option Addr} {cap : Nat} {L : List RS} {lo : Option Addr} {lm lcap : Nat} {pe pl pa : Value}
    (h : LawAt w D A Pp n nn x pause0 clock (.slice ao L.length cap)) (hdk : DiskAt w A B n (.slice none 0 0) calls writes) (hP : w.heap[Pp]? = some (.cells #[.slice lo lm lcap, pe, pl, pa] 48 (0, 0)))
    (hl : LAt w b (.slice ao L.length cap) L) (hn : L.length ≤ 100000) (hS0 : ∀ r ∈ L, r.S.1 ≠ 0) (hDA : A ≠ D) (hG : GOk w) (hgD : 0 ≠ D) (hgS : ¬ S 0)
    (hMine : ∀ b c t, w.heap[b]? = some (.cells c t (0, 0)) → Mine t → ¬ S b) (hSlt : ∀ b, S b → b < w.heap.size) (p : Int)
    (hO : ∀ w1, Fr (· = D) w w1 → Calls Tryz.prog 33 #[.pointer (some ⟨A, 0, none⟩), .int .i64 p, .pointer (some ⟨Pp, 0, none⟩)] w1 fun e w' => OpenQ Post S A B n nn p writes w1 e w')
    (hA : ∀ wS w1 xo, Post xo 0 wS → Fr (fun _ => False) wS w1 → Calls Tryz.prog 35 #[.pointer xo, .int .i64 1048576] w1 fun e w' => AllQ (L.map RS.fresh) w1 e w') :
    Calls Tryz.prog 53 #[.pointer (some ⟨D, 0, none⟩), .int .i64 p] w fun e w' => OpndQ Post L D A Pp n nn pause0 clock (.slice ao L.length cap) p w e w' := by
  have hSD : ¬ S D := hMine _ _ _ h (.inl rfl)
  have hSP : ¬ S Pp := hMine _ _ _ hP (.inr (.inl rfl))
  have hDP : Pp ≠ D := fun e => by subst e; have := hP.symm.trans h; simp at this
  have h1 := h.set5 (.pointer none)
  have hF1 : Fr (· = D) w (w.setCell ⟨D, 5, none⟩ (.pointer none)) := Fr.set1 _ _ _ _
  have hdk1 := hdk.setCell ⟨D, 5, none⟩ (.pointer none) hDA
  have c5 := h.c5
  have f5 := h.fz 5
  obtain ⟨W, HW⟩ : ∃ W, Hid (W = w.setCell ⟨D, 5, none⟩ (.pointer none)) := ⟨_, rfl⟩
  rw [← HW.out] at h1 hF1 hdk1
  have h5 : (Instr.storeAt 32 (.pointer (some ⟨D, 5, none⟩)) (.pointer none)).run Tryz.prog w = .ok () W := by rw [HW.out]; exact run_storeAt_one c5 f5 (by kernel_rfl) rfl
  have hG1 := hG.fr hF1 hgD
  have hP1 : W.heap[Pp]? = some (.cells #[.slice lo lm lcap, pe, pl, pa] 48 (0, 0)) := hF1.keep hP hDP
  have HF1 : Hid (Fr (· = D) w W) := hF1
  have HLL : Hid (LAt W b (.slice ao L.length cap) L) := hl.fr hF1 (fun b c t hb ht e => by subst e; rw [h] at hb; rcases ht with h | h | h <;> subst h <;> simp at hb)
  have HM : Hid (∀ b c t, W.heap[b]? = some (.cells c t (0, 0)) → t = 223 ∨ t = 165 ∨ t = 220 → ¬ S b) := fun b c t hb ht hSb => by
    have hbD : ¬ b = D := fun e => by subst e; rw [h1] at hb; rcases ht with h | h | h <;> subst h <;> simp at hb
    rw [hF1.block b (hSlt b hSb) hbD] at hb
    exact hMine b c t hb (by rcases ht with h | h | h <;> subst h <;> simp [Mine]) hSb
  have HS0 : Hid (∀ r ∈ L, r.S.1 ≠ 0) := hS0
  have HAA := hA
  have c0 := h1.c0
  have c1 := h1.c1
  have cp0 : W.cell? ⟨Pp, 0, none⟩ = some (.slice lo lm lcap) := (cell_of_row W Pp 0 _ _ _ hP1).trans rfl
  clear h hdk c5 f5 HW hF1 hl hP hMine hS0 hA hSlt
  go_enter Tryz.func53, Tryz.ntmps53
  go_wp2_with (refine wpList_store 32 (w' := W) _ _ rfl rfl ?_ ?_; exact h5)
  refine (dTold_ok hdk1).mono ?_
  rintro e w1 ⟨rfl, hw⟩
  rw [hw]
  clear hw
  go_wp2_with fail
  refine (Writes_ok hdk1).mono ?_
  rintro e w1a ⟨rfl, hw⟩
  rw [hw]
  clear hw
  go_wp2_with fail
  refine (Pending_ok hdk1).mono ?_
  rintro e w1b ⟨rfl, hw⟩
  rw [hw]
  clear hw
  go_wp2_with fail
  have hlift : Tryz.prog.follows .mixedOrders = true := by kernel_rfl
  obtain ⟨W2, HW2⟩ : ∃ W2, Hid (W2 = W.drew) := ⟨_, rfl⟩
  have hLW : LawAt W2 D A Pp n nn (.pointer none) pause0 clock (.slice ao L.length cap) := by rw [HW2.out]; exact h1
  have hGW : GOk W2 := by rw [HW2.out]; exact hG1
  have hPW : W2.heap[Pp]? = some (.cells #[.slice lo lm lcap, pe, pl, pa] 48 (0, 0)) := by rw [HW2.out]; exact hP1
  have HF2 : Hid (Fr (· = D) w W2) := by rw [HW2.out]; exact HF1.out.drew
  have HL2 : Hid (LAt W2 b (.slice ao L.length cap) L) := by rw [HW2.out]; exact HLL.out.frz (Fr.refl _ _).drew
  have HM2 : Hid (∀ b c t, W2.heap[b]? = some (.cells c t (0, 0)) → t = 223 ∨ t = 165 ∨ t = 220 → ¬ S b) := by rw [HW2.out]; exact HM.out
  clear c0 c1 cp0 hP1 h1 hG1 hdk1 h5 HLL HM
  let S0 : World → Prop := fun w' => w'.cell? ⟨D, 0, none⟩ = some (.pointer (some ⟨A, 0, none⟩)) ∧ w'.cell? ⟨D, 1, none⟩ = some (.pointer (some ⟨Pp, 0, none⟩))
  have hS : S0 W2 := ⟨hLW.c0, hLW.c1⟩
  refine wp_region_held (S := S0) hlift ?_
  change wpAnyH _ _ _ _ S0 _ _ _ (World.drew _)
  rw [show W.drew = W2 from HW2.out.symm]
  refine tkE (S := S0) (i := 0) (oi := ⟨some 42, .move (.tmp 0), _, _, _, none⟩) (v := .pointer (some ⟨D, 0, none⟩)) rfl hS ?_
  simp only [Act.put, lsE, lsZ, lsS]
  refine tkE (S := S0) (i := 1) (oi := ⟨some 43, .nilCheck (.tmp 42), _, _, _, none⟩) (v := .pointer (some ⟨D, 0, none⟩)) rfl hS ?_
  simp only [Act.put, lsE, lsZ, lsS]
  refine tkE (S := S0) (i := 2) (oi := ⟨some 44, .fieldAddr 111 (.tmp 43) 0, _, _, _, none⟩) (v := .pointer (some ⟨D, 0, none⟩)) rfl hS ?_
  simp only [Act.put, lsE, lsZ, lsS]
  refine tkY (S := S0) (i := 3) (oi := ⟨some 45, .load 31 (.tmp 44), _, _, _, none⟩) (v := .pointer (some ⟨A, 0, none⟩)) rfl (Or.inl ⟨rfl, fun w' hs => exec_load 31 (.tmp 44) rfl ⟨D, 0, none⟩ rfl (run_loadAt_one hs.1 Tryz.underlying31 rfl)⟩) hS ?_
  simp only [Act.put, lsE, lsZ, lsS]
  refine tkE (S := S0) (i := 4) (oi := ⟨some 46, .move (.tmp 1), _, _, _, none⟩) (v := .int .i64 p) rfl hS ?_
  simp only [Act.put, lsE, lsZ, lsS]
  refine tkE (S := S0) (i := 5) (oi := ⟨some 47, .move (.tmp 0), _, _, _, none⟩) (v := .pointer (some ⟨D, 0, none⟩)) rfl hS ?_
  simp only [Act.put, lsE, lsZ, lsS]
  refine tkE (S := S0) (i := 6) (oi := ⟨some 48, .nilCheck (.tmp 47), _, _, _, none⟩) (v := .pointer (some ⟨D, 0, none⟩)) rfl hS ?_
  simp only [Act.put, lsE, lsZ, lsS]
  refine tkE (S := S0) (i := 7) (oi := ⟨some 49, .fieldAddr 111 (.tmp 48) 1, _, _, _, none⟩) (v := .pointer (some ⟨D, 1, none⟩)) rfl hS ?_
  simp only [Act.put, lsE, lsZ, lsS]
  refine tkY (S := S0) (i := 8) (oi := ⟨some 50, .load 28 (.tmp 49), _, _, _, none⟩) (v := .pointer (some ⟨Pp, 0, none⟩)) rfl (Or.inl ⟨rfl, fun w' hs => exec_load 28 (.tmp 49) rfl ⟨D, 1, none⟩ rfl (run_loadAt_one hs.2 Tryz.underlying28 rfl)⟩) hS ?_
  simp only [Act.put, lsE, lsZ, lsS]
  refine wpAnyH_all (rs := [9]) (by kernel_rfl) (by simp) ?_
  intro i9 hi9
  obtain rfl : i9 = 9 := by simpa using hi9
  refine wpOp_call (o := ⟨some 51, .call { callee := .value (.func 33), args := #[.tmp 45, .tmp 46, .tmp 50], argTypes := _ }, _, _, _, none⟩) (f := 33) (args := #[.pointer (some ⟨A, 0, none⟩), .int .i64 p, .pointer (some ⟨Pp, 0, none⟩)]) rfl rfl (by kernel_rfl) ?_
  refine (hO W2 HF2.out).mono ?_
  rintro e w2 ⟨xo, v, kk, rfl, hv, hkk, hxo, hd2, hpost, hf2⟩
  have h2 := hLW.fr hf2 hSD
  have hG2 := hGW.fr hf2 hgS
  have hv1 := hv.one
  have hP2 := hf2.keep hPW hSP
  have hSS : S0 w2 := ⟨h2.c0, h2.c1⟩
  refine ⟨_, rfl, hSS, ?_⟩
  simp only [Act.put, lsE, lsZ, lsS]
  refine tkE (S := S0) (i := 10) (oi := ⟨some 41, .move (.tmp 51), _, _, _, none⟩) (v := .tuple #[.pointer xo, v]) rfl hSS ?_
  simp only [Act.put, lsE, lsZ, lsS]
  refine tkE (S := S0) (i := 11) (oi := ⟨some 52, .extract (.tmp 41) 0, _, _, _, none⟩) (v := .pointer xo) rfl hSS ?_
  simp only [Act.put, lsE, lsZ, lsS]
  refine tkE (S := S0) (i := 12) (oi := ⟨some 53, .extract (.tmp 41) 1, _, _, _, none⟩) (v := v) rfl hSS ?_
  simp only [Act.put, lsE, lsZ, lsS]
  refine tkE (S := S0) (i := 13) (oi := ⟨some 9, .assign (.tmp 52), _, _, _, none⟩) (v := .pointer xo) rfl hSS ?_
  simp only [Act.put, lsE, lsZ, lsS]
  refine tkE (S := S0) (i := 14) (oi := ⟨some 10, .assign (.tmp 53), _, _, _, none⟩) (v := v) rfl hSS ?_
  simp only [Act.put, lsE, lsZ, lsS]
  refine wpAnyH_done (by kernel_rfl) ?_ _
  have HP : Hid (Post xo kk w2 ∧ w.heap.size ≤ w2.heap.size) := ⟨hpost, Nat.le_trans HF2.out.size hf2.size⟩
  have HLE : Hid (LAt w2 b (.slice ao L.length cap) L) := HL2.out.fr hf2 HM2.out
  have HKK : Hid (kk = openK p n nn ∧ (xo = none ↔ kk ≠ 0)) := ⟨hkk, hxo⟩
  obtain ⟨calls2, hd2⟩ := hd2
  clear hS hSS hLW hGW hPW hO hpost hf2 HL2 HM2 hkk hxo
  go_wp2_with fail
  refine (Told_any hv hG2).mono ?_
  rintro e w3 ⟨rfl, hf3⟩
  have h3 := h2.fr hf3 (fun h => h)
  have hd3 := hd2.fr hf3 (fun h => h)
  have HF3 : Hid (Fr (fun _ => False) w2 w3) := hf3
  have hP3 := hf3.keep hP2 (fun h => h)
  clear hv h2 hG2 hf3 hd2 hP2
  go_wp2_with fail
  refine (num_ok kk _).mono ?_
  rintro e w4 ⟨rfl, hw⟩
  rw [hw]
  clear hw
  go_wp2_with fail
  refine (fits_ok h3).mono ?_
  rintro e w5 ⟨rfl, hw⟩
  rw [hw]
  clear hw
  have c0 := h3.c0
  have c1 := h3.c1
  have c3 := h3.c3
  have cp0 : w3.cell? ⟨Pp, 0, none⟩ = some (.slice lo lm lcap) := (cell_of_row w3 Pp 0 _ _ _ hP3).trans rfl
  have H3 : Hid (LawAt w3 D A Pp n nn (.pointer none) pause0 clock (.slice ao L.length cap) ∧ DiskAt w3 A B n (.slice none 0 0) calls2 writes) := ⟨h3, hd3⟩
  go_wp2_with fail
  refine (Writes_ok hd3).mono ?_
  rintro e w6 ⟨rfl, hw⟩
  rw [hw]
  clear hw
  go_wp2_with fail
  refine (Pending_ok hd3).mono ?_
  rintro e w7 ⟨rfl, hw⟩
  rw [hw]
  clear hw
  clear h3 hP3
  have hkk := HKK.out.1
  by_cases hp : p < 1 ∨ 64 < p
  · have hk8 : kk = 8 := by rw [hkk]; simp [openK, hp]
    obtain rfl : xo = none := HKK.out.2.2 (by omega)
    have HEQ : Hid (8 = openK p n nn) := by show 8 = openK p n nn; rw [← hkk, hk8]
    subst hk8
    clear hkk HAA
    rcases hp with hp | hp
    · go_wp2
      go_ret
      exact ⟨rfl, w2, none, by rw [← HEQ.out]; exact HP.out.1, HF3.out.mono (fun _ _ h => h.elim), HP.out.2, .inl ⟨by rw [← HEQ.out]; decide, H3.out.1⟩⟩
    · have hp' : decide (p < 1) = false := by simp; omega
      go_wp2
      go_ret
      exact ⟨rfl, w2, none, by rw [← HEQ.out]; exact HP.out.1, HF3.out.mono (fun _ _ h => h.elim), HP.out.2, .inl ⟨by rw [← HEQ.out]; decide, H3.out.1⟩⟩
  · have hp' : decide (p < 1) = false := by simp; omega
    have hp2 : decide (64 < p) = false := by simp; omega
    have hp3 : ¬ p < 1 := by omega
    have hp4 : ¬ 64 < p := by omega
    cases hi : inB n
    · have hk7 : kk = 7 := by rw [hkk]; simp [openK, hp, hi]
      obtain rfl : xo = none := HKK.out.2.2 (by omega)
      have HEQ : Hid (7 = openK p n nn) := by show 7 = openK p n nn; rw [← hkk, hk7]
      subst hk7
      clear hkk HAA hi hp
      go_wp2
      go_ret
      exact ⟨rfl, w2, none, by rw [← HEQ.out]; exact HP.out.1, HF3.out.mono (fun _ _ h => h.elim), HP.out.2, .inl ⟨by rw [← HEQ.out]; decide, H3.out.1⟩⟩
    · cases nn
      · have hk0 : kk = 0 := by rw [hkk]; simp [openK, hp, hi]
        obtain ⟨xa, rfl⟩ : ∃ a, xo = some a := by
          cases hx : xo with
          | none => exact absurd hk0 (HKK.out.2.1 hx)
          | some a => exact ⟨a, rfl⟩
        have HEQ : Hid (0 = openK p n false) := by show 0 = openK p n false; rw [← hkk, hk0]
        subst hk0
        clear hkk hi hp
        go_wp2_with fail
        refine (dTold_ok hd3).mono ?_
        rintro e w8 ⟨rfl, hw⟩
        rw [hw]
        clear hw
        have hff := found_ok (xp := some xa) H3.out.1 H3.out.2 (HLE.out.frz HF3.out).sagas (by omega) (fun r hr => ⟨HS0.out r hr, by rw [(HLE.out.m r hr).2.1]; simp, by rw [(HLE.out.m r hr).2.1]; simp⟩) hDA.symm p (HAA w2 w3 (some xa) HP.out.1 HF3.out)
        clear hd3 c0 c1 c3 cp0 HAA
        go_wp2_with fail
        refine hff.mono ?_
        rintro e w9 ⟨rfl, Lv', L', g1, g2, g3, g4, g5⟩
        have HG : Hid (LawAt w9 D A Pp n false (.pointer (some xa)) p 0 Lv' ∧ FoundL L L' ∧ w9.ownsRow w.heap.size 223 7 Lv' L.length (rcells L') ∧ (∀ r ∈ L', MayAt w9 r) ∧ Fr (· = D) w2 w9) := ⟨g1, g2, own_base2 g3 (Nat.le_trans HP.out.2 HF3.out.size), g4, (HF3.out.mono (fun _ _ h => h.elim)).trans g5 (fun _ _ h => h)⟩
        clear g1 g2 g3 g4 g5 hff
        go_wp2
        go_ret
        exact ⟨rfl, w2, some xa, by rw [← HEQ.out]; exact HP.out.1, HG.out.2.2.2.2, HP.out.2, .inr ⟨HEQ.out.symm, Lv', L', HG.out.1, HG.out.2.1, HG.out.2.2.1, HG.out.2.2.2.1⟩⟩
      · have hk6 : kk = 6 := by rw [hkk]; simp [openK, hp, hi]
        obtain rfl : xo = none := HKK.out.2.2 (by omega)
        have HEQ : Hid (6 = openK p n true) := by show 6 = openK p n true; rw [← hkk, hk6]
        subst hk6
        clear hkk HAA hi hp
        go_wp2_with fail
        refine (dTold_ok hd3).mono ?_
        rintro e w8 ⟨rfl, hw⟩
        rw [hw]
        clear hw
        go_wp2
        go_ret
        exact ⟨rfl, w2, none, by rw [← HEQ.out]; exact HP.out.1, HF3.out.mono (fun _ _ h => h.elim), HP.out.2, .inl ⟨by rw [← HEQ.out]; decide, H3.out.1⟩⟩
end Go.Proofs.YteebjgfalllbjaaGreatDoor
