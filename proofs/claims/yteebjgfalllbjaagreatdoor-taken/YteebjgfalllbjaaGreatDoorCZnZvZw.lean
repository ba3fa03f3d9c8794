import Derived.Test.YteebjgfalllbjaaGreatDoorCZsZmZp
import Derived.Test.YteebjgfalllbjaaGreatDoorCSaSvDv
namespace Go.Proofs.YteebjgfalllbjaaGreatDoor
open Go.RowKit
/-- A journal that is open, its volume and its disk. -/
structure JnG (w : World) (J V A B n base : Nat) (cache : Value) (s : DS) (e : Int) (sb : Bool) : Prop where
  v : VolAt w V A n
  d : DSAt w A B n base cache s
  j : JAt w J V e sb
def settleD (sb : Bool) (s : DS) (e : Nat) : Bool × DS := if sb = true then (true, s) else s.put e zB
def addD (sb : Bool) (s : DS) (e : Nat) (blk : List Value) : Bool × DS := if (settleD sb s e).1 = true then (settleD sb s e).2.put e blk else (false, (settleD sb s e).2)
/-- Above what a program is begun with. -/
def Hi (base A B J : Nat) : Prop := 0 < base ∧ base ≤ A ∧ base ≤ B ∧ base ≤ J
def JnF (A B J : Nat) (cache : Value) (b : Nat) : Prop := DkF A B cache b ∨ b = J
section
variable {w w' : World} {J V A B n base e : Nat} {cache : Value} {s : DS} {sb : Bool}
theorem JnG.frz {e : Int} (h : JnG w J V A B n base cache s e sb) (hf : Fr (fun _ => False) w w') : JnG w' J V A B n base cache s e sb := ⟨h.v.fr hf id, h.d.frz hf, h.j.fr hf id⟩
theorem JnG.fr {e : Int} {S : Nat → Prop} (h : JnG w J V A B n base cache s e sb) (hf : Fr S w w') (hS : ∀ b, JnF A B J cache b ∨ b = V → ¬ S b) : JnG w' J V A B n base cache s e sb := ⟨h.v.fr hf (hS _ (.inr rfl)), h.d.fr hf (fun b hb => hS b (.inl (.inl hb))), h.j.fr hf (hS _ (.inl (.inr rfl)))⟩
theorem CB.trans {w w1 : World} {c c1 c2 : Value} (h : CB w c c1) (h1 : CB w1 c1 c2) (hs : w.heap.size ≤ w1.heap.size) : CB w c c2 := fun b hb => by
  rcases h1 b hb with h2 | h2
  · exact h b h2
  · right; omega
theorem CB.refl (w : World) (c : Value) : CB w c c := fun _ h => .inl h
theorem jnf_step {w w1 w2 : World} {c c1 : Value} (hf : Fr (JnF A B J c) w w1) (hc : CB w c c1) (hf1 : Fr (JnF A B J c1) w1 w2) : Fr (JnF A B J c) w w2 := hf.trans hf1 (fun b hb h => by
  rcases h with (h | h | h) | h
  · exact .inl (.inl h)
  · exact .inl (.inr (.inl h))
  · rcases hc b h with h2 | h2
    · exact .inl (.inr (.inr h2))
    · omega
  · exact .inr h)
theorem gok_jnf (hG : GOk w) (hH : Hi base A B J) (h : DSAt w A B n base cache s) (hf : Fr (JnF A B J cache) w w') : GOk w' := hG.fr hf (by
  rintro ((e | e | e) | e)
  · have := hH; unfold Hi at this; omega
  · have := hH; unfold Hi at this; omega
  · have := (h.q.o.lt _ e).1; have := hH.1; omega
  · have := hH; unfold Hi at this; omega)
/-- What Settle and Add answer. -/
def ErrQ (ok : Bool) (w' : World) (v : Value) (P Q : Prop) : Prop := Sel ok (v = .nilIface ∧ P) (Q ∧ ∃ g, v = trV g ∧ TrAt w' g)
set_option maxRecDepth 100000 in
set_option maxHeartbeats 1000000 in
theorem Settle_gen (h : JnG w J V A B n base cache s e sb) (hH : Hi base A B J) (hq : s.d.Q) (hel : s.ents.length < 900000) (he : e < n) (HI : ItH e) (hG : GOk w) :
    Calls Tryz.prog 91 #[.pointer (some ⟨J, 0, none⟩)] w fun e' w' => ∃ v cache', e' = .returned v ∧ DSAt w' A B n base cache' (settleD sb s e).2 ∧ CB w cache cache' ∧ VolAt w' V A n ∧ Fr (JnF A B J cache) w w' ∧ ErrQ (settleD sb s e).1 w' v (JAt w' J V e true) (JAt w' J V e false) := by
  have hmf : ∀ (fn : Fn) (first cap : Array Value) (w : World), (Instr.makeFunc fn first cap).run Tryz.prog w = .ok (.func fn first cap) w := fun _ _ _ _ => rfl
  have hfa : Fr (fun _ => False) w (w.alloc (.cells #[.pointer (some ⟨J, 0, none⟩)] 87)) := (Fr.refl _ _).alloc _
  have hx := heap_alloc_at w (.cells #[.pointer (some ⟨J, 0, none⟩)] 87)
  have hA := h.frz hfa
  have c2 := hA.j.c2
  have hJl := lt_of_heap h.j
  have hAl := h.d.d.lt
  have hBl := lt_of_heap h.d.r.1
  have hVl := lt_of_heap h.v
  have hcl : ∀ b, cache.ownBlock = some b → b < w.heap.size := fun b hb => (h.d.q.o.lt b hb).2
  cases sb
  · have hT := Try_gen (w := w.alloc (.cells #[.pointer (some ⟨J, 0, none⟩)] 87)) (f := 138) (caps := #[.pointer (some ⟨w.heap.size, 0, none⟩)])
      (Q := fun v w' => ∃ cache', DSAt w' A B n base cache' (settleD false s e).2 ∧ CB w cache cache' ∧ VolAt w' V A n ∧ Fr (JnF A B J cache) w w' ∧ ErrQ (settleD false s e).1 w' v (JAt w' J V e true) (JAt w' J V e false)) (fun _ => by kernel_rfl) (by
        have hfb : Fr (fun _ => False) (w.alloc (.cells #[.pointer (some ⟨J, 0, none⟩)] 87)) ((w.alloc (.cells #[.pointer (some ⟨J, 0, none⟩)] 87)).alloc (.cells #[.nilIface] 36)) := (Fr.refl _ _).alloc _
        have hB := hA.frz hfb
        have hab := hfa.trans hfb (fun _ _ h => h)
        refine (Settle1_gen (hfb.keep hx (fun h => h)) hB.j hB.v hB.d hq hel he HI (hG.fr hab (fun h => h)) (by have := hH; unfold Hi at this; omega)).mono ?_
        rintro e' w1 ⟨cache1, d1, cb1, v1, f1, r1⟩
        have hno : ∀ b, w.heap.size ≤ b → ¬ (DkF A B cache b ∨ b = J) := by
          rintro b hb ((e | e | e) | e)
          · omega
          · omega
          · have := hcl b e; omega
          · omega
        have hE : w1.heap[(w.alloc (.cells #[.pointer (some ⟨J, 0, none⟩)] 87)).heap.size]? = some (.cells #[.nilIface] 36 (0, 0)) := f1.keep (heap_alloc_at _ _) (hno _ (by simp))
        have cb1' : CB w cache cache1 := fun b hb => (cb1 b hb).imp_right (fun h => Nat.le_trans hab.size h)
        have f1' : Fr (JnF A B J cache) w w1 := (hab.mono (fun _ _ h => h.elim)).trans f1 (fun _ _ h => h)
        have hset : ∀ (u : World) (v : Value), Fr (fun b => b = w.heap.size + 1) u (u.setCell ⟨(w.alloc (.cells #[.pointer (some ⟨J, 0, none⟩)] 87)).heap.size, 0, none⟩ v) := fun u v => by
          have := Fr.set1 u (w.alloc (.cells #[.pointer (some ⟨J, 0, none⟩)] 87)).heap.size 0 v
          simpa using this
        have hcn : ∀ {u : World} {s' : DS}, DSAt u A B n base cache1 s' → u.heap[(w.alloc (.cells #[.pointer (some ⟨J, 0, none⟩)] 87)).heap.size]? = some (.cells #[.nilIface] 36 (0, 0)) → ∀ b, DkF A B cache1 b → ¬ b = w.heap.size + 1 := by
          intro u s' hu hEu b hb e
          subst e
          have hEu' : u.heap[w.heap.size + 1]? = some (.cells #[.nilIface] 36 (0, 0)) := by simpa using hEu
          exact hu.not hEu' (by decide) hb
        refine ⟨hE, ?_⟩
        have hsD : settleD false s e = s.put e zB := rfl
        rcases r1.out with ⟨ok, rfl, j1⟩ | ⟨bad, j1, g, rfl, ht⟩
        · refine .inl ⟨_, rfl, rfl, cache1, d1.fr (hset _ _) (hcn d1 hE), cb1', v1.fr (hset _ _) (by omega), (f1'.trans (hset _ _) (fun b hb h => by omega)), Sel.pos ok ⟨rfl, j1.fr (hset _ _) (by omega)⟩⟩
        · refine .inr ⟨g, rfl, gok_jnf hG hH h.d f1', fun w2 hf2 => ?_⟩
          have hE2 := hf2.keep hE (fun h => h)
          have d2 := d1.frz hf2
          refine ⟨cache1, d2.fr (hset _ _) (hcn d2 hE2), cb1', (v1.fr hf2 id).fr (hset _ _) (by omega), ((f1'.trans (hf2.mono (fun _ _ h => h.elim)) (fun _ _ h => h)).trans (hset _ _) (fun b hb h => by omega)), Sel.neg bad ⟨(j1.fr hf2 id).fr (hset _ _) (by omega), g, rfl, ?_⟩⟩
          refine (ht.fr hf2 (fun _ _ _ _ _ h => h)).fr (hset _ _) (fun b c t hb ht e => ?_)
          subst e
          have hE3 : w2.heap[w.heap.size + 1]? = some (.cells #[.nilIface] 36 (0, 0)) := by simpa using hE2
          rw [hE3] at hb; simp at hb
          rw [← hb.2] at ht
          revert ht; decide)
    clear hfa hx hA
    go_enter Tryz.func91, Tryz.ntmps91
    go_wp2_with fail
    refine hT.mono ?_
    rintro e' w1 ⟨v, rfl, hQ⟩
    have HQ : Hid (∃ cache', DSAt w1 A B n base cache' (settleD false s e).2 ∧ CB w cache cache' ∧ VolAt w1 V A n ∧ Fr (JnF A B J cache) w w1 ∧ ErrQ (settleD false s e).1 w1 v (JAt w1 J V e true) (JAt w1 J V e false)) := hQ
    clear hT hQ
    go_wp2
    go_ret
    obtain ⟨c', q⟩ := HQ.out
    exact ⟨_, c', rfl, q⟩
  · have HQ : Hid (∃ cache', DSAt (w.alloc (.cells #[.pointer (some ⟨J, 0, none⟩)] 87)) A B n base cache' (settleD true s e).2 ∧ CB w cache cache' ∧ VolAt (w.alloc (.cells #[.pointer (some ⟨J, 0, none⟩)] 87)) V A n ∧ Fr (JnF A B J cache) w (w.alloc (.cells #[.pointer (some ⟨J, 0, none⟩)] 87)) ∧ ErrQ (settleD true s e).1 (w.alloc (.cells #[.pointer (some ⟨J, 0, none⟩)] 87)) .nilIface (JAt (w.alloc (.cells #[.pointer (some ⟨J, 0, none⟩)] 87)) J V e true) (JAt (w.alloc (.cells #[.pointer (some ⟨J, 0, none⟩)] 87)) J V e false)) := ⟨cache, hA.d, CB.refl _ _, hA.v, hfa.mono (fun _ _ h => h.elim), Sel.pos rfl ⟨rfl, hA.j⟩⟩
    clear hfa hx hA
    go_enter Tryz.func91, Tryz.ntmps91
    go_wp2
    go_ret
    obtain ⟨c', q⟩ := HQ.out
    exact ⟨_, c', rfl, q⟩
set_option maxRecDepth 100000 in
set_option maxHeartbeats 1000000 in
theorem Add_gen {blk : List Value} (h : JnG w J V A B n base cache s e sb) (hH : Hi base A B J) (hq : s.d.Q) (hq2 : (settleD sb s e).2.d.Q) (hel : s.ents.length < 800000) (he : e < n) (hn : n ≤ 400) (HI : ItH e) (hG : GOk w) (hl : blk.length = 128) (hb1 : ∀ v ∈ blk, v.oneCell' = true) :
    Calls Tryz.prog 61 #[.pointer (some ⟨J, 0, none⟩), .agg blk.toArray] w fun e' w' => ∃ v cache', e' = .returned v ∧ DSAt w' A B n base cache' (addD sb s e blk).2 ∧ CB w cache cache' ∧ VolAt w' V A n ∧ Fr (JnF A B J cache) w w' ∧ ErrQ (addD sb s e blk).1 w' v (JAt w' J V ((e : Int) + 1) true) (∃ sb', JAt w' J V e sb') := by
  have hmf : ∀ (fn : Fn) (first cap : Array Value) (w : World), (Instr.makeFunc fn first cap).run Tryz.prog w = .ok (.func fn first cap) w := fun _ _ _ _ => rfl
  obtain ⟨W, HW⟩ : ∃ W, Hid (W = (w.alloc (.cells #[.pointer (some ⟨J, 0, none⟩)] 87)).alloc (.cells blk.toArray 130)) := ⟨_, rfl⟩
  have hfa : Fr (fun _ => False) w W := by rw [HW.out]; exact ((Fr.refl _ _).alloc _).alloc _
  have hx : W.heap[w.heap.size]? = some (.cells #[.pointer (some ⟨J, 0, none⟩)] 87 (0, 0)) := by rw [HW.out, heap_alloc_lt _ _ _ (by simp)]; exact heap_alloc_at _ _
  have hx2 : W.heap[w.heap.size + 1]? = some (.cells blk.toArray 130 (0, 0)) := by rw [HW.out]; exact heap_alloc2_new w _ _
  have hA := h.frz hfa
  have cx : ((w.alloc (.cells #[.pointer (some ⟨J, 0, none⟩)] 87)).alloc (.cells blk.toArray 130)).cell? ⟨w.heap.size, 0, none⟩ = some (.pointer (some ⟨J, 0, none⟩)) := by rw [← HW.out]; exact (cell_of_row W _ 0 _ _ _ hx).trans rfl
  have hJl := lt_of_heap h.j
  have hAl := h.d.d.lt
  have hBl := lt_of_heap h.d.r.1
  have hVl := lt_of_heap h.v
  have hcl : ∀ b, cache.ownBlock = some b → b < w.heap.size := fun b hb => (h.d.q.o.lt b hb).2
  have hno : ∀ b, w.heap.size ≤ b → ¬ JnF A B J cache b := by
    rintro b hb ((e | e | e) | e)
    · omega
    · omega
    · have := hcl b e; omega
    · omega
  have hs := Settle_gen hA hH hq (by omega) he HI (hG.fr hfa (fun h => h))
  have hGw := hG
  go_enter Tryz.func61, Tryz.ntmps61
  go_wp2_with fail
  rw [← HW.out]
  refine hs.mono ?_
  rintro e' w1 ⟨v1, cache1, rfl, d1, cb1, vo1, hf1, r1⟩
  have x1 := hf1.keep hx (hno _ (Nat.le_refl _))
  have x2 := hf1.keep hx2 (hno _ (by omega))
  have cb1' : CB w cache cache1 := fun b hb => (cb1 b hb).imp_right (fun h => Nat.le_trans hfa.size h)
  have hF1 : Fr (JnF A B J cache) w w1 := (hfa.mono (fun _ _ h => h.elim)).trans hf1 (fun _ _ h => h)
  have hG1 : GOk w1 := gok_jnf hG hH h.d hF1
  have hsz1 : w.heap.size + 1 < w1.heap.size := lt_of_heap x2
  have hlen1 : (settleD sb s e).2.ents.length < 900000 := by
    unfold settleD DS.put DS.store DS.secure DS.fail
    repeat' split
    all_goals simp
    all_goals omega
  rcases r1.out with ⟨ok, rfl, j1⟩ | ⟨bad, j1, g, rfl, ht⟩
  · clear HW hfa hx hx2 hA cx hs hf1
    have hcl1 : ∀ b, cache1.ownBlock = some b → b < w1.heap.size := fun b hb => (d1.q.o.lt b hb).2
    have hno1 : ∀ b, w1.heap.size ≤ b → ¬ JnF A B J cache1 b := by
      rintro b hb ((e | e | e) | e)
      · omega
      · omega
      · have := hcl1 b e; omega
      · omega
    have haD : addD sb s e blk = (settleD sb s e).2.put e blk := by unfold addD; rw [if_pos ok]
    obtain ⟨s1, HS1⟩ : ∃ s1, Hid (s1 = (settleD sb s e).2) := ⟨_, rfl⟩
    rw [← HS1.out] at d1 haD hq2 hlen1
    have hT := Try_gen (w := w1) (f := 93) (caps := #[.pointer (some ⟨w.heap.size, 0, none⟩), .pointer (some ⟨w.heap.size + 1, 0, none⟩)])
      (Q := fun v w' => ∃ cache', DSAt w' A B n base cache' (addD sb s e blk).2 ∧ CB w cache cache' ∧ VolAt w' V A n ∧ Fr (JnF A B J cache) w w' ∧ ErrQ (addD sb s e blk).1 w' v (JAt w' J V ((e : Int) + 1) true) (∃ sb', JAt w' J V e sb')) (fun _ => by kernel_rfl) (by
        have hfb : Fr (fun _ => False) w1 (w1.alloc (.cells #[.nilIface] 36)) := (Fr.refl _ _).alloc _
        refine (Add1_gen (hfb.keep x1 (fun h => h)) (hfb.keep x2 (fun h => h)) hl hb1 (j1.fr hfb id) (vo1.fr hfb id) (d1.frz hfb) hq2 hlen1 he hn HI (hG1.fr hfb (fun h => h)) (by have := hH; unfold Hi at this; omega)).mono ?_
        rintro e' w2 ⟨cache2, d2, cb2, v2, f2, r2⟩
        have cb2' : CB w cache cache2 := cb1'.trans (fun b hb => (cb2 b hb).imp_right (fun h => Nat.le_trans hfb.size h)) hF1.size
        have f2' : Fr (JnF A B J cache) w w2 := jnf_step hF1 cb1' ((hfb.mono (fun _ _ h => h.elim)).trans f2 (fun _ _ h => h))
        have hE : w2.heap[w1.heap.size]? = some (.cells #[.nilIface] 36 (0, 0)) := f2.keep (heap_alloc_at _ _) (hno1 _ (Nat.le_refl _))
        have hset : ∀ (u : World) (v : Value), Fr (fun b => b = w1.heap.size) u (u.setCell ⟨w1.heap.size, 0, none⟩ v) := fun u v => Fr.set1 _ _ _ _
        have hcn : ∀ {u : World} {s' : DS}, DSAt u A B n base cache2 s' → u.heap[w1.heap.size]? = some (.cells #[.nilIface] 36 (0, 0)) → ∀ b, DkF A B cache2 b → ¬ b = w1.heap.size := by
          intro u s' hu hEu b hb e
          subst e
          exact hu.not hEu (by decide) hb
        rw [haD]
        refine ⟨hE, ?_⟩
        rcases r2.out with ⟨ok2, rfl, j2⟩ | ⟨bad2, j2, g, rfl, ht⟩
        · exact .inl ⟨_, rfl, rfl, cache2, d2.fr (hset _ _) (hcn d2 hE), cb2', v2.fr (hset _ _) (by omega), (f2'.trans (hset _ _) (fun b hb h => by omega)), Sel.pos ok2 ⟨rfl, j2.fr (hset _ _) (by omega)⟩⟩
        · refine .inr ⟨g, rfl, gok_jnf hGw hH h.d f2', fun w3 hf3 => ?_⟩
          have hE3 := hf3.keep hE (fun h => h)
          have d3 := d2.frz hf3
          refine ⟨cache2, d3.fr (hset _ _) (hcn d3 hE3), cb2', (v2.fr hf3 id).fr (hset _ _) (by omega), ((f2'.trans (hf3.mono (fun _ _ h => h.elim)) (fun _ _ h => h)).trans (hset _ _) (fun b hb h => by omega)), Sel.neg bad2 ⟨⟨true, (j2.fr hf3 id).fr (hset _ _) (by omega)⟩, g, rfl, ?_⟩⟩
          refine (ht.fr hf3 (fun _ _ _ _ _ h => h)).fr (hset _ _) (fun b c t hb ht e => ?_)
          subst e
          rw [hE3] at hb; simp at hb
          rw [← hb.2] at ht
          revert ht; decide)
    go_wp2_with fail
    refine hT.mono ?_
    rintro e' w3 ⟨v, rfl, hQ⟩
    have HQ : Hid (∃ cache', DSAt w3 A B n base cache' (addD sb s e blk).2 ∧ CB w cache cache' ∧ VolAt w3 V A n ∧ Fr (JnF A B J cache) w w3 ∧ ErrQ (addD sb s e blk).1 w3 v (JAt w3 J V ((e : Int) + 1) true) (∃ sb', JAt w3 J V e sb')) := hQ
    clear hT hQ
    go_wp2
    go_ret
    obtain ⟨c', q⟩ := HQ.out
    exact ⟨_, c', rfl, q⟩
  · have haD : addD sb s e blk = (false, (settleD sb s e).2) := by unfold addD; rw [if_neg bad]
    have HQ : Hid (∃ cache', DSAt w1 A B n base cache' (addD sb s e blk).2 ∧ CB w cache cache' ∧ VolAt w1 V A n ∧ Fr (JnF A B J cache) w w1 ∧ ErrQ (addD sb s e blk).1 w1 (trV g) (JAt w1 J V ((e : Int) + 1) true) (∃ sb', JAt w1 J V e sb')) := by
      rw [haD]
      exact ⟨cache1, d1, cb1', vo1, hF1, Sel.neg (by simp) ⟨⟨_, j1⟩, g, rfl, ht⟩⟩
    clear HW hfa hx hx2 hA cx hs hf1 d1 vo1 j1 ht
    unfold trV at *
    go_wp2
    go_ret
    obtain ⟨c', q⟩ := HQ.out
    exact ⟨_, c', rfl, q⟩
end
end Go.Proofs.YteebjgfalllbjaaGreatDoor
namespace Go.Proofs.YteebjgfalllbjaaGreatDoor
open Go.RowKit
/-- A block that is no whole record, nor is one when sectors of it are wiped. -/
structure Torn (tl : List Value) : Prop where
  len : tl.length = 128
  one : ∀ v ∈ tl, v.oneCell' = true
  k : ∃ b : Nat → Nat, (∀ i, i < 4 → tl[i * 32]? = some (.int .u8 (b i))) ∧ ∃ i, i < 4 ∧ b i = 0
theorem Torn.not {tl : List Value} (h : Torn tl) : ∃ b : Nat → Nat, (∀ i, i < 4 → tl[i * 32]? = some (.int .u8 (b i))) ∧ wholeK b = false := by
  obtain ⟨b, hb, i, hi, h0⟩ := h.k
  refine ⟨b, hb, ?_⟩
  unfold wholeK
  rw [decide_eq_false_iff_not]
  rintro ⟨h1, h2⟩
  have := h1 ⟨i, hi⟩
  simp only at this
  omega
theorem zB_get {i : Nat} (h : i < 128) : zB[i]? = some (.int .u8 0) := by unfold zB; rw [List.getElem?_replicate, if_pos h]
theorem torn_zB : Torn zB := ⟨zB_len, zB_one, fun _ => 0, fun i hi => zB_get (by omega), 0, by decide, rfl⟩
/-- A journal: a head, records, a block that holds none, noughts. -/
structure LayJ (n m : Nat) (cont : List Value) (recs : List (List Value)) (tl : List Value) : Prop where
  nm : n ≤ m
  len : cont.length = m * 128
  one : ∀ v ∈ cont, v.oneCell' = true
  head : blkOf cont 0 = headB n
  get : ∀ (i : Nat) (r : List Value), recs[i]? = some r → blkOf cont (i + 1) = r
  tail : recs.length + 1 < n → blkOf cont (recs.length + 1) = tl ∧ Torn tl
  zero : ∀ i, recs.length + 1 < i → i < n → blkOf cont i = zB
section
variable {n m : Nat} {cont : List Value} {recs : List (List Value)} {tl : List Value}
theorem LayJ.lay (h : LayJ n m cont recs tl) : LayT n cont recs tl := ⟨⟨m, h.nm, h.len⟩, h.one, h.head, h.get, fun hn => (h.tail hn).1, fun hn => (h.tail hn).2.not, h.zero⟩
theorem LayJ.oneS (h : LayJ n m cont recs tl) {c : List Value} {o : Nat} (hc : ∀ v ∈ c, v.oneCell' = true) : ∀ v ∈ splice cont o c, v.oneCell' = true := fun v hv => by
  rcases mem_splice hv with hv | hv
  · exact h.one v hv
  · exact hc v hv
/-- Its end is wiped. -/
theorem LayJ.wipe (h : LayJ n m cont recs tl) (he : recs.length + 1 < n) : LayJ n m (splice cont ((recs.length + 1) * 128) zB) recs zB := by
  have hm := h.nm
  have hb : ∀ i, i < m → blkOf (splice cont ((recs.length + 1) * 128) zB) i = if recs.length + 1 = i then zB else blkOf cont i := fun i hi => blk_splice h.len zB_len (by omega) hi
  refine ⟨h.nm, by rw [splice_len (by rw [zB_len, h.len]; omega), h.len], h.oneS zB_one, ?_, ?_, ?_, ?_⟩
  · rw [hb 0 (by omega), if_neg (by omega)]; exact h.head
  · intro i r hr
    have := (List.getElem?_eq_some_iff.1 hr).1
    rw [hb (i + 1) (by omega), if_neg (by omega)]; exact h.get i r hr
  · intro _
    rw [hb _ (by omega), if_pos rfl]; exact ⟨rfl, torn_zB⟩
  · intro i h1 h2
    rw [hb i (by omega), if_neg (by omega)]; exact h.zero i h1 h2
/-- A record is added. -/
theorem LayJ.add {r : List Value} (h : LayJ n m cont recs tl) (he : recs.length + 1 < n) (hl : r.length = 128) (ho : ∀ v ∈ r, v.oneCell' = true) : LayJ n m (splice cont ((recs.length + 1) * 128) r) (recs ++ [r]) zB := by
  have hm := h.nm
  have hb : ∀ i, i < m → blkOf (splice cont ((recs.length + 1) * 128) r) i = if recs.length + 1 = i then r else blkOf cont i := fun i hi => blk_splice h.len hl (by omega) hi
  refine ⟨h.nm, by rw [splice_len (by rw [hl, h.len]; omega), h.len], h.oneS ho, ?_, ?_, ?_, ?_⟩
  · rw [hb 0 (by omega), if_neg (by omega)]; exact h.head
  · intro i x hx
    have hlt := (List.getElem?_eq_some_iff.1 hx).1
    rw [List.length_append, List.length_singleton] at hlt
    rw [hb (i + 1) (by omega)]
    by_cases hi : recs.length = i
    · rw [if_pos (by omega)]
      rw [← hi, List.getElem?_append_right (Nat.le_refl _), Nat.sub_self] at hx
      simpa using hx
    · rw [if_neg (by omega)]
      rw [List.getElem?_append_left (by omega)] at hx
      exact h.get i x hx
  · rw [List.length_append, List.length_singleton]
    intro hn
    rw [hb _ (by omega), if_neg (by omega)]
    exact ⟨h.zero _ (by omega) hn, torn_zB⟩
  · rw [List.length_append, List.length_singleton]
    intro i h1 h2
    rw [hb i (by omega), if_neg (by omega)]; exact h.zero i (by omega) h2
end
/-- Writes of noughts behind a journal's end. -/
def ZW (n e : Nat) (ents : List (Nat × List Value)) : Prop := ∀ p ∈ ents, p = (e, zB) ∧ e < n
theorem ZW.snoc {n e : Nat} {ents : List (Nat × List Value)} (h : ZW n e ents) (he : e < n) : ZW n e (ents ++ [(e, zB)]) := fun p hp => by
  rcases List.mem_append.1 hp with hp | hp
  · exact h p hp
  · exact ⟨List.mem_singleton.1 hp, he⟩
theorem LayJ.wipes {n m : Nat} {recs : List (List Value)} : ∀ {ents : List (Nat × List Value)} {cont tl : List Value}, LayJ n m cont recs tl → ZW n (recs.length + 1) ents → (ents = [] ∧ lain cont ents = cont) ∨ LayJ n m (lain cont ents) recs zB
  | [], _, _, _, _ => .inl ⟨rfl, rfl⟩
  | p :: l, cont, tl, h, hz => by
    obtain ⟨rfl, he⟩ := hz p (by simp)
    have h1 := h.wipe he
    have e : lain cont ((recs.length + 1, zB) :: l) = lain (splice cont ((recs.length + 1) * 128) zB) l := rfl
    rw [e]
    rcases LayJ.wipes (ents := l) h1 (fun q hq => hz q (by simp [hq])) with ⟨_, h2⟩ | h2
    · rw [h2]; exact .inr h1
    · exact .inr h2
theorem LayJ.wipes' {n m : Nat} {recs : List (List Value)} {ents : List (Nat × List Value)} {cont tl : List Value} (h : LayJ n m cont recs tl) (hz : ZW n (recs.length + 1) ents) : ∃ tl', LayJ n m (lain cont ents) recs tl' := by
  rcases h.wipes hz with ⟨_, h1⟩ | h1
  · rw [h1]; exact ⟨tl, h⟩
  · exact ⟨zB, h1⟩
/-- How a journal stands on a disk: what is pending is noughts at its end; or its last record, ahead of such. -/
def JD (n : Nat) (s : DS) (recs : List (List Value)) : Prop :=
  (∃ tl, LayJ n s.d.cap s.bs recs tl ∧ ZW n (recs.length + 1) s.ents) ∨
  (∃ rs0 r es, recs = rs0 ++ [r] ∧ LayJ n s.d.cap s.bs rs0 zB ∧ s.ents = (rs0.length + 1, r) :: es ∧ ZW n (recs.length + 1) es ∧ RecOk r ∧ rs0.length + 1 < n)
/-- .. where all records are sure. -/
def JZ (n : Nat) (s : DS) (recs : List (List Value)) : Prop := ∃ tl, LayJ n s.d.cap s.bs recs tl ∧ ZW n (recs.length + 1) s.ents
/-- .. and where all of it is sure, and noughts behind it. -/
def JSet (n : Nat) (s : DS) (recs : List (List Value)) : Prop := LayJ n s.d.cap s.bs recs zB ∧ s.ents = []
section
variable {n : Nat} {s : DS} {recs : List (List Value)}
theorem JZ.jd (h : JZ n s recs) : JD n s recs := .inl h
theorem JSet.jz (h : JSet n s recs) : JZ n s recs := ⟨zB, h.1, by rw [h.2]; exact fun p hp => absurd hp (by simp)⟩
theorem JZ.keep {s' : DS} (h : JZ n s recs) (h1 : s'.ents = s.ents) (h2 : s'.bs = s.bs) (h3 : s'.d.cap = s.d.cap) : JZ n s' recs := by
  unfold JZ
  rw [h1, h2, h3]; exact h
theorem JZ.wipe {s' : DS} (h : JZ n s recs) (he : recs.length + 1 < n) (h1 : s'.ents = s.ents ++ [(recs.length + 1, zB)]) (h2 : s'.bs = s.bs) (h3 : s'.d.cap = s.d.cap) : JZ n s' recs := by
  obtain ⟨tl, h4, h5⟩ := h
  exact ⟨tl, by rw [h2, h3]; exact h4, by rw [h1]; exact h5.snoc he⟩
theorem JSet.jd (h : JSet n s recs) : JD n s recs := .inl ⟨zB, h.1, by rw [h.2]; exact fun p hp => absurd hp (by simp)⟩
theorem JD.view (h : JD n s recs) : ∃ tl, LayJ n s.d.cap (lain s.bs s.ents) recs tl := by
  rcases h with ⟨tl, h1, h2⟩ | ⟨rs0, r, es, rfl, h1, h2, h3, h4, h5⟩
  · exact h1.wipes' h2
  · rw [h2]
    exact (h1.add h5 h4.1 h4.2.1).wipes' h3
theorem JD.keep {s' : DS} (h : JD n s recs) (h1 : s'.ents = s.ents) (h2 : s'.bs = s.bs) (h3 : s'.d.cap = s.d.cap) : JD n s' recs := by
  unfold JD
  rw [h1, h2, h3]; exact h
theorem JD.wipe {s' : DS} (h : JD n s recs) (he : recs.length + 1 < n) (h1 : s'.ents = s.ents ++ [(recs.length + 1, zB)]) (h2 : s'.bs = s.bs) (h3 : s'.d.cap = s.d.cap) : JD n s' recs ∧ LayJ n s'.d.cap (lain s'.bs s'.ents) recs zB := by
  rw [h1, h2, h3]
  have hl : ∀ ents, lain s.bs (ents ++ [(recs.length + 1, zB)]) = splice (lain s.bs ents) ((recs.length + 1) * 128) zB := fun ents => by simp [lain]
  obtain ⟨tl, hv⟩ := h.view
  refine ⟨?_, by rw [hl]; exact hv.wipe he⟩
  rcases h with ⟨tl, h4, h5⟩ | ⟨rs0, r, es, rfl, h4, h5, h6, h7, h8⟩
  · exact .inl ⟨tl, by rw [h2, h3]; exact h4, by rw [h1]; exact h5.snoc he⟩
  · exact .inr ⟨rs0, r, es ++ [((rs0 ++ [r]).length + 1, zB)], rfl, by rw [h2, h3]; exact h4, by rw [h1, h5]; rfl, h6.snoc he, h7, h8⟩
theorem JSet.pend {s' : DS} {r : List Value} (h : JSet n s recs) (he : recs.length + 1 < n) (hr : RecOk r) (h1 : s'.ents = s.ents ++ [(recs.length + 1, r)]) (h2 : s'.bs = s.bs) (h3 : s'.d.cap = s.d.cap) : JD n s' (recs ++ [r]) ∧ LayJ n s'.d.cap (lain s'.bs s'.ents) (recs ++ [r]) zB := by
  have e : s'.ents = [(recs.length + 1, r)] := by rw [h1, h.2]; rfl
  refine ⟨.inr ⟨recs, r, [], rfl, by rw [h2, h3]; exact h.1, e, fun p hp => absurd hp (by simp), hr, he⟩, ?_⟩
  rw [e, h2, h3]
  exact h.1.add he hr.1 hr.2.1
/-- What it counts moves by a few. -/
structure Moved (k : Int) (a b : DP) : Prop where
  c0 : a.calls ≤ b.calls
  c1 : b.calls ≤ a.calls + k
  w0 : a.writes ≤ b.writes
  w1 : b.writes ≤ a.writes + k
  t0 : a.told ≤ b.told
  t1 : b.told ≤ a.told + k
  o : b.off = a.off
  l : b.lo = a.lo
  h : b.hi = a.hi
  c : b.cap = a.cap
theorem Moved.refl (a : DP) : Moved 0 a a := ⟨by omega, by omega, by omega, by omega, by omega, by omega, rfl, rfl, rfl, rfl⟩
theorem Moved.trans {a b c : DP} {k l : Int} (h : Moved k a b) (h' : Moved l b c) : Moved (k + l) a c := by
  obtain ⟨a1, a2, a3, a4, a5, a6, a7, a8, a9, a0⟩ := h
  obtain ⟨b1, b2, b3, b4, b5, b6, b7, b8, b9, b0⟩ := h'
  exact ⟨by omega, by omega, by omega, by omega, by omega, by omega, by omega, by omega, by omega, by omega⟩
theorem Moved.mono {a b : DP} {k l : Int} (h : Moved k a b) (hk : k ≤ l) : Moved l a b := by
  obtain ⟨a1, a2, a3, a4, a5, a6, a7, a8, a9, a0⟩ := h
  exact ⟨by omega, by omega, by omega, by omega, by omega, by omega, a7, a8, a9, a0⟩
theorem moved_next (a : DP) : Moved 1 a a.next := by
  have := a.told_next
  exact ⟨by show a.calls ≤ a.calls + 1; omega, by show a.calls + 1 ≤ a.calls + 1; omega, Int.le_refl _, by show a.writes ≤ a.writes + 1; omega, this.1, this.2, rfl, rfl, rfl, rfl⟩
theorem moved_wrote (a : DP) : Moved 1 a a.next.wrote := by
  have := a.told_next
  exact ⟨by show a.calls ≤ a.calls + 1; omega, by show a.calls + 1 ≤ a.calls + 1; omega, by show a.writes ≤ a.writes + 1; omega, by show a.writes + 1 ≤ a.writes + 1; omega, this.1, this.2, rfl, rfl, rfl, rfl⟩
theorem Moved.good {a b : DP} {k : Int} (h : Moved k a b) (hg : a.good) : b.good := ⟨by rw [h.o]; exact hg.1, by rw [h.h, h.l]; exact hg.2⟩
/-- A block is put: how the disk stands then. -/
theorem put_cases (s : DS) (i : Nat) (b : List Value) : Moved 2 s.d (s.put i b).2.d ∧ (s.d.good → (s.put i b).1 = true) ∧ (s.put i b).2.ents.length ≤ s.ents.length + 1 ∧
    (((s.put i b).1 = false ∧ (s.put i b).2.ents = s.ents ∧ (s.put i b).2.bs = s.bs) ∨ ((s.put i b).1 = false ∧ (s.put i b).2.ents = s.ents ++ [(i, b)] ∧ (s.put i b).2.bs = s.bs) ∨ ((s.put i b).1 = true ∧ (s.put i b).2.ents = [] ∧ (s.put i b).2.bs = lain s.bs (s.ents ++ [(i, b)]))) := by
  unfold DS.put
  by_cases h1 : s.d.bad = true
  · have e : s.store i b = (false, s.fail) := by unfold DS.store; rw [if_pos h1]
    rw [e]
    refine ⟨(moved_next s.d).mono (by decide), (fun hg => by rw [hg.bad] at h1; cases h1), Nat.le_succ _, .inl ⟨rfl, rfl, rfl⟩⟩
  · have e : s.store i b = (true, ⟨s.d.next.wrote, s.ents ++ [(i, b)], s.bs⟩) := by unfold DS.store; rw [if_neg h1]
    rw [e]
    simp only [if_true]
    unfold DS.secure
    by_cases h2 : s.d.next.wrote.bad = true
    · rw [if_pos h2]
      refine ⟨(moved_wrote s.d).trans (moved_next _), (fun hg => by have := ((moved_wrote s.d).good hg).bad; rw [this] at h2; cases h2), by simp [DS.fail], .inr (.inl ⟨rfl, rfl, rfl⟩)⟩
    · rw [if_neg h2]
      exact ⟨(moved_wrote s.d).trans (moved_next _), fun _ => rfl, Nat.zero_le _, .inr (.inr ⟨rfl, rfl, rfl⟩)⟩
theorem settle_jd {sb : Bool} (h : JD n s recs) (hs : sb = true → JSet n s recs) (he : recs.length + 1 < n) :
    Moved 2 s.d (settleD sb s (recs.length + 1)).2.d ∧ (s.d.good → (settleD sb s (recs.length + 1)).1 = true) ∧ (settleD sb s (recs.length + 1)).2.ents.length ≤ s.ents.length + 1 ∧ (JD n (settleD sb s (recs.length + 1)).2 recs ∧ (JZ n s recs → JZ n (settleD sb s (recs.length + 1)).2 recs)) ∧ ((settleD sb s (recs.length + 1)).1 = true → JSet n (settleD sb s (recs.length + 1)).2 recs) := by
  cases sb with
  | true => exact ⟨(Moved.refl _).mono (by decide), fun _ => rfl, Nat.le_succ _, ⟨h, fun h => h⟩, fun _ => hs rfl⟩
  | false =>
    have e : settleD false s (recs.length + 1) = s.put (recs.length + 1) zB := rfl
    rw [e]
    obtain ⟨p1, p2, p3, p4⟩ := put_cases s (recs.length + 1) zB
    refine ⟨p1, p2, p3, ?_⟩
    rcases p4 with ⟨q1, q2, q3⟩ | ⟨q1, q2, q3⟩ | ⟨q1, q2, q3⟩
    · exact ⟨⟨h.keep q2 q3 p1.c, fun h => h.keep q2 q3 p1.c⟩, (fun h => by rw [q1] at h; cases h)⟩
    · exact ⟨⟨(h.wipe he q2 q3 p1.c).1, fun h => h.wipe he q2 q3 p1.c⟩, fun h => by rw [q1] at h; cases h⟩
    · have h1 := (h.wipe (s' := ⟨s.d, s.ents ++ [(recs.length + 1, zB)], s.bs⟩) he rfl rfl rfl).2
      have h2 : JSet n (s.put (recs.length + 1) zB).2 recs := ⟨by rw [q3, p1.c]; exact h1, q2⟩
      exact ⟨⟨h2.jd, fun _ => h2.jz⟩, fun _ => h2⟩
theorem add_jd {sb : Bool} {r : List Value} (h : JD n s recs) (hs : sb = true → JSet n s recs) (he : recs.length + 1 < n) (hr : RecOk r) :
    Moved 4 s.d (addD sb s (recs.length + 1) r).2.d ∧ (s.d.good → (addD sb s (recs.length + 1) r).1 = true) ∧ (addD sb s (recs.length + 1) r).2.ents.length ≤ s.ents.length + 2 ∧ ((addD sb s (recs.length + 1) r).1 = true → JSet n (addD sb s (recs.length + 1) r).2 (recs ++ [r])) ∧ (¬ (addD sb s (recs.length + 1) r).1 = true → (JD n (addD sb s (recs.length + 1) r).2 recs ∧ (JZ n s recs → JZ n (addD sb s (recs.length + 1) r).2 recs)) ∨ JD n (addD sb s (recs.length + 1) r).2 (recs ++ [r])) := by
  obtain ⟨a1, a2, a3, a4, a5⟩ := settle_jd h hs he
  unfold addD
  by_cases hok : (settleD sb s (recs.length + 1)).1 = true
  · rw [if_pos hok]
    have hS := a5 hok
    generalize (settleD sb s (recs.length + 1)).2 = s1 at *
    obtain ⟨p1, p2, p3, p4⟩ := put_cases s1 (recs.length + 1) r
    refine ⟨a1.trans p1, fun hg => p2 (a1.good hg), by omega, ?_⟩
    rcases p4 with ⟨q1, q2, q3⟩ | ⟨q1, q2, q3⟩ | ⟨q1, q2, q3⟩
    · exact ⟨(fun h => by rw [q1] at h; cases h), fun _ => .inl ⟨a4.1.keep q2 q3 p1.c, fun _ => hS.jz.keep q2 q3 p1.c⟩⟩
    · exact ⟨(fun h => by rw [q1] at h; cases h), fun _ => .inr (hS.pend he hr q2 q3 p1.c).1⟩
    · have h1 := (hS.pend (s' := ⟨s1.d, s1.ents ++ [(recs.length + 1, r)], s1.bs⟩) he hr rfl rfl rfl).2
      exact ⟨fun _ => ⟨by rw [q3, p1.c]; exact h1, q2⟩, fun h => absurd q1 h⟩
  · rw [if_neg hok]
    exact ⟨a1.mono (by decide), fun hg => absurd (a2 hg) hok, by show (settleD sb s (recs.length + 1)).2.ents.length ≤ _; omega, (fun h => by cases h), fun _ => .inl a4⟩
end
end Go.Proofs.YteebjgfalllbjaaGreatDoor
namespace Go.Proofs.YteebjgfalllbjaaGreatDoor
open Go.RowKit
theorem splice_get {b c : List Value} {o : Nat} (h : o + c.length ≤ b.length) (j : Nat) : (splice b o c)[j]? = if j < o then b[j]? else if j < o + c.length then c[j - o]? else b[j]? := by
  unfold splice
  have ho : (b.take o).length = o := by rw [List.length_take]; omega
  by_cases h1 : j < o
  · rw [if_pos h1, List.getElem?_append_left (by omega), List.getElem?_take_of_lt h1]
  · rw [if_neg h1, List.getElem?_append_right (by omega), ho]
    by_cases h2 : j < o + c.length
    · rw [if_pos h2, List.getElem?_append_left (by omega)]
    · rw [if_neg h2, List.getElem?_append_right (by omega), List.getElem?_drop]
      congr 1; omega
theorem blk_get {b : List Value} (i j : Nat) (hj : j < 128) : (blkOf b i)[j]? = b[i * 128 + j]? := by
  unfold blkOf
  rw [List.getElem?_take_of_lt hj, List.getElem?_drop]
theorem cutS_len {b dd : List Value} {a : Nat} {z : Int} (hd : dd.length = 128) (ha : a * 128 + 128 ≤ b.length) : ∀ t, t ≤ 4 → (cutS b a dd z t).length = b.length
  | 0, _ => rfl
  | t + 1, ht => by
    have ih := cutS_len (z := z) hd ha t (by omega)
    have hs := sect_len hd (t := t) (by omega)
    rw [cutS]
    split
    · rw [splice_len (by omega), ih]
    · exact ih
theorem cutS_get {b dd : List Value} {a : Nat} {z : Int} (hd : dd.length = 128) (ha : a * 128 + 128 ≤ b.length) : ∀ t, t ≤ 4 → ∀ j, (cutS b a dd z t)[j]? = if a * 128 ≤ j ∧ j < a * 128 + t * 32 ∧ bitZ z ((j - a * 128) / 32) = true then dd[j - a * 128]? else b[j]?
  | 0, _, j => by rw [if_neg (by omega)]; rfl
  | t + 1, ht, j => by
    have ih := cutS_get (z := z) hd ha t (by omega) j
    have hl := cutS_len (z := z) hd ha t (by omega)
    have hs := sect_len hd (t := t) (by omega)
    rw [cutS]
    by_cases hb : bitZ z t = true
    · rw [if_pos hb, splice_get (by omega), hs]
      by_cases h1 : j < a * 128 + t * 32
      · rw [if_pos h1, ih]
        by_cases h2 : a * 128 ≤ j ∧ bitZ z ((j - a * 128) / 32) = true
        · rw [if_pos ⟨h2.1, h1, h2.2⟩, if_pos ⟨h2.1, by omega, h2.2⟩]
        · rw [if_neg (fun h => h2 ⟨h.1, h.2.2⟩), if_neg (fun h => h2 ⟨h.1, h.2.2⟩)]
      · rw [if_neg h1]
        by_cases h2 : j < a * 128 + t * 32 + 32
        · have e : (j - a * 128) / 32 = t := by omega
          rw [if_pos h2, if_pos ⟨by omega, by omega, by rw [e]; exact hb⟩, List.getElem?_take_of_lt (by omega), List.getElem?_drop]
          congr 1; omega
        · rw [if_neg h2, if_neg (by omega), ih, if_neg (by omega)]
    · rw [if_neg hb, ih]
      by_cases h1 : a * 128 ≤ j ∧ j < a * 128 + t * 32 ∧ bitZ z ((j - a * 128) / 32) = true
      · rw [if_pos h1, if_pos ⟨h1.1, by omega, h1.2.2⟩]
      · rw [if_neg h1]
        by_cases h2 : a * 128 ≤ j ∧ j < a * 128 + (t + 1) * 32 ∧ bitZ z ((j - a * 128) / 32) = true
        · exfalso
          have h3 : ¬ j < a * 128 + t * 32 := fun h => h1 ⟨h2.1, h, h2.2.2⟩
          have e : (j - a * 128) / 32 = t := by omega
          rw [e] at h2
          exact hb h2.2.2
        · rw [if_neg h2]
section
variable {b dd : List Value} {a m : Nat} {z : Int}
theorem blk_cut_ne (hb : b.length = m * 128) (hd : dd.length = 128) (ha : a < m) {i : Nat} (hi : i ≠ a) : blkOf (cutS b a dd z 4) i = blkOf b i := by
  apply List.ext_getElem?
  intro j
  by_cases hj : j < 128
  · rw [blk_get _ _ hj, blk_get _ _ hj, cutS_get hd (by omega) 4 (Nat.le_refl _), if_neg (by omega)]
  · rw [List.getElem?_eq_none (by unfold blkOf; rw [List.length_take]; omega), List.getElem?_eq_none (by unfold blkOf; rw [List.length_take]; omega)]
theorem blk_cut (hb : b.length = m * 128) (hd : dd.length = 128) (ha : a < m) {j : Nat} (hj : j < 128) : (blkOf (cutS b a dd z 4) a)[j]? = if bitZ z (j / 32) = true then dd[j]? else (blkOf b a)[j]? := by
  have e : a * 128 + j - a * 128 = j := by omega
  rw [blk_get _ _ hj, blk_get _ _ hj, cutS_get hd (by omega) 4 (Nat.le_refl _), e]
  by_cases h : bitZ z (j / 32) = true
  · rw [if_pos h, if_pos ⟨by omega, by omega, h⟩]
  · rw [if_neg h, if_neg (fun h' => h h'.2.2)]
theorem cutS_one (hb : ∀ v ∈ b, v.oneCell' = true) (hd : ∀ v ∈ dd, v.oneCell' = true) : ∀ t, ∀ v ∈ cutS b a dd z t, v.oneCell' = true
  | 0, v, hv => hb v hv
  | t + 1, v, hv => by
    rw [cutS] at hv
    split at hv
    · rcases mem_splice hv with hv | hv
      · exact cutS_one hb hd t v hv
      · exact hd v (List.mem_of_mem_drop (List.mem_of_mem_take hv))
    · exact cutS_one hb hd t v hv
end
section
variable {n m : Nat} {cont : List Value} {recs : List (List Value)} {tl : List Value}
/-- A write of noughts behind the records, cut through. -/
theorem LayJ.cutW (h : LayJ n m cont recs tl) {a : Nat} (ha : recs.length + 1 ≤ a) (hn : a < n) (z : Int) : ∃ tl', LayJ n m (cutS cont a zB z 4) recs tl' := by
  have hm := h.nm
  have hne : ∀ i, i ≠ a → blkOf (cutS cont a zB z 4) i = blkOf cont i := fun i hi => blk_cut_ne h.len zB_len (by omega) hi
  have hat : ∀ j, j < 128 → (blkOf (cutS cont a zB z 4) a)[j]? = if bitZ z (j / 32) = true then zB[j]? else (blkOf cont a)[j]? := fun j hj => blk_cut h.len zB_len (by omega) hj
  have hlen : (cutS cont a zB z 4).length = m * 128 := by rw [cutS_len zB_len (by rw [h.len]; omega) 4 (Nat.le_refl _), h.len]
  have hone := cutS_one (a := a) (z := z) h.one zB_one 4
  refine ⟨blkOf (cutS cont a zB z 4) (recs.length + 1), h.nm, hlen, hone, ?_, ?_, ?_, ?_⟩
  · rw [hne 0 (by omega)]; exact h.head
  · intro i r hr
    have := (List.getElem?_eq_some_iff.1 hr).1
    rw [hne _ (by omega)]; exact h.get i r hr
  · intro hl
    refine ⟨rfl, ?_⟩
    obtain ⟨h1, h2⟩ := h.tail hl
    by_cases e : recs.length + 1 = a
    · subst e
      obtain ⟨b, hb, i, hi, h0⟩ := h2.k
      refine ⟨blk_len hlen (by omega), fun v hv => hone v (List.mem_of_mem_drop (List.mem_of_mem_take hv)), fun j => if bitZ z j = true then 0 else b j, fun j hj => ?_, i, hi, ?_⟩
      · rw [hat _ (by omega), show j * 32 / 32 = j by omega]
        by_cases hz : bitZ z j = true
        · rw [if_pos hz, zB_get (by omega)]; simp [hz]
        · rw [if_neg hz, h1, hb j hj]; simp [hz]
      · show (if bitZ z i = true then 0 else b i) = 0
        split
        · rfl
        · exact h0
    · rw [hne _ e, h1]; exact h2
  · intro i h1 h2
    by_cases e : i = a
    · subst e
      apply List.ext_getElem?
      intro j
      by_cases hj : j < 128
      · rw [hat j hj, h.zero _ h1 h2]; split <;> rfl
      · rw [List.getElem?_eq_none (by unfold blkOf; rw [List.length_take]; omega), List.getElem?_eq_none (by rw [zB_len]; omega)]
    · rw [hne _ e]; exact h.zero i h1 h2
/-- A record cut through: it is not there, or it is whole. -/
theorem LayJ.cutR {r : List Value} (h : LayJ n m cont recs zB) (hn : recs.length + 1 < n) (hr : RecOk r) (z : Int) : (∃ tl', LayJ n m (cutS cont (recs.length + 1) r z 4) recs tl') ∨ LayJ n m (cutS cont (recs.length + 1) r z 4) (recs ++ [r]) zB := by
  have hm := h.nm
  obtain ⟨hrl, hro, b, hb, _⟩ := hr
  have hne : ∀ i, i ≠ recs.length + 1 → blkOf (cutS cont (recs.length + 1) r z 4) i = blkOf cont i := fun i hi => blk_cut_ne h.len hrl (by omega) hi
  have hat : ∀ j, j < 128 → (blkOf (cutS cont (recs.length + 1) r z 4) (recs.length + 1))[j]? = if bitZ z (j / 32) = true then r[j]? else (blkOf cont (recs.length + 1))[j]? := fun j hj => blk_cut h.len hrl (by omega) hj
  have hlen : (cutS cont (recs.length + 1) r z 4).length = m * 128 := by rw [cutS_len hrl (by rw [h.len]; omega) 4 (Nat.le_refl _), h.len]
  have hone := cutS_one (a := recs.length + 1) (z := z) h.one hro 4
  have htl := (h.tail hn).1
  by_cases hall : ∀ i, i < 4 → bitZ z i = true
  · right
    have hbl : blkOf (cutS cont (recs.length + 1) r z 4) (recs.length + 1) = r := by
      apply List.ext_getElem?
      intro j
      by_cases hj : j < 128
      · rw [hat j hj, if_pos (hall _ (by omega))]
      · rw [List.getElem?_eq_none (by unfold blkOf; rw [List.length_take]; omega), List.getElem?_eq_none (by omega)]
    refine ⟨h.nm, hlen, hone, by rw [hne 0 (by omega)]; exact h.head, ?_, ?_, ?_⟩
    · intro i x hx
      have hlt := (List.getElem?_eq_some_iff.1 hx).1
      rw [List.length_append, List.length_singleton] at hlt
      by_cases hi : recs.length = i
      · rw [← hi, hbl]
        rw [← hi, List.getElem?_append_right (Nat.le_refl _), Nat.sub_self] at hx
        simpa using hx
      · rw [hne _ (by omega)]
        rw [List.getElem?_append_left (by omega)] at hx
        exact h.get i x hx
    · rw [List.length_append, List.length_singleton]
      intro hl
      rw [hne _ (by omega)]
      exact ⟨h.zero _ (by omega) hl, torn_zB⟩
    · rw [List.length_append, List.length_singleton]
      intro i h1 h2
      rw [hne _ (by omega)]; exact h.zero i (by omega) h2
  · left
    obtain ⟨i, hi, hbi⟩ : ∃ i, i < 4 ∧ bitZ z i = false := by
      refine Classical.byContradiction fun hc => hall fun i hi => ?_
      cases hz : bitZ z i with
      | true => rfl
      | false => exact absurd ⟨i, hi, hz⟩ hc
    refine ⟨blkOf (cutS cont (recs.length + 1) r z 4) (recs.length + 1), h.nm, hlen, hone, by rw [hne 0 (by omega)]; exact h.head, ?_, ?_, ?_⟩
    · intro j x hx
      have := (List.getElem?_eq_some_iff.1 hx).1
      rw [hne _ (by omega)]; exact h.get j x hx
    · intro _
      refine ⟨rfl, blk_len hlen (by omega), fun v hv => hone v (List.mem_of_mem_drop (List.mem_of_mem_take hv)), fun j => if bitZ z j = true then b j else 0, fun j hj => ?_, i, hi, ?_⟩
      · rw [hat _ (by omega), show j * 32 / 32 = j by omega]
        by_cases hz : bitZ z j = true
        · rw [if_pos hz, hb j hj]; simp [hz]
        · rw [if_neg hz, htl, zB_get (by omega)]; simp [hz]
      · show (if bitZ z i = true then b i else 0) = 0
        rw [hbi]; rfl
    · intro j h1 h2
      rw [hne _ (by omega)]; exact h.zero j h1 h2
/-- With other noughts behind it. -/
theorem LayJ.again (h : LayJ n m cont recs tl) (hn : recs.length < n) {m' : Nat} (hm' : n ≤ m') : LayJ n m' (cont.take (n * 128) ++ List.replicate ((m' - n) * 128) (Value.int .u8 0)) recs tl := by
  have hm := h.nm
  have hl : (cont.take (n * 128)).length = n * 128 := by rw [List.length_take, h.len]; omega
  have hb : ∀ i, i < n → blkOf (cont.take (n * 128) ++ List.replicate ((m' - n) * 128) (Value.int .u8 0)) i = blkOf cont i := by
    intro i hi
    apply List.ext_getElem?
    intro j
    by_cases hj : j < 128
    · rw [blk_get _ _ hj, blk_get _ _ hj, List.getElem?_append_left (by omega), List.getElem?_take_of_lt (by omega)]
    · rw [List.getElem?_eq_none (by unfold blkOf; rw [List.length_take]; omega), List.getElem?_eq_none (by unfold blkOf; rw [List.length_take]; omega)]
  refine ⟨hm', by rw [List.length_append, hl, List.length_replicate]; omega, fun v hv => ?_, by rw [hb 0 (by omega)]; exact h.head, ?_, ?_, ?_⟩
  · rcases List.mem_append.1 hv with hv | hv
    · exact h.one v (List.mem_of_mem_take hv)
    · rw [(List.mem_replicate.1 hv).2]; rfl
  · intro i r hr
    have := (List.getElem?_eq_some_iff.1 hr).1
    rw [hb _ (by omega)]; exact h.get i r hr
  · intro hl; rw [hb _ hl]; exact h.tail hl
  · intro i h1 h2; rw [hb _ h2]; exact h.zero i h1 h2
theorem LayJ.cutZ {a : Nat} (ha : recs.length + 1 ≤ a) : ∀ (l : List ((Nat × List Value) × Int)) {cont tl : List Value}, (∀ q ∈ l, q.1 = (a, zB) ∧ a < n) → LayJ n m cont recs tl → ∃ tl', LayJ n m (cutL cont l) recs tl'
  | [], _, tl, _, h => ⟨tl, h⟩
  | (p, z) :: l, cont, tl, hq, h => by
    obtain ⟨rfl, hn⟩ := hq (p, z) (by simp)
    obtain ⟨tl', h1⟩ := h.cutW ha hn z
    exact LayJ.cutZ ha l (fun q hq' => hq q (by simp [hq'])) h1
theorem zw_zip {e : Nat} {ents : List (Nat × List Value)} (h : ZW n e ents) (zs : List Int) : ∀ q ∈ ents.zip zs, q.1 = (e, zB) ∧ e < n := fun q hq => h q.1 (List.of_mem_zip hq).1
theorem JZ.crash {s : DS} (h : JZ n s recs) (hl : recs.length < n) {m' : Nat} (hm' : n ≤ m') (zs : List Int) : ∃ tl', LayJ n m' (cutL (s.bs.take (n * 128) ++ List.replicate ((m' - n) * 128) (Value.int .u8 0)) (s.ents.zip zs)) recs tl' := by
  obtain ⟨tl, h1, h2⟩ := h
  exact LayJ.cutZ (Nat.le_refl _) (s.ents.zip zs) (zw_zip h2 zs) (h1.again hl hm')
/-- Behind a failure of power: the records are there, or all but the last one, which was pending. -/
theorem JD.crash {s : DS} (h : JD n s recs) (hl : recs.length < n) {m' : Nat} (hm' : n ≤ m') (zs : List Int) : ∃ recs' tl', LayJ n m' (cutL (s.bs.take (n * 128) ++ List.replicate ((m' - n) * 128) (Value.int .u8 0)) (s.ents.zip zs)) recs' tl' ∧ (recs' = recs ∨ (s.ents ≠ [] ∧ ∃ r, recs = recs' ++ [r])) := by
  rcases h with ⟨tl, h1, h2⟩ | ⟨rs0, r, es, rfl, h1, h2, h3, h4, h5⟩
  · obtain ⟨tl', h3⟩ := LayJ.cutZ (Nat.le_refl _) (s.ents.zip zs) (zw_zip h2 zs) (h1.again hl hm')
    exact ⟨recs, tl', h3, .inl rfl⟩
  · rw [List.length_append, List.length_singleton] at hl h3
    have h6 := h1.again (by omega) hm'
    have hne : s.ents ≠ [] := by rw [h2]; simp
    rw [h2]
    cases zs with
    | nil => exact ⟨rs0, zB, h6, .inr ⟨by simp, r, rfl⟩⟩
    | cons z zs =>
      have e : ∀ b : List Value, cutL b (((rs0.length + 1, r) :: es).zip (z :: zs)) = cutL (cutS b (rs0.length + 1) r z 4) (es.zip zs) := fun b => rfl
      rw [e]
      rcases h6.cutR h5 h4 z with ⟨tl', h7⟩ | h7
      · obtain ⟨tl'', h8⟩ := LayJ.cutZ (by omega) (es.zip zs) (zw_zip h3 zs) h7
        exact ⟨rs0, tl'', h8, .inr ⟨by simp, r, rfl⟩⟩
      · obtain ⟨tl'', h8⟩ := LayJ.cutZ (by rw [List.length_append, List.length_singleton]; omega) (es.zip zs) (zw_zip h3 zs) h7
        exact ⟨rs0 ++ [r], tl'', h8, .inl rfl⟩
end
end Go.Proofs.YteebjgfalllbjaaGreatDoor
