import Derived.Test.YteebjgfalllbjaaGreatDoorCZsZmZp
import Derived.Test.YteebjgfalllbjaaGreatDoorCKcKeKr
import Derived.Test.YteebjgfalllbjaaGreatDoorCWhJrFm
import Derived.Laws.MakeOwn
import Derived.Test.YteebjgfalllbjaaGreatDoorCKb
import Derived.Test.YteebjgfalllbjaaGreatDoorCPaAs1Kd
namespace Go.Proofs.YteebjgfalllbjaaGreatDoor
open Go.RowKit
/-- A journal that is open, its volume and its disk. -/
structure JnG (w : World) (J V A B n base : Nat) (cache : Value) (s : DS) (e : Int) (sb : Bool) : Prop where
  v : VolAt w V A n
  d : DSAt w A B n base cache s
  j : JAt w J V e sb
def settleD (sb : Bool) (s : DS) (e : Nat) : Bool × DS := if sb = true then (true, s) else s.put e zB
def addD (sb : Bool) (s : DS) (e : Nat) (blk : List Value) : Bool × DS := if (settleD sb s e).1 = true then (settleD sb s e).2.put e blk else (false, (settleD sb s e).2)
/-- Above what a program is begun with. -/
def Hi (base A B J : Nat) : Prop := 0 < base ∧ base ≤ A ∧ base ≤ B ∧ base ≤ J
def JnF (A B J : Nat) (cache : Value) (b : Nat) : Prop := DkF A B cache b ∨ b = J
section
variable {w w' : World} {J V A B n base e : Nat} {cache : Value} {s : DS} {sb : Bool}
theorem JnG.frz {e : Int} (h : JnG w J V A B n base cache s e sb) (hf : Fr (fun _ => False) w w') : JnG w' J V A B n base cache s e sb := ⟨h.v.fr hf id, h.d.frz hf, h.j.fr hf id⟩
theorem JnG.fr {e : Int} {S : Nat → Prop} (h : JnG w J V A B n base cache s e sb) (hf : Fr S w w') (hS : ∀ b, JnF A B J cache b ∨ b = V → ¬ S b) : JnG w' J V A B n base cache s e sb := ⟨h.v.fr hf (hS _ (.inr rfl)), h.d.fr hf (fun b hb => hS b (.inl (.inl hb))), h.j.fr hf (hS _ (.inl (.inr rfl)))⟩
theorem CB.trans {w w1 : World} {c c1 c2 : Value} (h : CB w c c1) (h1 : CB w1 c1 c2) (hs : w.heap.size ≤ w1.heap.size) : CB w c c2 := fun b hb => by
  rcases h1 b hb with h2 | h2
  · exact h b h2
  · right; omega
theorem CB.refl (w : World) (c : Value) : CB w c c := fun _ h => .inl h
theorem jnf_step {w w1 w2 : World} {c c1 : Value} (hf : Fr (JnF A B J c) w w1) (hc : CB w c c1) (hf1 : Fr (JnF A B J c1) w1 w2) : Fr (JnF A B J c) w w2 := hf.trans hf1 (fun b hb h => by
  rcases h with (h | h | h) | h
  · exact .inl (.inl h)
  · exact .inl (.inr (.inl h))
  · rcases hc b h with h2 | h2
    · exact .inl (.inr (.inr h2))
    · omega
  · exact .inr h)
theorem gok_jnf (hG : GOk w) (hH : Hi base A B J) (h : DSAt w A B n base cache s) (hf : Fr (JnF A B J cache) w w') : GOk w' := hG.fr hf (by
  rintro ((e | e | e) | e)
  · have := hH; unfold Hi at this; omega
  · have := hH; unfold Hi at this; omega
  · have := (h.q.o.lt _ e).1; have := hH.1; omega
  · have := hH; unfold Hi at this; omega)
/-- What Settle and Add answer. -/
def ErrQ (ok : Bool) (w' : World) (v : Value) (P Q : Prop) : Prop := Sel ok (v = .nilIface ∧ P) (Q ∧ ∃ g, v = trV g ∧ TrAt w' g)
set_option maxRecDepth 100000 in
set_option maxHeartbeats 1000000 in
theorem Settle_gen (h : JnG w J V A B n base cache s e sb) (hH : Hi base A B J) (hq : s.d.Q) (hel : s.ents.length < 900000) (he : e < n) (HI : ItH e) (hG : GOk w) :
    Calls Tryz.prog 91 #[.pointer (some ⟨J, 0, none⟩)] w fun e' w' => ∃ v cache', e' = .returned v ∧ DSAt w' A B n base cache' (settleD sb s e).2 ∧ CB w cache cache' ∧ VolAt w' V A n ∧ Fr (JnF A B J cache) w w' ∧ ErrQ (settleD sb s e).1 w' v (JAt w' J V e true) (JAt w' J V e false) := by
  have hmf : ∀ (fn : Fn) (first cap : Array Value) (w : World), (Instr.makeFunc fn first cap).run Tryz.prog w = .ok (.func fn first cap) w := fun _ _ _ _ => rfl
  have hfa : Fr (fun _ => False) w (w.alloc (.cells #[.pointer (some ⟨J, 0, none⟩)] 87)) := (Fr.refl _ _).alloc _
  have hx := heap_alloc_at w (.cells #[.pointer (some ⟨J, 0, none⟩)] 87)
  have hA := h.frz hfa
  have c2 := hA.j.c2
  have hJl := lt_of_heap h.j
  have hAl := h.d.d.lt
  have hBl := lt_of_heap h.d.r.1
  have hVl := lt_of_heap h.v
  have hcl : ∀ b, cache.ownBlock = some b → b < w.heap.size := fun b hb => (h.d.q.o.lt b hb).2
  cases sb
  · have hT := Try_gen (w := w.alloc (.cells #[.pointer (some ⟨J, 0, none⟩)] 87)) (f := 138) (caps := #[.pointer (some ⟨w.heap.size, 0, none⟩)])
      (Q := fun v w' => ∃ cache', DSAt w' A B n base cache' (settleD false s e).2 ∧ CB w cache cache' ∧ VolAt w' V A n ∧ Fr (JnF A B J cache) w w' ∧ ErrQ (settleD false s e).1 w' v (JAt w' J V e true) (JAt w' J V e false)) (fun _ => by kernel_rfl) (by
        have hfb : Fr (fun _ => False) (w.alloc (.cells #[.pointer (some ⟨J, 0, none⟩)] 87)) ((w.alloc (.cells #[.pointer (some ⟨J, 0, none⟩)] 87)).alloc (.cells #[.nilIface] 36)) := (Fr.refl _ _).alloc _
        have hB := hA.frz hfb
        have hab := hfa.trans hfb (fun _ _ h => h)
        refine (Settle1_gen (hfb.keep hx (fun h => h)) hB.j hB.v hB.d hq hel he HI (hG.fr hab (fun h => h)) (by have := hH; unfold Hi at this; omega)).mono ?_
        rintro e' w1 ⟨cache1, d1, cb1, v1, f1, r1⟩
        have hno : ∀ b, w.heap.size ≤ b → ¬ (DkF A B cache b ∨ b = J) := by
          rintro b hb ((e | e | e) | e)
          · omega
          · omega
          · have := hcl b e; omega
          · omega
        have hE : w1.heap[(w.alloc (.cells #[.pointer (some ⟨J, 0, none⟩)] 87)).heap.size]? = some (.cells #[.nilIface] 36 (0, 0)) := f1.keep (heap_alloc_at _ _) (hno _ (by simp))
        have cb1' : CB w cache cache1 := fun b hb => (cb1 b hb).imp_right (fun h => Nat.le_trans hab.size h)
        have f1' : Fr (JnF A B J cache) w w1 := (hab.mono (fun _ _ h => h.elim)).trans f1 (fun _ _ h => h)
        have hset : ∀ (u : World) (v : Value), Fr (fun b => b = w.heap.size + 1) u (u.setCell ⟨(w.alloc (.cells #[.pointer (some ⟨J, 0, none⟩)] 87)).heap.size, 0, none⟩ v) := fun u v => by
          have := Fr.set1 u (w.alloc (.cells #[.pointer (some ⟨J, 0, none⟩)] 87)).heap.size 0 v
          simpa using this
        have hcn : ∀ {u : World} {s' : DS}, DSAt u A B n base cache1 s' → u.heap[(w.alloc (.cells #[.pointer (some ⟨J, 0, none⟩)] 87)).heap.size]? = some (.cells #[.nilIface] 36 (0, 0)) → ∀ b, DkF A B cache1 b → ¬ b = w.heap.size + 1 := by
          intro u s' hu hEu b hb e
          subst e
          have hEu' : u.heap[w.heap.size + 1]? = some (.cells #[.nilIface] 36 (0, 0)) := by simpa using hEu
          exact hu.not hEu' (by decide) hb
        refine ⟨hE, ?_⟩
        have hsD : settleD false s e = s.put e zB := rfl
        rcases r1.out with ⟨ok, rfl, j1⟩ | ⟨bad, j1, g, rfl, ht⟩
        · refine .inl ⟨_, rfl, rfl, cache1, d1.fr (hset _ _) (hcn d1 hE), cb1', v1.fr (hset _ _) (by omega), (f1'.trans (hset _ _) (fun b hb h => by omega)), Sel.pos ok ⟨rfl, j1.fr (hset _ _) (by omega)⟩⟩
        · refine .inr ⟨g, rfl, gok_jnf hG hH h.d f1', fun w2 hf2 => ?_⟩
          have hE2 := hf2.keep hE (fun h => h)
          have d2 := d1.frz hf2
          refine ⟨cache1, d2.fr (hset _ _) (hcn d2 hE2), cb1', (v1.fr hf2 id).fr (hset _ _) (by omega), ((f1'.trans (hf2.mono (fun _ _ h => h.elim)) (fun _ _ h => h)).trans (hset _ _) (fun b hb h => by omega)), Sel.neg bad ⟨(j1.fr hf2 id).fr (hset _ _) (by omega), g, rfl, ?_⟩⟩
          refine (ht.fr hf2 (fun _ _ _ _ _ h => h)).fr (hset _ _) (fun b c t hb ht e => ?_)
          subst e
          have hE3 : w2.heap[w.heap.size + 1]? = some (.cells #[.nilIface] 36 (0, 0)) := by simpa using hE2
          rw [hE3] at hb; simp at hb
          rw [← hb.2] at ht
          revert ht; decide)
    clear hfa hx hA
    go_enter Tryz.func91, Tryz.ntmps91
    go_wp2_with fail
    refine hT.mono ?_
    rintro e' w1 ⟨v, rfl, hQ⟩
    have HQ : Hid (∃ cache', DSAt w1 A B n base cache' (settleD false s e).2 ∧ CB w cache cache' ∧ VolAt w1 V A n ∧ Fr (JnF A B J cache) w w1 ∧ ErrQ (settleD false s e).1 w1 v (JAt w1 J V e true) (JAt w1 J V e false)) := hQ
    clear hT hQ
    go_wp2
    go_ret
    obtain ⟨c', q⟩ := HQ.out
    exact ⟨_, c', rfl, q⟩
  · have HQ : Hid (∃ cache', DSAt (w.alloc (.cells #[.pointer (some ⟨J, 0, none⟩)] 87)) A B n base cache' (settleD true s e).2 ∧ CB w cache cache' ∧ VolAt (w.alloc (.cells #[.pointer (some ⟨J, 0, none⟩)] 87)) V A n ∧ Fr (JnF A B J cache) w (w.alloc (.cells #[.pointer (some ⟨J, 0, none⟩)] 87)) ∧ ErrQ (settleD true s e).1 (w.alloc (.cells #[.pointer (some ⟨J, 0, none⟩)] 87)) .nilIface (JAt (w.alloc (.cells #[.pointer (some ⟨J, 0, none⟩)] 87)) J V e true) (JAt (w.alloc (.cells #[.pointer (some ⟨J, 0, none⟩)] 87)) J V e false)) := ⟨cache, hA.d, CB.refl _ _, hA.v, hfa.mono (fun _ _ h => h.elim), Sel.pos rfl ⟨rfl, hA.j⟩⟩
    clear hfa hx hA
    go_enter Tryz.func91, Tryz.ntmps91
    go_wp2
    go_ret
    obtain ⟨c', q⟩ := HQ.out
    exact ⟨_, c', rfl, q⟩
set_option maxRecDepth 100000 in
set_option maxHeartbeats 1000000 in
theorem Add_gen {blk : List Value} (h : JnG w J V A B n base cache s e sb) (hH : Hi base A B J) (hq : s.d.Q) (hq2 : (settleD sb s e).2.d.Q) (hel : s.ents.length < 800000) (he : e < n) (hn : n ≤ 400) (HI : ItH e) (hG : GOk w) (hl : blk.length = 128) (hb1 : ∀ v ∈ blk, v.oneCell' = true) :
    Calls Tryz.prog 61 #[.pointer (some ⟨J, 0, none⟩), .agg blk.toArray] w fun e' w' => ∃ v cache', e' = .returned v ∧ DSAt w' A B n base cache' (addD sb s e blk).2 ∧ CB w cache cache' ∧ VolAt w' V A n ∧ Fr (JnF A B J cache) w w' ∧ ErrQ (addD sb s e blk).1 w' v (JAt w' J V ((e : Int) + 1) true) (∃ sb', JAt w' J V e sb') := by
  have hmf : ∀ (fn : Fn) (first cap : Array Value) (w : World), (Instr.makeFunc fn first cap).run Tryz.prog w = .ok (.func fn first cap) w := fun _ _ _ _ => rfl
  obtain ⟨W, HW⟩ : ∃ W, Hid (W = (w.alloc (.cells #[.pointer (some ⟨J, 0, none⟩)] 87)).alloc (.cells blk.toArray 130)) := ⟨_, rfl⟩
  have hfa : Fr (fun _ => False) w W := by rw [HW.out]; exact ((Fr.refl _ _).alloc _).alloc _
  have hx : W.heap[w.heap.size]? = some (.cells #[.pointer (some ⟨J, 0, none⟩)] 87 (0, 0)) := by rw [HW.out, heap_alloc_lt _ _ _ (by simp)]; exact heap_alloc_at _ _
  have hx2 : W.heap[w.heap.size + 1]? = some (.cells blk.toArray 130 (0, 0)) := by rw [HW.out]; exact heap_alloc2_new w _ _
  have hA := h.frz hfa
  have cx : ((w.alloc (.cells #[.pointer (some ⟨J, 0, none⟩)] 87)).alloc (.cells blk.toArray 130)).cell? ⟨w.heap.size, 0, none⟩ = some (.pointer (some ⟨J, 0, none⟩)) := by rw [← HW.out]; exact (cell_of_row W _ 0 _ _ _ hx).trans rfl
  have hJl := lt_of_heap h.j
  have hAl := h.d.d.lt
  have hBl := lt_of_heap h.d.r.1
  have hVl := lt_of_heap h.v
  have hcl : ∀ b, cache.ownBlock = some b → b < w.heap.size := fun b hb => (h.d.q.o.lt b hb).2
  have hno : ∀ b, w.heap.size ≤ b → ¬ JnF A B J cache b := by
    rintro b hb ((e | e | e) | e)
    · omega
    · omega
    · have := hcl b e; omega
    · omega
  have hs := Settle_gen hA hH hq (by omega) he HI (hG.fr hfa (fun h => h))
  have hGw := hG
  go_enter Tryz.func61, Tryz.ntmps61
  go_wp2_with fail
  rw [← HW.out]
  refine hs.mono ?_
  rintro e' w1 ⟨v1, cache1, rfl, d1, cb1, vo1, hf1, r1⟩
  have x1 := hf1.keep hx (hno _ (Nat.le_refl _))
  have x2 := hf1.keep hx2 (hno _ (by omega))
  have cb1' : CB w cache cache1 := fun b hb => (cb1 b hb).imp_right (fun h => Nat.le_trans hfa.size h)
  have hF1 : Fr (JnF A B J cache) w w1 := (hfa.mono (fun _ _ h => h.elim)).trans hf1 (fun _ _ h => h)
  have hG1 : GOk w1 := gok_jnf hG hH h.d hF1
  have hsz1 : w.heap.size + 1 < w1.heap.size := lt_of_heap x2
  have hlen1 : (settleD sb s e).2.ents.length < 900000 := by
    unfold settleD DS.put DS.store DS.secure DS.fail
    repeat' split
    all_goals simp
    all_goals omega
  rcases r1.out with ⟨ok, rfl, j1⟩ | ⟨bad, j1, g, rfl, ht⟩
  · clear HW hfa hx hx2 hA cx hs hf1
    have hcl1 : ∀ b, cache1.ownBlock = some b → b < w1.heap.size := fun b hb => (d1.q.o.lt b hb).2
    have hno1 : ∀ b, w1.heap.size ≤ b → ¬ JnF A B J cache1 b := by
      rintro b hb ((e | e | e) | e)
      · omega
      · omega
      · have := hcl1 b e; omega
      · omega
    have haD : addD sb s e blk = (settleD sb s e).2.put e blk := by unfold addD; rw [if_pos ok]
    obtain ⟨s1, HS1⟩ : ∃ s1, Hid (s1 = (settleD sb s e).2) := ⟨_, rfl⟩
    rw [← HS1.out] at d1 haD hq2 hlen1
    have hT := Try_gen (w := w1) (f := 93) (caps := #[.pointer (some ⟨w.heap.size, 0, none⟩), .pointer (some ⟨w.heap.size + 1, 0, none⟩)])
      (Q := fun v w' => ∃ cache', DSAt w' A B n base cache' (addD sb s e blk).2 ∧ CB w cache cache' ∧ VolAt w' V A n ∧ Fr (JnF A B J cache) w w' ∧ ErrQ (addD sb s e blk).1 w' v (JAt w' J V ((e : Int) + 1) true) (∃ sb', JAt w' J V e sb')) (fun _ => by kernel_rfl) (by
        have hfb : Fr (fun _ => False) w1 (w1.alloc (.cells #[.nilIface] 36)) := (Fr.refl _ _).alloc _
        refine (Add1_gen (hfb.keep x1 (fun h => h)) (hfb.keep x2 (fun h => h)) hl hb1 (j1.fr hfb id) (vo1.fr hfb id) (d1.frz hfb) hq2 hlen1 he hn HI (hG1.fr hfb (fun h => h)) (by have := hH; unfold Hi at this; omega)).mono ?_
        rintro e' w2 ⟨cache2, d2, cb2, v2, f2, r2⟩
        have cb2' : CB w cache cache2 := cb1'.trans (fun b hb => (cb2 b hb).imp_right (fun h => Nat.le_trans hfb.size h)) hF1.size
        have f2' : Fr (JnF A B J cache) w w2 := jnf_step hF1 cb1' ((hfb.mono (fun _ _ h => h.elim)).trans f2 (fun _ _ h => h))
        have hE : w2.heap[w1.heap.size]? = some (.cells #[.nilIface] 36 (0, 0)) := f2.keep (heap_alloc_at _ _) (hno1 _ (Nat.le_refl _))
        have hset : ∀ (u : World) (v : Value), Fr (fun b => b = w1.heap.size) u (u.setCell ⟨w1.heap.size, 0, none⟩ v) := fun u v => Fr.set1 _ _ _ _
        have hcn : ∀ {u : World} {s' : DS}, DSAt u A B n base cache2 s' → u.heap[w1.heap.size]? = some (.cells #[.nilIface] 36 (0, 0)) → ∀ b, DkF A B cache2 b → ¬ b = w1.heap.size := by
          intro u s' hu hEu b hb e
          subst e
          exact hu.not hEu (by decide) hb
        rw [haD]
        refine ⟨hE, ?_⟩
        rcases r2.out with ⟨ok2, rfl, j2⟩ | ⟨bad2, j2, g, rfl, ht⟩
        · exact .inl ⟨_, rfl, rfl, cache2, d2.fr (hset _ _) (hcn d2 hE), cb2', v2.fr (hset _ _) (by omega), (f2'.trans (hset _ _) (fun b hb h => by omega)), Sel.pos ok2 ⟨rfl, j2.fr (hset _ _) (by omega)⟩⟩
        · refine .inr ⟨g, rfl, gok_jnf hGw hH h.d f2', fun w3 hf3 => ?_⟩
          have hE3 := hf3.keep hE (fun h => h)
          have d3 := d2.frz hf3
          refine ⟨cache2, d3.fr (hset _ _) (hcn d3 hE3), cb2', (v2.fr hf3 id).fr (hset _ _) (by omega), ((f2'.trans (hf3.mono (fun _ _ h => h.elim)) (fun _ _ h => h)).trans (hset _ _) (fun b hb h => by omega)), Sel.neg bad2 ⟨⟨true, (j2.fr hf3 id).fr (hset _ _) (by omega)⟩, g, rfl, ?_⟩⟩
          refine (ht.fr hf3 (fun _ _ _ _ _ h => h)).fr (hset _ _) (fun b c t hb ht e => ?_)
          subst e
          rw [hE3] at hb; simp at hb
          rw [← hb.2] at ht
          revert ht; decide)
    go_wp2_with fail
    refine hT.mono ?_
    rintro e' w3 ⟨v, rfl, hQ⟩
    have HQ : Hid (∃ cache', DSAt w3 A B n base cache' (addD sb s e blk).2 ∧ CB w cache cache' ∧ VolAt w3 V A n ∧ Fr (JnF A B J cache) w w3 ∧ ErrQ (addD sb s e blk).1 w3 v (JAt w3 J V ((e : Int) + 1) true) (∃ sb', JAt w3 J V e sb')) := hQ
    clear hT hQ
    go_wp2
    go_ret
    obtain ⟨c', q⟩ := HQ.out
    exact ⟨_, c', rfl, q⟩
  · have haD : addD sb s e blk = (false, (settleD sb s e).2) := by unfold addD; rw [if_neg bad]
    have HQ : Hid (∃ cache', DSAt w1 A B n base cache' (addD sb s e blk).2 ∧ CB w cache cache' ∧ VolAt w1 V A n ∧ Fr (JnF A B J cache) w w1 ∧ ErrQ (addD sb s e blk).1 w1 (trV g) (JAt w1 J V ((e : Int) + 1) true) (∃ sb', JAt w1 J V e sb')) := by
      rw [haD]
      exact ⟨cache1, d1, cb1', vo1, hF1, Sel.neg (by simp) ⟨⟨_, j1⟩, g, rfl, ht⟩⟩
    clear HW hfa hx hx2 hA cx hs hf1 d1 vo1 j1 ht
    unfold trV at *
    go_wp2
    go_ret
    obtain ⟨c', q⟩ := HQ.out
    exact ⟨_, c', rfl, q⟩
end
end Go.Proofs.YteebjgfalllbjaaGreatDoor
namespace Go.Proofs.YteebjgfalllbjaaGreatDoor
open Go.RowKit
/-- A byte of a disk; the text of its bytes. -/
def u8of : Value → UInt8
  | .int _ k => UInt8.ofNat k.toNat
  | _ => 0
def U8s (bs : List Value) : Prop := ∀ v ∈ bs, ∃ k : Nat, k < 256 ∧ v = .int .u8 k
def bytesT (bs : List Value) : ByteArray := ⟨(bs.map u8of).toArray⟩
theorem U8s.append {a b : List Value} (ha : U8s a) (hb : U8s b) : U8s (a ++ b) := fun v hv => by
  rcases List.mem_append.1 hv with h | h
  · exact ha v h
  · exact hb v h
theorem U8s.rep (n : Nat) : U8s (List.replicate n (Value.int .u8 0)) := fun v hv => ⟨0, by decide, (List.mem_replicate.1 hv).2⟩
theorem u8_info : (Tryz.prog.info? 5).map (fun i => (i.zero, i.size, i.bytes)) = some (some (.int .u8 0), 1, 1) := by kernel_rfl
theorem conv_bytes {W : World} {base m : Nat} {ax : Option Addr} {cx : Nat} {bs : List Value} (h : W.ownsRow base 5 1 (.slice ax m cx) m bs) (hm : 0 < m) (hu : U8s bs) : (convert 85 9 (.slice ax m cx)).run Tryz.prog W = .ok (.string (bytesT bs)) W := by
  have hlen := h.1
  rcases h.2 with ⟨_, h0⟩ | ⟨g, cap, cur, hv, _, hg, _, _, _, hx⟩
  · omega
  cases hv
  have hl : (bs.map u8of).length = m := by rw [List.length_map]; omega
  have hc := run_convert_bytes_back W 85 9 5 ⟨g, 0, none⟩ cx (bs.map u8of) Tryz.underlying85 Tryz.underlying5 Tryz.underlying9 (fun j hj => by
    have hj' : j < bs.length := by simpa using hj
    obtain ⟨k, hk, hv⟩ := hu bs[j] (List.getElem_mem hj')
    have h1 : bs[j]? = some bs[j] := List.getElem?_eq_getElem hj'
    obtain ⟨b, hb⟩ : ∃ b, b = bs[j] := ⟨_, rfl⟩
    rw [← hb] at h1 hv
    have h2 : cur[j]? = some b := by
      rw [← hx, List.getElem?_take] at h1
      split at h1
      · simpa using h1
      · cases h1
    have hcell : W.cell? ⟨g, j, none⟩ = some b := (cell_of_row W g j _ _ _ hg).trans h2
    have e : (bs.map u8of)[j] = UInt8.ofNat k := by rw [List.getElem_map, ← hb, hv]; simp [u8of]
    rw [e]
    rw [hv] at hcell
    have e2 : k % 256 = k := Nat.mod_eq_of_lt hk
    rcases Nat.eq_zero_or_pos j with rfl | hj0
    · simpa [Addr.add, e2] using hcell
    · simpa [Addr.add, e2, show ¬ j = 0 by omega] using hcell)
  rw [hl] at hc
  exact hc
def ByI (w : World) (bs : List Value) (i : Nat) (lv : Value) (wr : World) : Prop := Fr (fun _ => False) w wr ∧ wr.ownsRow w.heap.size 5 1 lv (i * 128) (bs.take (i * 128))
theorem by_step {w wr w2 : World} {bs : List Value} {i : Nat} {ax : Option Addr} {cx : Nat} {v2 : Value} (h : ByI w bs i (.slice ax (i * 128) cx) wr)
    (hown : w2.ownsRow w.heap.size 5 1 v2 (i * 128 + 128) (bs.take (i * 128) ++ (bs.drop (i * 128)).take 128)) (hg : wr.grownBy w2 (Value.slice ax (i * 128) cx).ownBlock) :
    ByI w bs (i + 1) v2 w2 ∧ ∃ a2 c2, v2 = .slice a2 ((i + 1) * 128) c2 := by
  have e : (i + 1) * 128 = i * 128 + 128 := by omega
  refine ⟨⟨?_, ?_⟩, ?_⟩
  · refine h.1.grown hg (fun k hk hb => ?_)
    have := (h.2.lt k hb).1
    omega
  · rw [e, List.take_add]
    exact hown
  · rw [e]
    rcases hown.2 with ⟨rfl, h0⟩ | ⟨g, cap, cur, rfl, _⟩
    · omega
    · exact ⟨_, _, rfl⟩
end Go.Proofs.YteebjgfalllbjaaGreatDoor
namespace Go.Proofs.YteebjgfalllbjaaGreatDoor
open Go.RowKit
theorem byteCells_u8 (l : List UInt8) : U8s (Lib.byteCells l) := fun v hv => by
  obtain ⟨b, _, rfl⟩ := List.mem_map.1 hv
  exact ⟨b.toNat, b.toNat_lt, rfl⟩
theorem headB_u8 {n : Nat} (hn : n ≤ 400) : U8s (headB n) := by
  intro v hv
  simp only [headB, markB, List.mem_append, List.mem_cons, List.not_mem_nil, or_false, List.mem_map, List.mem_replicate] at hv
  rcases hv with (rfl | rfl | rfl) | ⟨b, _, rfl⟩ | ⟨_, rfl⟩
  · exact ⟨1, by decide, rfl⟩
  · exact ⟨n / 256, by omega, congrArg _ (by omega)⟩
  · exact ⟨n % 256, by omega, congrArg _ (by omega)⟩
  · exact ⟨b.toNat, b.toNat_lt, rfl⟩
  · exact ⟨0, by decide, rfl⟩
theorem bodyS_u8 {id n : Nat} {l : List SS} (hid : id ≤ 1000) (hn : n ≤ 6) (hl : ∀ p ∈ l, p.1.size ≤ 8 ∧ p.2.size ≤ 8) (i : Nat) : U8s (bodyS id n l i) := by
  intro v hv
  simp only [bodyS, stepsB, stepB, pad8, zv, List.mem_append, List.mem_cons, List.not_mem_nil, or_false, List.mem_flatten, List.mem_map, List.mem_replicate] at hv
  rcases hv with (rfl | rfl | rfl) | ⟨x, ⟨q, hq, rfl⟩, hx⟩ | ⟨_, rfl⟩
  · exact ⟨id / 256, by omega, rfl⟩
  · exact ⟨id % 256, by omega, rfl⟩
  · exact ⟨n, by omega, rfl⟩
  · have h8 := hl q (List.mem_of_mem_take hq)
    rcases List.mem_cons.1 hx with rfl | hx
    · exact ⟨q.1.size * 16 + q.2.size, by omega, rfl⟩
    · rcases List.mem_append.1 hx with hx | hx
      · rcases List.mem_append.1 hx with hx | hx
        · exact byteCells_u8 _ _ hx
        · exact ⟨0, by decide, (List.mem_replicate.1 hx).2⟩
      · rcases List.mem_append.1 hx with hx | hx
        · exact byteCells_u8 _ _ hx
        · exact ⟨0, by decide, (List.mem_replicate.1 hx).2⟩
  · exact ⟨0, by decide, rfl⟩
theorem ldB_u8 {k : Nat} (hk : k < 256) {bd : List Value} (h : U8s bd) (i : Nat) : U8s (ldB k bd i) := fun v hv => by
  simp only [ldB, scts, List.mem_append, List.mem_flatten, List.mem_map, List.mem_replicate] at hv
  rcases hv with ⟨x, ⟨j, _, rfl⟩, hx⟩ | ⟨_, rfl⟩
  · rcases List.mem_cons.1 hx with rfl | hx
    · exact ⟨k, hk, rfl⟩
    · exact h v (List.mem_of_mem_drop (List.mem_of_mem_take hx))
  · exact ⟨0, by decide, rfl⟩
theorem take_u8 {id : Nat} {st : List SS} (h : sagaOk (id : Int) st = true) : U8s (Rec.take id st).bytes := by
  obtain ⟨h1, h2, _, h6, h8⟩ := saga_of id st h
  exact ldB_u8 (by decide) (bodyS_u8 (by omega) h6 (six_ok h8) 6) 4
theorem move_u8 {id r : Nat} (hid : id ≤ 1000) (hr : r ≤ 2) : U8s (Rec.move id r).bytes := ldB_u8 (by decide) (bodyS_u8 (l := []) hid (Nat.le_trans hr (by decide)) (fun p hp => absurd hp (by simp)) 0) 4
theorem Rec.u8 {L : List AS} {r : Rec} (h : r.Ok L) : U8s r.bytes := by
  cases r with
  | take id st =>
    obtain ⟨h1, h2, _, h6, h8⟩ := saga_of id st h.1
    exact ldB_u8 (by decide) (bodyS_u8 (by omega) h6 (six_ok h8) 6) 4
  | move id r => exact ldB_u8 (by decide) (bodyS_u8 (l := []) h.2.1 (Nat.le_trans h.1 (by decide)) (fun p hp => absurd hp (by simp)) 0) 4
theorem lay_u8 {n : Nat} {rs : List Rec} (hn : n ≤ 400) (h : RecsOk rs) : U8s (layB n (rs.map Rec.bytes)) := by
  refine (headB_u8 hn).append (U8s.append (fun v hv => ?_) (U8s.rep _))
  obtain ⟨b, hb, hv⟩ := List.mem_flatten.1 hv
  obtain ⟨r, hr, rfl⟩ := List.mem_map.1 hb
  obtain ⟨i, hi⟩ := List.mem_iff_getElem?.1 hr
  exact Rec.u8 (h i r hi) v hv
section
variable {w : World} {A B n Pp : Nat} {calls writes : Int}
/-- Open of an empty journal. -/
theorem open0 (p : Int) (hp1 : 1 ≤ p) (hp2 : p ≤ 64) (hd : DiskAt w A B n (.slice none 0 0) calls writes) (hr : RowsAt w B n (emptyB n)) (h0 : 0 ≤ calls) (h1 : calls ≤ 500) (h2 : 0 ≤ writes) (h3 : writes ≤ 1000) (n8 : 8 ≤ n) (n4 : n ≤ 400) :
    Calls Tryz.prog 33 #[.pointer (some ⟨A, 0, none⟩), .int .i64 p, .pointer (some ⟨Pp, 0, none⟩)] w fun e w' => ∃ X F, e = .returned (.tuple #[.pointer (some ⟨X, 0, none⟩), .nilIface]) ∧ EN w' 1 X A B n 0 p (askV Pp) [] [] F ∧ FU w' F ∧ (∀ b, F b → w.heap.size ≤ b) ∧ Fr (fun b => b = A) w w' := by
  have hAl := lt_of_heap hd
  refine pOpen_any ?_
  refine (sOpen_ok (recs := []) p (by omega) (by omega) hd hr h0 (by omega) n8 n4 (layB_nil n).symm (by simp; omega) (fun r hr => absurd hr (by simp))
    (fun R _ W => RollAt W R w.heap.size ((n : Int) - 1) (.slice none 0 0) []) (fun R W hRw hroll hsz => ⟨hroll, World.ownsRow_nil _ _ _ _, by simp⟩)
    (fun R i W W' hRw hRP hf => hRP.fr hf (fun b hb h => ?_)) (fun R i r W hRw hr => by simp at hr)).mono ?_
  · rcases hb with rfl | hb | ⟨q, hq, _⟩
    · omega
    · cases hb
    · cases hq
  · rintro e w' ⟨X, rfl, V, R, J, cl, g1, g2, g3, g4, g5, g6, g7, g8, g9, g10⟩
    refine ⟨_, _, rfl, X, EngF X J R V (.slice none 0 0) [], rfl, ?_, ?_, ?_, g10⟩
    · refine ⟨⟨n8, n4, Int.le_refl _, recsOk_nil, by simp [needC], rfl, by simp⟩, J, R, V, w.heap.size, (n : Int) - 1, .slice none 0 0, [], false, cl, writes, ⟨by omega, by omega, h2, by omega⟩, ⟨g1, g5, ⟨g4.v, g4.d, g4.r, g4.j⟩⟩, rfl, by simp [needC], g10.size, fun b hb => hb⟩
    · exact es_fu (A := A) (B := B) (n := n) (calls := cl) (writes := writes) ⟨g1, g5, ⟨g4.v, g4.d, g4.r, g4.j⟩⟩
    · rintro b (rfl | rfl | rfl | rfl | hb | ⟨q, hq, _⟩)
      · omega
      · omega
      · omega
      · omega
      · cases hb
      · cases hq
end
end Go.Proofs.YteebjgfalllbjaaGreatDoor
