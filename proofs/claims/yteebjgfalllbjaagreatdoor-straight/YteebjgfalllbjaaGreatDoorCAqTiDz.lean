import Derived.Test.YteebjgfalllbjaaGreatDoorCFoReAk
import Derived.Test.YteebjgfalllbjaaGreatDoorCSaSvDv
namespace Go.Proofs.YteebjgfalllbjaaGreatDoor
open Go.RowKit
def AS.after (a : AS) (r : Nat) (clock pause : Int) : AS := if a.moves r = true then a.go r else a.vain clock pause
def mvB (k r : Nat) : List Value := ldB 3 (bodyS k r [] 0) 4
structure ES (w : World) (X J R V A B n base e : Nat) (room clock pause calls writes : Int) (ev cv : Value) (es : List (Nat × AS)) (s : Bool) (bs : List Value) : Prop where
 eng : EngAt w X J R clock pause cv
 roll : RollAt w R base room ev es
 jn : JnS w J V A B n calls writes e s bs
section
variable {w w' : World} {X J R V A B n base e : Nat} {room clock pause calls writes : Int} {ev cv : Value} {es : List (Nat × AS)} {s : Bool} {bs : List Value}
theorem ES.dis (h : ES w X J R V A B n base e room clock pause calls writes ev cv es s bs) : ∀ b, RollF R ev es b → b ≠ A ∧ b ≠ B ∧ b ≠ J ∧ b ≠ V ∧ b ≠ X := by
 intro b hb
 have nA := roll_ne h.roll h.jn.d (by decide)
 have nB := roll_ne h.roll h.jn.r.1 (by decide)
 have nJ := roll_ne h.roll h.jn.j (by decide)
 have nV := roll_ne h.roll h.jn.v (by decide)
 have nX := roll_ne h.roll h.eng (by decide)
 exact ⟨fun e => nA (e ▸ hb), fun e => nB (e ▸ hb), fun e => nJ (e ▸ hb), fun e => nV (e ▸ hb), fun e => nX (e ▸ hb)⟩
theorem ES.xne (h : ES w X J R V A B n base e room clock pause calls writes ev cv es s bs) : X ≠ A ∧ X ≠ B ∧ X ≠ J ∧ X ≠ V := by
 refine ⟨fun e => ?_, fun e => ?_, fun e => ?_, fun e => ?_⟩
 ·have h1 := h.eng; unfold EngAt at h1; rw [e] at h1; have := h1.symm.trans h.jn.d; simp [dcells] at this
 ·have h1 := h.eng; unfold EngAt at h1; rw [e] at h1; have := h1.symm.trans h.jn.r.1; simp at this
 ·have h1 := h.eng; unfold EngAt at h1; rw [e] at h1; have := h1.symm.trans h.jn.j; simp at this
 ·have h1 := h.eng; unfold EngAt at h1; rw [e] at h1; have := h1.symm.trans h.jn.v; simp at this
theorem ES.vne (h : ES w X J R V A B n base e room clock pause calls writes ev cv es s bs) : V ≠ A ∧ V ≠ B ∧ V ≠ J := by
 refine ⟨fun e => ?_, fun e => ?_, fun e => ?_⟩
 ·have h1 := h.jn.v; unfold VolAt at h1; rw [e] at h1; have := h1.symm.trans h.jn.d; simp [dcells] at this
 ·have h1 := h.jn.v; unfold VolAt at h1; rw [e] at h1; have := h1.symm.trans h.jn.r.1; simp at this
 ·have h1 := h.jn.v; unfold VolAt at h1; rw [e] at h1; have := h1.symm.trans h.jn.j; simp at this
theorem JnS.fr {S : Nat → Prop} {e : Int} (h : JnS w J V A B n calls writes e s bs) (hf : Fr S w w') (hV : ¬ S V) (hA : ¬ S A) (hB : ¬ S B) (hJ : ¬ S J) : JnS w' J V A B n calls writes e s bs := ⟨h.v.fr hf hV, h.d.fr hf hA, ⟨hf.keep h.r.1 hB, h.r.2⟩, h.j.fr hf hJ⟩
theorem mapE_congr (hs : Sorted es) {p : Nat × AS} (hp : p ∈ es) {f g : AS → AS} (h : f p.2 = g p.2) : mapE es p.2.id f = mapE es p.2.id g := by
 refine List.map_congr_left fun q hq => ?_
 show (if q.2.id = p.2.id then (q.1, f q.2) else q) = (if q.2.id = p.2.id then (q.1, g q.2) else q)
 by_cases e : q.2.id = p.2.id
 ·rw [if_pos e, if_pos e, sorted_uniq hs hq hp e, h]
 ·rw [if_neg e, if_neg e]
theorem ask_ok (E : ES w X J R V A B n base e room clock pause calls writes ev cv es s bs) (hs : Sorted es) (hn : es.length ≤ 100000) {ck : Int} (hok : ∀ p ∈ es, p.2.Ok ck) (hck : ck ≤ 1000000) {p : Nat × AS} (hp : p ∈ es) (ho : p.2.open) {k : Nat} (hk : (k : Int) = p.2.id) (hk1 : k ≤ 1000)
  (h0 : 0 ≤ calls) (h1 : calls < 80000000) (h2 : 0 ≤ writes) (h3 : writes < 80000000) (hen : e < n) (hn4 : n ≤ 400) (hz : (bs.drop (e * 128)).take 128 = zB) (hp1 : 1 ≤ pause) (hp2 : pause ≤ 64) (hc0 : 0 ≤ clock) (hc1 : clock ≤ 1000000)
  {F : Nat → Prop} {Q : Nat → World → Prop} (hF : ∀ b, F b → b ≠ X ∧ b ≠ A ∧ b ≠ B ∧ b ≠ J ∧ b ≠ V ∧ ¬ RollF R ev es b ∧ b < w.heap.size)
  (HRE : ∀ W, Fr (fun b => b = A ∨ b = B ∨ b = J) w W → EngAt W X J R clock pause cv → Calls Tryz.prog 104 #[.pointer (some ⟨X, 0, none⟩), .agg p.2.asks.cs.toArray] W fun e' w' => ∃ r : Nat, e' = .returned (.int .i64 r) ∧ r ≤ 2 ∧ Fr F W w' ∧ Q r w')
  (HQ : ∀ (r : Nat) W W', Q r W → Fr (fun b => b = A ∨ b = B ∨ b = J ∨ b = p.1) W W' → Q r W') :
  Calls Tryz.prog 66 #[.pointer (some ⟨X, 0, none⟩), .agg p.2.asks.cs.toArray] w fun e' w' => e' = .returned .nilIface ∧ ∃ r : Nat, r ≤ 2 ∧ Q r w' ∧ ∃ calls' writes', calls ≤ calls' ∧ calls' ≤ calls + sx s + 2 ∧ writes ≤ writes' ∧ writes' ≤ writes + 3 ∧
   ES w' X J R V A B n base (if p.2.moves r = true then e + 1 else e) room clock pause calls' writes' ev cv (mapE es p.2.id (·.after r clock pause)) true (if p.2.moves r = true then splice bs (e * 128) (mvB k r) else bs) ∧ Fr (fun b => F b ∨ b = A ∨ b = B ∨ b = J ∨ b = p.1) w w' := by
 have hdis := E.dis
 have hx := E.xne
 have hv := E.vne
 have hsx := sx_le s
 have hpF : RollF R ev es p.1 := .inr (.inr ⟨p, hp, rfl⟩)
 have hpd := hdis _ hpF
 have hXl := lt_of_heap E.eng
 have hAl := lt_of_heap E.jn.d
 have hBl := lt_of_heap E.jn.r.1
 have hJl := lt_of_heap E.jn.j
 refine ask_gen (base := base) (room := room) (ev := ev) (es := es) p.2.asks (F1 := fun b => b = A ∨ b = B ∨ b = J) (F2 := F)
  (Q1 := fun W => (∃ calls' writes', calls ≤ calls' ∧ calls' ≤ calls + sx s ∧ writes ≤ writes' ∧ writes' ≤ writes + 1 ∧ JnS W J V A B n calls' writes' e true bs) ∧ Fr (fun b => b = A ∨ b = B ∨ b = J) w W)
  (Q2 := fun r W => r ≤ 2 ∧ Q r W ∧ (∃ calls' writes', calls ≤ calls' ∧ calls' ≤ calls + sx s ∧ writes ≤ writes' ∧ writes' ≤ writes + 1 ∧ JnS W J V A B n calls' writes' e true bs) ∧ RollAt W R base room ev es ∧ Fr (fun b => F b ∨ b = A ∨ b = B ∨ b = J) w W)
  E.eng (fun b h => by omega) (fun b h => ⟨(hF b h).1, (hF b h).2.2.2.2.2.2⟩) (fun W hf => ?_) (fun W hq hE hsz => ?_) (fun r W hq => hq.2.2.2.1) (fun W hR => ?_) (fun r W W' hq hE hf => ?_)
 ·refine (Settle_sx (E.jn.frz hf) h0 (by omega) h2 (by omega) hen hz).mono ?_
  rintro e' w' ⟨rfl, hq, hf'⟩
  exact ⟨rfl, hf', hq, (hf.mono (fun _ _ h => h.elim)).trans hf' (fun _ _ h => h)⟩
 ·obtain ⟨⟨c', v', q1, q2, q3, q4, q5⟩, hfW⟩ := hq
  refine (HRE W hfW hE).mono ?_
  rintro e' w' ⟨r, rfl, hr2, hf', hQ⟩
  have hRW : RollAt W R base room ev es := E.roll.fr hfW (fun b hb h => by have := hdis b hb; omega)
  refine ⟨r, rfl, hf', hr2, hQ, ⟨c', v', q1, q2, q3, q4, q5.fr hf' (fun h => (hF _ h).2.2.2.2.1 rfl) (fun h => (hF _ h).2.1 rfl) (fun h => (hF _ h).2.2.1 rfl) (fun h => (hF _ h).2.2.2.1 rfl)⟩, hRW.fr hf' (fun b hb h => (hF _ h).2.2.2.2.2.1 hb), (hfW.mono (fun _ _ h => .inr h)).trans hf' (fun _ _ h => .inl h)⟩
 ·refine (rNext_ok hR hs hn hok p.2.id clock).mono ?_
  rintro e' w' ⟨hq, hf'⟩
  rcases hq with ⟨q, hq, hid, _, rfl⟩ | ⟨hno, _⟩
  ·rw [sorted_uniq hs hq hp hid]
   exact ⟨_, rfl, hf'⟩
  ·exact absurd ho (hno p hp rfl)
 ·obtain ⟨hr2, hQ, ⟨c', v', q1, q2, q3, q4, q5⟩, hRW, hfW⟩ := hq
  have hR' := hRW.frz hf
  have q5' := q5.frz hf
  have hfW' : Fr (fun b => F b ∨ b = A ∨ b = B ∨ b = J) w W' := hfW.trans (hf.mono (fun _ _ h => h.elim)) (fun _ _ h => h)
  by_cases hm : p.2.moves r = true
  ·refine (follow_go hE hR' hs hn hok hp r ho hm hr2 k hk hk1 q5' (by omega) (by omega) (by omega) (by omega) hen hn4 hz hdis).mono ?_
   rintro e' w' ⟨rfl, hR9, ⟨c9, v9, a1, a2, a3, a4, a5⟩, hf9⟩
   refine ⟨rfl, r, hr2, HQ r W w' hQ ((hf.mono (fun _ _ h => h.elim)).trans hf9 (fun _ _ h => h)), c9, v9, by omega, by simp [sx] at a2; omega, by omega, by omega, ⟨hf9.keep hE (by omega), ?_, ?_⟩, (hfW'.mono (fun _ _ h => by rcases h with h | h; exact .inl h; exact .inr (by omega))).trans hf9 (fun b _ h => .inr (by omega))⟩
   ·have := mapE_congr hs hp (f := fun a => a.after r clock pause) (g := fun a => a.go r) (by simp [AS.after, hm])
    rw [this]; exact hR9
   ·rw [if_pos hm, if_pos hm]; push_cast; exact a5
  ·refine (follow_off hE hR' hs hn hok hck hp r (fun h => hm h.2) hp1 hp2 hc0 hc1 (by omega)).mono ?_
   rintro e' w' ⟨rfl, hR9, hf9⟩
   refine ⟨rfl, r, hr2, HQ r W w' hQ ((hf.mono (fun _ _ h => h.elim)).trans hf9 (fun _ _ h => .inr (.inr (.inr h)))), c', v', q1, by omega, q3, by omega, ⟨hf9.keep hE (by omega), ?_, ?_⟩, (hfW'.mono (fun _ _ h => by rcases h with h | h; exact .inl h; exact .inr (by omega))).trans hf9 (fun b _ h => .inr (by omega))⟩
   ·have := mapE_congr hs hp (f := fun a => a.after r clock pause) (g := fun a => a.vain clock pause) (by simp [AS.after, hm])
    rw [this]; exact hR9
   ·rw [if_neg hm, if_neg hm]
    exact q5'.fr hf9 (by omega) (by omega) (by omega) (by omega)
end
end Go.Proofs.YteebjgfalllbjaaGreatDoor
namespace Go.Proofs.YteebjgfalllbjaaGreatDoor
open Go.RowKit
theorem sts_get (zs : List ST) (i : Nat) (z : ST) (h : zs[i]? = some z) (j : Nat) (v : Value) (hv : z.cs[j]? = some v) : (zs.map ST.cs).flatten[i * 6 + j]? = some v := by
 induction zs generalizing i with
 | nil => simp at h
 | cons a l ih =>
  have hj : j < 6 := (List.getElem?_eq_some_iff.1 hv).1
  rw [List.map_cons, List.flatten_cons]
  cases i with
  | zero =>
   obtain rfl : a = z := by simpa using h
   rw [List.getElem?_append_left (by rw [ST.len]; omega), Nat.zero_mul, Nat.zero_add]
   exact hv
  | succ i =>
   rw [List.getElem?_append_right (by rw [ST.len]; omega), ST.len, show (i + 1) * 6 + j - 6 = i * 6 + j by omega]
   exact ih i (by simpa using h)
section
variable {w : World} {X J R : Nat} {clock ck pause : Int} {cv : Value} {zs : List ST}
set_option maxRecDepth 100000 in
set_option maxHeartbeats 4000000 in
theorem tick_gen {Inv : Nat → World → Prop} {g : Nat} (he : EngAt w X J R clock pause cv) (hck : ck = clock + 1) (hc0 : 0 ≤ clock) (hc1 : clock ≤ 1000000) (hzl : zs.length ≤ 100000)
  (HE : ∀ i W, Inv i W → EngAt W X J R ck pause cv) (Hg : ∀ i W, Inv i W → W.heap[g]? = some (.cells (zs.map ST.cs).flatten.toArray 42 (0, 0)))
  (HST : ∀ W, EngAt W X J R ck pause cv → Fr (fun b => b = X) w W → W.heap.size = w.heap.size → Calls Tryz.prog 64 #[.pointer (some ⟨R, 0, none⟩)] W fun e' w' => e' = .returned (.slice (some ⟨g, 0, none⟩) zs.length zs.length) ∧ Inv 0 w')
  (HNX : ∀ i W0 W z, zs[i]? = some z → Inv i W0 → Fr (fun _ => False) W0 W → Calls Tryz.prog 65 #[.pointer (some ⟨R, 0, none⟩), .int .i64 z.id, .int .i64 ck] W fun e' w' => ∃ c t, e' = .returned (.tuple #[.agg (CL.cs c).toArray, .bool t]) ∧ Fr (fun _ => False) W w' ∧ ((t = false → ∀ W', Fr (fun _ => False) W0 W' → Inv (i + 1) W') ∧ (t = true → ∀ W', Fr (fun _ => False) W0 W' → Calls Tryz.prog 66 #[.pointer (some ⟨X, 0, none⟩), .agg c.cs.toArray] W' fun e'' w'' => e'' = .returned .nilIface ∧ Inv (i + 1) w''))) :
  Calls Tryz.prog 43 #[.pointer (some ⟨X, 0, none⟩)] w fun e' w' => e' = .returned .nilIface ∧ Inv zs.length w' := by
 have hlift : Tryz.prog.follows .mixedOrders = true := by kernel_rfl
 have x2 : w.cell? ⟨X, 2, none⟩ = some (.bool false) := (cell_of_row _ X 2 _ _ _ he).trans rfl
 have x3 : w.cell? ⟨X, 3, none⟩ = some (.int .i64 clock) := (cell_of_row _ X 3 _ _ _ he).trans rfl
 have f3 : w.frozen? ⟨X, 3, none⟩ = false := frozen_of_row _ _ 3 _ _ he
 have hE1 : EngAt (w.setCell ⟨X, 3, none⟩ (.int .i64 (clock + 1))) X J R (clock + 1) pause cv := heap_setCell_at w X 3 _ _ (.int .i64 (clock + 1)) he
 have x1 : (w.setCell ⟨X, 3, none⟩ (.int .i64 (clock + 1))).cell? ⟨X, 1, none⟩ = some (.pointer (some ⟨R, 0, none⟩)) := (cell_of_row _ X 1 _ _ _ hE1).trans rfl
 have HS := HST (w.setCell ⟨X, 3, none⟩ (.int .i64 (clock + 1))) (by rw [hck]; exact hE1) (Fr.set1 _ _ _ _) (by simp [World.setCell])
 clear HST hck
 go_enter Tryz.func43, Tryz.ntmps43
 go_wp2_with fail
 refine HS.mono ?_
 rintro e1 w1 ⟨rfl, hq1⟩
 have HQ1 : Hid (Inv 0 w1) := hq1
 clear hq1 HS x1 x2 x3 f3 hE1
 go_wp2
 go_loopw [26] (fun c wr => ∃ i : Nat, i ≤ zs.length ∧ c = .int .i64 i ∧ Hid (Inv i wr)) (fun c _ => zs.length - (intOf c).toNat)
 case atStart => exact ⟨0, Nat.zero_le _, rfl, HQ1⟩
 case round =>
  obtain ⟨i, hi, rfl, HR⟩ := hrel
  clear HQ1
  by_cases hlt : i < zs.length
  ·have hlt' : (i : Int) < zs.length := by omega
   obtain ⟨z, hzi⟩ : ∃ z, zs[i]? = some z := ⟨_, List.getElem?_eq_getElem hlt⟩
   have hgr := Hg i wr HR.out
   have hrg : wr.rangeAt g (i * 6) z.cs := fun j v hv => (cell_of_row wr _ (i * 6 + j) _ _ _ hgr).trans (by
    rw [List.getElem?_toArray]
    exact sts_get zs i z hzi j v hv)
   have hEw := HE i wr HR.out
   obtain ⟨wA, HWA⟩ : ∃ wA, Hid (wA = wr.alloc (.cells z.cs.toArray 42)) := ⟨_, rfl⟩
   have hfA : Fr (fun _ => False) wr wA := by rw [HWA.out]; exact (Fr.refl _ _).alloc _
   have hrA : wA.heap[wr.heap.size]? = some (.cells z.cs.toArray 42 (0, 0)) := by rw [HWA.out]; exact heap_alloc_at _ _
   have hEA : EngAt wA X J R ck pause cv := hfA.keep hEw (fun h => h)
   have hsA : wA.cell? ⟨wr.heap.size, 0, none⟩ = some (.int .i64 z.id) := (cell_of_row _ _ 0 _ _ _ hrA).trans rfl
   clear hgr hEw hrA
   unfold ST.cs at HWA hrg
   go_wp2_with (first | (refine wpList_load_mid rfl 42 _ rfl g (i * 6) ?_ _ _ hrg Tryz.underlying42 rfl ?_ ?_; rfl; exact status_size))
   rw [← HWA.out]
   obtain ⟨W, HW⟩ : ∃ W, Hid (W = wA.drew) := ⟨_, rfl⟩
   have hfW : Fr (fun _ => False) wA W := by rw [HW.out]; exact (Fr.refl _ _).drew
   let S : World → Prop := fun w' => EngAt w' X J R ck pause cv ∧ w'.cell? ⟨wr.heap.size, 0, none⟩ = some (.int .i64 z.id)
   have hS : S W := ⟨hfW.keep hEA (fun h => h), hfW.cell hsA (fun h => h)⟩
   refine wp_region_held (S := S) hlift ?_
   change wpAnyH _ _ _ _ S _ _ _ (World.drew _)
   rw [← HW.out]
   clear HW
   refine tkE (S := S) (i := 0) (oi := ⟨some 31, .move (.tmp 0), _, _, _, none⟩) (v := .pointer (some ⟨X, 0, none⟩)) rfl hS ?_
   simp only [Act.put, lsE, lsZ, lsS]
   refine tkE (S := S) (i := 1) (oi := ⟨some 32, .nilCheck (.tmp 31), _, _, _, none⟩) (v := .pointer (some ⟨X, 0, none⟩)) rfl hS ?_
   simp only [Act.put, lsE, lsZ, lsS]
   refine tkE (S := S) (i := 2) (oi := ⟨some 33, .fieldAddr 91 (.tmp 32) 1, _, _, _, none⟩) (v := .pointer (some ⟨X, 1, none⟩)) rfl hS ?_
   simp only [Act.put, lsE, lsZ, lsS]
   refine tkY (S := S) (i := 3) (oi := ⟨some 34, .load 88 (.tmp 33), _, _, _, none⟩) (v := .pointer (some ⟨R, 0, none⟩)) rfl (Or.inl ⟨rfl, fun w' hs => exec_load 88 (.tmp 33) rfl ⟨X, 1, none⟩ rfl (run_loadAt_one ((cell_of_row _ X 1 _ _ _ hs.1).trans rfl) Tryz.underlying88 rfl)⟩) hS ?_
   simp only [Act.put, lsE, lsZ, lsS]
   refine tkE (S := S) (i := 4) (oi := ⟨some 35, .fieldAddr 42 (.tmp 4) 0, _, _, _, none⟩) (v := .pointer (some ⟨wr.heap.size, 0, none⟩)) rfl hS ?_
   simp only [Act.put, lsE, lsZ, lsS]
   refine tkY (S := S) (i := 5) (oi := ⟨some 36, .load 3 (.tmp 35), _, _, _, none⟩) (v := .int .i64 z.id) rfl (Or.inl ⟨rfl, fun w' hs => exec_load 3 (.tmp 35) rfl ⟨wr.heap.size, 0, none⟩ rfl (run_loadAt_one hs.2 Tryz.underlying3 rfl)⟩) hS ?_
   simp only [Act.put, lsE, lsZ, lsS]
   refine tkE (S := S) (i := 6) (oi := ⟨some 37, .move (.tmp 0), _, _, _, none⟩) (v := .pointer (some ⟨X, 0, none⟩)) rfl hS ?_
   simp only [Act.put, lsE, lsZ, lsS]
   refine tkE (S := S) (i := 7) (oi := ⟨some 38, .nilCheck (.tmp 37), _, _, _, none⟩) (v := .pointer (some ⟨X, 0, none⟩)) rfl hS ?_
   simp only [Act.put, lsE, lsZ, lsS]
   refine tkE (S := S) (i := 8) (oi := ⟨some 39, .fieldAddr 91 (.tmp 38) 3, _, _, _, none⟩) (v := .pointer (some ⟨X, 3, none⟩)) rfl hS ?_
   simp only [Act.put, lsE, lsZ, lsS]
   refine tkY (S := S) (i := 9) (oi := ⟨some 40, .load 3 (.tmp 39), _, _, _, none⟩) (v := .int .i64 ck) rfl (Or.inl ⟨rfl, fun w' hs => exec_load 3 (.tmp 39) rfl ⟨X, 3, none⟩ rfl (run_loadAt_one ((cell_of_row _ X 3 _ _ _ hs.1).trans rfl) Tryz.underlying3 rfl)⟩) hS ?_
   simp only [Act.put, lsE, lsZ, lsS]
   refine wpAnyH_all (rs := [10, 14]) (by kernel_rfl) (by simp) ?_
   intro iq hiq
   have hqq : iq = 10 ∨ iq = 14 := by simpa using hiq
   rcases hqq with rfl | rfl
   ·refine wpOp_call (o := ⟨some 41, .call { callee := .value (.func 65), args := #[(.tmp 34), (.tmp 36), (.tmp 40)], argTypes := _ }, _, _, _, none⟩) (f := 65) (args := #[.pointer (some ⟨R, 0, none⟩), .int .i64 z.id, .int .i64 ck]) rfl rfl (by kernel_rfl) ?_
    refine (HNX i wr W z hzi HR.out (hfA.trans hfW (fun _ _ h => h))).mono ?_
    rintro e1 w4 ⟨c, t, rfl, hfw4, hq⟩
    have hw4 : Fr (fun _ => False) wA w4 := hfW.trans hfw4 (fun _ _ h => h)
    have hSw4 : S w4 := ⟨hw4.keep hEA (fun h => h), hw4.cell hsA (fun h => h)⟩
    refine ⟨_, rfl, hSw4, ?_⟩
    simp only [Act.put, lsE, lsZ, lsS]
    refine tkE (S := S) (i := 11) (oi := ⟨some 30, .move (.tmp 41), _, _, _, none⟩) (v := .tuple #[.agg c.cs.toArray, .bool t]) rfl hSw4 ?_
    simp only [Act.put, lsE, lsZ, lsS]
    refine tkE (S := S) (i := 12) (oi := ⟨some 42, .extract (.tmp 30) 0, _, _, _, none⟩) (v := .agg c.cs.toArray) rfl hSw4 ?_
    simp only [Act.put, lsE, lsZ, lsS]
    refine tkE (S := S) (i := 13) (oi := ⟨some 43, .extract (.tmp 30) 1, _, _, _, none⟩) (v := .bool t) rfl hSw4 ?_
    simp only [Act.put, lsE, lsZ, lsS]
    refine wpAnyH_all (rs := [14]) (by kernel_rfl) (by simp) ?_
    intro i14 hi14
    obtain rfl : i14 = 14 := by simpa using hi14
    obtain ⟨w5, HWw5⟩ : ∃ w5, Hid (w5 = w4.alloc (.cells ([.int .i64 0, .int .i64 0, .bool false, .string ⟨#[]⟩] : List Value).toArray 50)) := ⟨_, rfl⟩
    have hrw5 : w5.heap[w4.heap.size]? = some (.cells ([.int .i64 0, .int .i64 0, .bool false, .string ⟨#[]⟩] : List Value).toArray 50 (0, 0)) := by rw [HWw5.out]; exact heap_alloc_at _ _
    have hfw5 : Fr (fun _ => False) w4 w5 := by rw [HWw5.out]; exact (Fr.refl _ _).alloc _
    have hw5 : Fr (fun _ => False) wA w5 := hw4.trans hfw5 (fun _ _ h => h)
    have hSw5 : S w5 := ⟨hw5.keep hEA (fun h => h), hw5.cell hsA (fun h => h)⟩
    refine wpOp_value (o := ⟨some 5, .alloc 50, _, _, _, none⟩) (v := .pointer (some ⟨w4.heap.size, 0, none⟩)) (w' := w5) rfl rfl (by rw [HWw5.out]; exact exec_alloc_call _ _ rfl _) ⟨hSw5, ?_⟩
    simp only [Act.put, lsE, lsZ, lsS]
    refine wpAnyH_all (rs := [15]) (by kernel_rfl) (by simp) ?_
    intro i15 hi15
    obtain rfl : i15 = 15 := by simpa using hi15
    have hst := run_storeC c (hrw5) rfl
    have hRE := setRow_heap w5 w4.heap.size _ c.cs.toArray 50 (0, 0) (hrw5)
    have hge : wA.heap.size ≤ w4.heap.size := hw4.size
    have hFE : Fr (fun _ => False) wA (w5.setRow w4.heap.size c.cs.toArray) := hw5.setRow _ (fun h => by omega) _
    have hFq : Fr (fun _ => False) wr (w5.setRow w4.heap.size c.cs.toArray) := hfA.trans hFE (fun _ _ h => h)
    have hSE : S (w5.setRow w4.heap.size c.cs.toArray) := ⟨hFE.keep hEA (fun h => h), hFE.cell hsA (fun h => h)⟩
    refine wpOp_skip (o := ⟨none, .store 50 (.tmp 5) (.tmp 42), _, _, _, none⟩) (w' := w5.setRow w4.heap.size c.cs.toArray) rfl rfl (exec_store 50 _ _ rfl ⟨w4.heap.size, 0, none⟩ _ rfl rfl hst) ⟨hSE, ?_⟩
    simp only [Act.put]
    refine tkE (S := S) (i := 16) (oi := ⟨some 6, .assign (.tmp 43), _, _, _, none⟩) (v := .bool t) rfl hSE ?_
    simp only [Act.put, lsE, lsZ, lsS]
    refine wpAnyH_done (by kernel_rfl) ?_ _
    obtain ⟨WE, HWE⟩ : ∃ WE, Hid (WE = w5.setRow w4.heap.size c.cs.toArray) := ⟨_, rfl⟩
    have hrg2 : WE.rangeAt w4.heap.size 0 c.cs := fun j v hv => (cell_of_row WE _ (0 + j) _ _ _ (by rw [HWE.out]; exact hRE)).trans (by simpa using hv)
    rw [← HWE.out] at hFq ⊢
    cases t
    ·have HN : Hid (Inv (i + 1) WE) := hq.1 rfl WE hFq
     clear HWE hRE hst hFE hSE hq
     go_wp2
     go_roundw
     case rel => exact ⟨i + 1, by omega, by go_num, HN⟩
     case measure => simp [intOf]; omega
    ·have HH := hq.2 rfl WE hFq
     clear HWE hRE hst hFE hSE hq
     go_wp2_with (first | (refine wpList_load_mid rfl 50 (.tmp 5) rfl w4.heap.size 0 ?_ _ _ hrg2 Tryz.underlying50 rfl ?_ ?_; rfl; exact call_size))
     refine HH.mono ?_
     rintro e1 w9 ⟨rfl, hq9⟩
     have HN : Hid (Inv (i + 1) w9) := hq9
     clear hq9 HH
     go_wp2
     go_roundw
     case rel => exact ⟨i + 1, by omega, by go_num, HN⟩
     case measure => simp [intOf]; omega
   ·obtain ⟨w4, HWw4⟩ : ∃ w4, Hid (w4 = W.alloc (.cells ([.int .i64 0, .int .i64 0, .bool false, .string ⟨#[]⟩] : List Value).toArray 50)) := ⟨_, rfl⟩
    have hrw4 : w4.heap[W.heap.size]? = some (.cells ([.int .i64 0, .int .i64 0, .bool false, .string ⟨#[]⟩] : List Value).toArray 50 (0, 0)) := by rw [HWw4.out]; exact heap_alloc_at _ _
    have hfw4 : Fr (fun _ => False) W w4 := by rw [HWw4.out]; exact (Fr.refl _ _).alloc _
    have hw4 : Fr (fun _ => False) wA w4 := hfW.trans hfw4 (fun _ _ h => h)
    have hSw4 : S w4 := ⟨hw4.keep hEA (fun h => h), hw4.cell hsA (fun h => h)⟩
    refine wpOp_value (o := ⟨some 5, .alloc 50, _, _, _, none⟩) (v := .pointer (some ⟨W.heap.size, 0, none⟩)) (w' := w4) rfl rfl (by rw [HWw4.out]; exact exec_alloc_call _ _ rfl _) ⟨hSw4, ?_⟩
    simp only [Act.put, lsE, lsZ, lsS]
    refine wpAnyH_all (rs := [10]) (by kernel_rfl) (by simp) ?_
    intro i11 hi11
    obtain rfl : i11 = 10 := by simpa using hi11
    refine wpOp_call (o := ⟨some 41, .call { callee := .value (.func 65), args := #[(.tmp 34), (.tmp 36), (.tmp 40)], argTypes := _ }, _, _, _, none⟩) (f := 65) (args := #[.pointer (some ⟨R, 0, none⟩), .int .i64 z.id, .int .i64 ck]) rfl rfl (by kernel_rfl) ?_
    refine (HNX i wr w4 z hzi HR.out (hfA.trans hw4 (fun _ _ h => h))).mono ?_
    rintro e1 w5 ⟨c, t, rfl, hfw5, hq⟩
    have hw5 : Fr (fun _ => False) wA w5 := hw4.trans hfw5 (fun _ _ h => h)
    have hSw5 : S w5 := ⟨hw5.keep hEA (fun h => h), hw5.cell hsA (fun h => h)⟩
    refine ⟨_, rfl, hSw5, ?_⟩
    simp only [Act.put, lsE, lsZ, lsS]
    refine tkE (S := S) (i := 11) (oi := ⟨some 30, .move (.tmp 41), _, _, _, none⟩) (v := .tuple #[.agg c.cs.toArray, .bool t]) rfl hSw5 ?_
    simp only [Act.put, lsE, lsZ, lsS]
    refine tkE (S := S) (i := 12) (oi := ⟨some 42, .extract (.tmp 30) 0, _, _, _, none⟩) (v := .agg c.cs.toArray) rfl hSw5 ?_
    simp only [Act.put, lsE, lsZ, lsS]
    refine tkE (S := S) (i := 13) (oi := ⟨some 43, .extract (.tmp 30) 1, _, _, _, none⟩) (v := .bool t) rfl hSw5 ?_
    simp only [Act.put, lsE, lsZ, lsS]
    refine wpAnyH_all (rs := [15]) (by kernel_rfl) (by simp) ?_
    intro i15 hi15
    obtain rfl : i15 = 15 := by simpa using hi15
    have hst := run_storeC c (hfw5.keep hrw4 (fun h => h)) rfl
    have hRE := setRow_heap w5 W.heap.size _ c.cs.toArray 50 (0, 0) (hfw5.keep hrw4 (fun h => h))
    have hge : wA.heap.size ≤ W.heap.size := hfW.size
    have hFE : Fr (fun _ => False) wA (w5.setRow W.heap.size c.cs.toArray) := hw5.setRow _ (fun h => by omega) _
    have hFq : Fr (fun _ => False) wr (w5.setRow W.heap.size c.cs.toArray) := hfA.trans hFE (fun _ _ h => h)
    have hSE : S (w5.setRow W.heap.size c.cs.toArray) := ⟨hFE.keep hEA (fun h => h), hFE.cell hsA (fun h => h)⟩
    refine wpOp_skip (o := ⟨none, .store 50 (.tmp 5) (.tmp 42), _, _, _, none⟩) (w' := w5.setRow W.heap.size c.cs.toArray) rfl rfl (exec_store 50 _ _ rfl ⟨W.heap.size, 0, none⟩ _ rfl rfl hst) ⟨hSE, ?_⟩
    simp only [Act.put]
    refine tkE (S := S) (i := 16) (oi := ⟨some 6, .assign (.tmp 43), _, _, _, none⟩) (v := .bool t) rfl hSE ?_
    simp only [Act.put, lsE, lsZ, lsS]
    refine wpAnyH_done (by kernel_rfl) ?_ _
    obtain ⟨WE, HWE⟩ : ∃ WE, Hid (WE = w5.setRow W.heap.size c.cs.toArray) := ⟨_, rfl⟩
    have hrg2 : WE.rangeAt W.heap.size 0 c.cs := fun j v hv => (cell_of_row WE _ (0 + j) _ _ _ (by rw [HWE.out]; exact hRE)).trans (by simpa using hv)
    rw [← HWE.out] at hFq ⊢
    cases t
    ·have HN : Hid (Inv (i + 1) WE) := hq.1 rfl WE hFq
     clear HWE hRE hst hFE hSE hq
     go_wp2
     go_roundw
     case rel => exact ⟨i + 1, by omega, by go_num, HN⟩
     case measure => simp [intOf]; omega
    ·have HH := hq.2 rfl WE hFq
     clear HWE hRE hst hFE hSE hq
     go_wp2_with (first | (refine wpList_load_mid rfl 50 (.tmp 5) rfl W.heap.size 0 ?_ _ _ hrg2 Tryz.underlying50 rfl ?_ ?_; rfl; exact call_size))
     refine HH.mono ?_
     rintro e1 w9 ⟨rfl, hq9⟩
     have HN : Hid (Inv (i + 1) w9) := hq9
     clear hq9 HH
     go_wp2
     go_roundw
     case rel => exact ⟨i + 1, by omega, by go_num, HN⟩
     case measure => simp [intOf]; omega
  ·obtain rfl : i = zs.length := by omega
   go_wp2
   go_ret
   exact ⟨rfl, HR.out⟩
end
end Go.Proofs.YteebjgfalllbjaaGreatDoor
namespace Go.Proofs.YteebjgfalllbjaaGreatDoor
open Go.RowKit
theorem sorted_of {es : List (Nat × AS)} {L : List AS} (hm : es.map (·.2) = L) (h : L.Pairwise (fun a b => a.id < b.id)) : Sorted es := by
 rw [← hm, List.pairwise_map] at h; exact h
theorem mem_of_map {es : List (Nat × AS)} {L : List AS} (hm : es.map (·.2) = L) {p : Nat × AS} (hp : p ∈ es) : p.2 ∈ L := by rw [← hm]; exact List.mem_map.2 ⟨p, hp, rfl⟩
def EngF (X J R V : Nat) (ev : Value) (es : List (Nat × AS)) (b : Nat) : Prop := b = X ∨ b = J ∨ b = V ∨ RollF R ev es b
end Go.Proofs.YteebjgfalllbjaaGreatDoor
