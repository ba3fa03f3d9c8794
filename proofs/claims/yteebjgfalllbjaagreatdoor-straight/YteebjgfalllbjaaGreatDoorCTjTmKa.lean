import Derived.Test.YteebjgfalllbjaaGreatDoorCAqTiDz
namespace Go.Proofs.YteebjgfalllbjaaGreatDoor
open Go.RowKit
def PT (t : TypeId) : Prop := t = 48 ∨ t = 52 ∨ t = 50 ∨ t = 3
structure Ptn (cv : Value) where
 σ : Type
 PA : σ → (Nat → Prop) → World → Prop
 sz : σ → Nat
 ask : σ → CL → Nat × σ
 fr : ∀ {S F : Nat → Prop} {w w' : World} {s : σ}, PA s F w → Fr S w w' → (∀ b, F b → ¬ S b) → PA s F w'
 ty : ∀ {F : Nat → Prop} {w : World} {s : σ} {b : Nat}, PA s F w → F b → ∃ c t, w.heap[b]? = some (.cells c t (0, 0)) ∧ PT t
 le : ∀ s c, (ask s c).1 ≤ 2
 szs : ∀ s c, sz (ask s c).2 ≤ sz s + 1
 rep : ∀ {F : Nat → Prop} {w : World} {s : σ} {X J R : Nat} {clock pause : Int} (c : CL), PA s F w → sz s < 20000000 → EngAt w X J R clock pause cv → Calls Tryz.prog 104 #[.pointer (some ⟨X, 0, none⟩), .agg c.cs.toArray] w fun e' w' => e' = .returned (.int .i64 ((ask s c).1 : Nat)) ∧ Fr F w w' ∧ ∃ F', PA (ask s c).2 F' w' ∧ (∀ b, F' b → F b ∨ w.heap.size ≤ b)
section
variable {cv : Value} (P : Ptn cv) (ck pause : Int)
def tickOne (a : AS) (s : P.σ) : AS × P.σ × List (Nat × Nat) := if a.open ∧ a.due ≤ ck then (a.after (P.ask s a.asks).1 ck pause, (P.ask s a.asks).2, if a.moves (P.ask s a.asks).1 = true then [(a.id.toNat, (P.ask s a.asks).1)] else []) else (a, s, [])
def tickL : List AS → P.σ → List AS × P.σ × List (Nat × Nat)
 | [], s => ([], s, [])
 | a :: l, s => ((tickOne P ck pause a s).1 :: (tickL l (tickOne P ck pause a s).2.1).1, (tickL l (tickOne P ck pause a s).2.1).2.1, (tickOne P ck pause a s).2.2 ++ (tickL l (tickOne P ck pause a s).2.1).2.2)
theorem tickL_snoc (l : List AS) (a : AS) (s : P.σ) : tickL P ck pause (l ++ [a]) s = ((tickL P ck pause l s).1 ++ [(tickOne P ck pause a (tickL P ck pause l s).2.1).1], (tickOne P ck pause a (tickL P ck pause l s).2.1).2.1, (tickL P ck pause l s).2.2 ++ (tickOne P ck pause a (tickL P ck pause l s).2.1).2.2) := by
 induction l generalizing s with
 | nil => simp [tickL]
 | cons b l ih => simp [tickL, ih]
theorem AS.after_id (a : AS) (r : Nat) : (a.after r ck pause).id = a.id ∧ (a.after r ck pause).st = a.st := by unfold AS.after; split <;> exact ⟨rfl, rfl⟩
theorem tickOne_id (a : AS) (s : P.σ) : (tickOne P ck pause a s).1.id = a.id ∧ (tickOne P ck pause a s).1.st = a.st := by
 unfold tickOne
 split
 ·exact AS.after_id ck pause a _
 ·exact ⟨rfl, rfl⟩
theorem tickL_ids (l : List AS) (s : P.σ) : (tickL P ck pause l s).1.map (·.id) = l.map (·.id) := by
 induction l generalizing s with
 | nil => rfl
 | cons a l ih => simp only [tickL, List.map_cons, ih, (tickOne_id P ck pause a s).1]
theorem tickL_sts (l : List AS) (s : P.σ) : (tickL P ck pause l s).1.map (·.st) = l.map (·.st) := by
 induction l generalizing s with
 | nil => rfl
 | cons a l ih => simp only [tickL, List.map_cons, ih, (tickOne_id P ck pause a s).2]
theorem tickL_len (l : List AS) (s : P.σ) : (tickL P ck pause l s).1.length = l.length := by
 have := congrArg List.length (tickL_ids P ck pause l s)
 simpa using this
theorem tickL_sz (l : List AS) (s : P.σ) : P.sz (tickL P ck pause l s).2.1 ≤ P.sz s + l.length := by
 induction l generalizing s with
 | nil => simp [tickL]
 | cons a l ih =>
  have h1 := ih (tickOne P ck pause a s).2.1
  have h2 : P.sz (tickOne P ck pause a s).2.1 ≤ P.sz s + 1 := by
   unfold tickOne
   split
   ·exact P.szs _ _
   ·simp
  simp only [tickL, List.length_cons]
  omega
theorem AS.Ok.mono {a : AS} {c c' : Int} (h : a.Ok c) (hc : c ≤ c') : a.Ok c' := ⟨h.s, h.p, h.l1, h.l6, h.t0, by have := h.t1; omega⟩
theorem tickOne_ok {a : AS} (s : P.σ) (h : a.Ok (ck - 1)) (h0 : 0 ≤ ck) : (tickOne P ck pause a s).1.Ok ck ∧ (tickOne P ck pause a s).1.left + (tickOne P ck pause a s).2.2.length ≤ a.left := by
 unfold tickOne
 by_cases hd : a.open ∧ a.due ≤ ck
 ·rw [if_pos hd]
  by_cases hm : a.moves (P.ask s a.asks).1 = true
  ·have := h.go (reply := ((P.ask s a.asks).1 : Nat)) (clock := ck) h0 hd.1 hm
   simp only [AS.after, hm, if_true, List.length_singleton]
   exact this
  ·simp only [AS.after, hm]
   exact ⟨h.vain, Nat.le_refl _⟩
 ·rw [if_neg hd]
  exact ⟨h.mono (by omega), by simp⟩
theorem tickL_ok (l : List AS) (s : P.σ) (h : ∀ a ∈ l, a.Ok (ck - 1)) (h0 : 0 ≤ ck) : (∀ a ∈ (tickL P ck pause l s).1, a.Ok ck) ∧ ((tickL P ck pause l s).1.map AS.left).sum + (tickL P ck pause l s).2.2.length ≤ (l.map AS.left).sum := by
 induction l generalizing s with
 | nil => simp [tickL]
 | cons a l ih =>
  have h1 := tickOne_ok P ck pause s (h a (by simp)) h0
  have h2 := ih (tickOne P ck pause a s).2.1 (fun b hb => h b (by simp [hb]))
  simp only [tickL, List.map_cons, List.sum_cons, List.length_append]
  refine ⟨fun b hb => ?_, by have := h1.2; have := h2.2; omega⟩
  rcases List.mem_cons.1 hb with rfl | hb
  ·exact h1.1
  ·exact h2.1 b hb
end
section
variable {es : List (Nat × AS)}
theorem map_turn (d r : List AS) (a : AS) (f : AS → AS) (hd : (d ++ a :: r).Pairwise (fun a b => a.id < b.id)) : (d ++ a :: r).map (fun b => if b.id = a.id then f b else b) = d ++ f a :: r := by
 rw [List.pairwise_append, List.pairwise_cons] at hd
 have h1 : d.map (fun b => if b.id = a.id then f b else b) = d := by
  refine (List.map_congr_left fun b hb => ?_).trans (List.map_id _)
  have := hd.2.2 b hb a (by simp)
  rw [if_neg (by omega)]; rfl
 have h2 : r.map (fun b => if b.id = a.id then f b else b) = r := by
  refine (List.map_congr_left fun b hb => ?_).trans (List.map_id _)
  have := hd.2.1.1 b hb
  rw [if_neg (by omega)]; rfl
 rw [List.map_append, List.map_cons, h1, h2, if_pos rfl]
theorem mapE_snd (id : Int) (f : AS → AS) : (mapE es id f).map (·.2) = (es.map (·.2)).map (fun b => if b.id = id then f b else b) := by
 rw [mapE, List.map_map, List.map_map]
 refine List.map_congr_left fun p _ => ?_
 show (if p.2.id = id then (p.1, f p.2) else p).2 = if p.2.id = id then f p.2 else p.2
 split <;> rfl
theorem mapE_fst (id : Int) (f : AS → AS) : (mapE es id f).map (·.1) = es.map (·.1) := by
 rw [mapE, List.map_map]
 refine List.map_congr_left fun p _ => ?_
 show (if p.2.id = id then (p.1, f p.2) else p).1 = p.1
 split <;> rfl
theorem rollF_fst {es' : List (Nat × AS)} (h : es'.map (·.1) = es.map (·.1)) (R : Nat) (ev : Value) (b : Nat) : RollF R ev es' b ↔ RollF R ev es b := by
 have key : ∀ l : List (Nat × AS), (∃ p ∈ l, b = p.1) ↔ b ∈ l.map (·.1) := fun l => by
  constructor
  ·rintro ⟨p, hp, rfl⟩; exact List.mem_map.2 ⟨p, hp, rfl⟩
  ·intro hb; obtain ⟨p, hp, rfl⟩ := List.mem_map.1 hb; exact ⟨p, hp, rfl⟩
 unfold RollF
 rw [key, key, h]
end
end Go.Proofs.YteebjgfalllbjaaGreatDoor
namespace Go.Proofs.YteebjgfalllbjaaGreatDoor
open Go.RowKit
def mvP (m : Nat × Nat) : List Value := mvB m.1 m.2
theorem mvP_len (m : Nat × Nat) : (mvP m).length = 128 := ldB_len 3 _ (bodyM_len _ _) 4 (by omega)
section
variable {w : World} {X J R V A B n base : Nat} {room clock ck pause calls writes : Int} {ev cv : Value} {es : List (Nat × AS)} {sb : Bool} {recs : List (List Value)}
def TkI (P : Ptn cv) (s0 : P.σ) (F0 : Nat → Prop) (w : World) (X J R V A B n base : Nat) (room ck pause calls writes : Int) (ev : Value) (es : List (Nat × AS)) (sb : Bool) (recs : List (List Value)) (i : Nat) (W : World) : Prop :=
 ∃ es' calls' writes' sb', es'.map (·.1) = es.map (·.1) ∧ es'.map (·.2) = (tickL P ck pause ((es.map (·.2)).take i) s0).1 ++ (es.map (·.2)).drop i ∧
  ES W X J R V A B n base (recs.length + 1 + (tickL P ck pause ((es.map (·.2)).take i) s0).2.2.length) room ck pause calls' writes' ev cv es' sb' (layB n (recs ++ (tickL P ck pause ((es.map (·.2)).take i) s0).2.2.map mvP)) ∧
  (calls ≤ calls' ∧ calls' + sx sb' ≤ calls + sx sb + 2 * i ∧ writes ≤ writes' ∧ writes' ≤ writes + 3 * i) ∧
  (∃ F, P.PA (tickL P ck pause ((es.map (·.2)).take i) s0).2.1 F W ∧ ∀ b, F b → F0 b ∨ w.heap.size ≤ b) ∧ Fr (fun b => b = X ∨ b = A ∨ b = B ∨ b = J ∨ F0 b ∨ RollF R ev es b) w W
theorem ES.frz {W W' : World} {e : Nat} {s : Bool} {bs : List Value} (h : ES W X J R V A B n base e room clock pause calls writes ev cv es s bs) (hf : Fr (fun _ => False) W W') : ES W' X J R V A B n base e room clock pause calls writes ev cv es s bs := ⟨hf.keep h.eng (fun h => h), h.roll.frz hf, h.jn.frz hf⟩
theorem pf_ne {P : Ptn cv} {s : P.σ} {F : Nat → Prop} {W : World} {e : Nat} {sb : Bool} {bs : List Value} (h : ES W X J R V A B n base e room clock pause calls writes ev cv es sb bs) (hP : P.PA s F W) (b : Nat) (hb : F b) : b ≠ X ∧ b ≠ A ∧ b ≠ B ∧ b ≠ J ∧ b ≠ V ∧ ¬ RollF R ev es b ∧ b < W.heap.size := by
 obtain ⟨c, t, hc, ht⟩ := P.ty hP hb
 unfold PT at ht
 refine ⟨?_, ?_, ?_, ?_, ?_, roll_ne h.roll hc (by rcases ht with rfl | rfl | rfl | rfl <;> decide), lt_of_heap hc⟩ <;> intro e <;> subst e
 ·have := hc.symm.trans h.eng; simp at this; rw [this.2] at ht; revert ht; decide
 ·have := hc.symm.trans h.jn.d; simp [dcells] at this; rw [this.2] at ht; revert ht; decide
 ·have := hc.symm.trans h.jn.r.1; simp at this; rw [this.2] at ht; revert ht; decide
 ·have := hc.symm.trans h.jn.j; simp at this; rw [this.2] at ht; revert ht; decide
 ·have := hc.symm.trans h.jn.v; simp at this; rw [this.2] at ht; revert ht; decide
theorem tick_ok (P : Ptn cv) {s0 : P.σ} {F0 : Nat → Prop} (E : ES w X J R V A B n base (recs.length + 1) room clock pause calls writes ev cv es sb (layB n recs)) (hs : Sorted es) (hok : ∀ p ∈ es, p.2.Ok clock) (hid : ∀ p ∈ es, 1 ≤ p.2.id ∧ p.2.id ≤ 1000) (hrl : ∀ r ∈ recs, r.length = 128)
  (hroom : recs.length + 1 + ((es.map (·.2)).map AS.left).sum ≤ n) (hn4 : n ≤ 400) (hln : es.length ≤ 100000) (h0 : 0 ≤ calls) (h1 : calls < 79000000) (h2 : 0 ≤ writes) (h3 : writes < 79000000) (hp1 : 1 ≤ pause) (hp2 : pause ≤ 64) (hc0 : 0 ≤ clock) (hc1 : clock < 1000000) (hPA : P.PA s0 F0 w) (hsz : P.sz s0 + es.length ≤ 20000000) :
  Calls Tryz.prog 43 #[.pointer (some ⟨X, 0, none⟩)] w fun e' w' => e' = .returned .nilIface ∧ TkI P s0 F0 w X J R V A B n base room (clock + 1) pause calls writes ev es sb recs es.length w' := by
 obtain ⟨ck, hck⟩ : ∃ ck, ck = clock + 1 := ⟨_, rfl⟩
 rw [← hck]
 have hck1 : ck - 1 = clock := by omega
 have hLs : (es.map (·.2)).Pairwise (fun a b => a.id < b.id) := by rw [List.pairwise_map]; exact hs
 have hLok : ∀ a ∈ es.map (·.2), a.Ok (ck - 1) := fun a ha => by
  obtain ⟨p, hp, rfl⟩ := List.mem_map.1 ha
  rw [hck1]; exact hok p hp
 have hLid : ∀ a ∈ es.map (·.2), 1 ≤ a.id ∧ a.id ≤ 1000 := fun a ha => by
  obtain ⟨p, hp, rfl⟩ := List.mem_map.1 ha
  exact hid p hp
 have hLl : (es.map (·.2)).length = es.length := List.length_map _
 obtain ⟨L, hL⟩ : ∃ L, L = es.map (·.2) := ⟨_, rfl⟩
 have hzs : (es.map fun p => p.2.told).length = es.length := List.length_map _
 have htB : tB es es.length = ((es.map fun p => p.2.told).map ST.cs).flatten := by rw [tB, List.take_length, List.map_map]; rfl
 have hw0 : w.heap.size ≤ w.heap.size := Nat.le_refl _
 have G := tick_gen (zs := es.map fun p => p.2.told) (g := w.heap.size) (ck := ck)
  (Inv := fun i W => TkI P s0 F0 w X J R V A B n base room ck pause calls writes ev es sb recs i W ∧ W.heap[w.heap.size]? = some (.cells ((es.map fun p => p.2.told).map ST.cs).flatten.toArray 42 (0, 0)))
  E.eng hck hc0 (by omega) (by rw [hzs]; exact hln) (fun i W h => by
   obtain ⟨⟨es', c', v', sb', _, _, hE, _⟩, _⟩ := h
   exact hE.eng) (fun i W h => h.2) (fun W hE hf hsz' => ?_) (fun i W0 W z hz hI hf => ?_)
 ·rw [hzs] at G
  exact G.mono fun e' w' h => ⟨h.1, h.2.1⟩
 ·have hdis := E.dis
  have hx := E.xne
  have hRW : RollAt W R base room ev es := E.roll.fr hf (fun b hb h => (hdis b hb).2.2.2.2 h)
  refine (Statuses_ok hRW hln (fun p hp => (hok p hp).l6)).mono ?_
  rintro e' w' ⟨rfl, hg, hf'⟩
  rw [hsz'] at hg ⊢
  rw [hzs]
  refine ⟨rfl, ⟨es, calls, writes, sb, rfl, by simp [tickL], ?_, ⟨Int.le_refl _, by simp, Int.le_refl _, by simp⟩, ⟨F0, ?_, fun b hb => .inl hb⟩, (hf.mono (fun _ _ h => .inl h)).trans (hf'.mono (fun _ _ h => h.elim)) (fun _ _ h => h)⟩, by rw [← htB]; exact hg⟩
  ·have q := (E.jn.fr hf (fun h => hx.2.2.2 h.symm) (fun h => hx.1 h.symm) (fun h => hx.2.1 h.symm) (fun h => hx.2.2.1 h.symm)).frz hf'
   have : ES w' X J R V A B n base (recs.length + 1) room ck pause calls writes ev cv es sb (layB n recs) := ⟨hf'.keep hE (fun h => h), hRW.frz hf', q⟩
   simpa [tickL] using this
  ·have hPW : P.PA s0 F0 W := P.fr hPA hf (fun b hb h => (pf_ne E hPA b hb).1 h)
   have := P.fr hPW hf' (fun b _ h => h)
   simpa [tickL] using this
 ·obtain ⟨⟨es', c', v', sb', e1, e2, hE, ⟨b1, b2, b3, b4⟩, ⟨Fi, hPi, hPF⟩, hF⟩, hg⟩ := hI
  rw [← hL] at e2 hE hPi
  rw [List.getElem?_map] at hz
  obtain ⟨p0, hp0, rfl⟩ := Option.map_eq_some_iff.1 hz
  have hi : i < es.length := (List.getElem?_eq_some_iff.1 hp0).1
  have hLi : L[i]? = some p0.2 := by rw [hL, List.getElem?_map, hp0]; rfl
  obtain ⟨a, ha⟩ : ∃ a, a = p0.2 := ⟨_, rfl⟩
  rw [← ha] at hLi
  have hdr : L.drop i = a :: L.drop (i + 1) := by
   have hlt := (List.getElem?_eq_some_iff.1 hLi).1
   rw [List.drop_eq_getElem_cons hlt, (List.getElem?_eq_some_iff.1 hLi).2]
  have htk : L.take (i + 1) = L.take i ++ [a] := by rw [List.take_add_one, hLi]; rfl
  obtain ⟨T, hT⟩ : ∃ T, T = tickL P ck pause (L.take i) s0 := ⟨_, rfl⟩
  have hTn : tickL P ck pause (L.take (i + 1)) s0 = (T.1 ++ [(tickOne P ck pause a T.2.1).1], (tickOne P ck pause a T.2.1).2.1, T.2.2 ++ (tickOne P ck pause a T.2.1).2.2) := by rw [htk, tickL_snoc, hT]
  have hTl : T.1.length = i := by rw [hT, tickL_len, List.length_take, hL, hLl]; omega
  have hTok := tickL_ok P ck pause (L.take i) s0 (fun b hb => hLok b (by rw [← hL]; exact List.mem_of_mem_take hb)) (by omega)
  have hTsz := tickL_sz P ck pause (L.take i) s0
  have hTid := tickL_ids P ck pause (L.take i) s0
  rw [← hT] at e2 hE hPi hTok hTsz hTid
  have haL : a ∈ L := List.mem_of_getElem? hLi
  have haok : a.Ok (ck - 1) := hLok a (by rw [← hL]; exact haL)
  have haid : 1 ≤ a.id ∧ a.id ≤ 1000 := hLid a (by rw [← hL]; exact haL)
  rw [hdr] at e2
  -- the roll's sagas are sorted still
  have hids : (es'.map (·.2)).map (·.id) = L.map (·.id) := by
   rw [e2, ← hdr, List.map_append, hTid, ← List.map_append, List.take_append_drop]
  have hs2 : (es'.map (·.2)).Pairwise (fun a b => a.id < b.id) := by
   have h1 : (L.map (·.id)).Pairwise (· < ·) := by rw [List.pairwise_map, hL]; exact hLs
   rw [← hids, List.pairwise_map] at h1
   exact h1
  have hs' : Sorted es' := by rw [List.pairwise_map] at hs2; exact hs2
  have hlen' : es'.length = es.length := by have := congrArg List.length e1; simpa using this
  have hok' : ∀ p ∈ es', p.2.Ok ck := by
   intro p hp
   have h1 : p.2 ∈ es'.map (·.2) := List.mem_map.2 ⟨p, hp, rfl⟩
   rw [e2] at h1
   rcases List.mem_append.1 h1 with h1 | h1
   ·exact hTok.1 _ h1
   ·rw [← hdr] at h1
    exact (hLok _ (by rw [← hL]; exact List.mem_of_mem_drop h1)).mono (by omega)
  obtain ⟨p, hp, hpa⟩ : ∃ p ∈ es', p.2 = a := by
   have h1 : a ∈ es'.map (·.2) := by rw [e2]; simp
   obtain ⟨p, hp, h⟩ := List.mem_map.1 h1
   exact ⟨p, hp, h⟩
  have hEW := hE.frz hf
  refine (rNext_ok hEW.roll hs' (by omega) hok' p0.2.told.id ck).mono ?_
  have hz1 : p0.2.told.id = p.2.id := by rw [hpa, ha]; rfl
  rw [hz1]
  rintro e' w' ⟨hq, hf'⟩
  -- nothing is due
  have stay : ¬ (a.open ∧ a.due ≤ ck) → ∀ W', Fr (fun _ => False) W0 W' → TkI P s0 F0 w X J R V A B n base room ck pause calls writes ev es sb recs (i + 1) W' ∧ W'.heap[w.heap.size]? = some (.cells ((es.map fun p => p.2.told).map ST.cs).flatten.toArray 42 (0, 0)) := by
   intro hno W' hfW
   have h1 : tickOne P ck pause a T.2.1 = (a, T.2.1, []) := if_neg hno
   refine ⟨⟨es', c', v', sb', e1, ?_, ?_, ⟨b1, by push_cast; omega, b3, by push_cast; omega⟩, ⟨Fi, ?_, hPF⟩, hF.trans (hfW.mono (fun _ _ h => h.elim)) (fun _ _ h => h)⟩, hfW.keep hg (fun h => h)⟩
   ·rw [← hL, hTn, h1, e2]; simp
   ·rw [← hL, hTn, h1]
    have := hE.frz hfW
    simpa using this
   ·rw [← hL, hTn, h1]
    exact P.fr hPi hfW (fun _ _ h => h)
  rcases hq with ⟨q, hqm, hqi, hqo, rfl⟩ | ⟨hno, rfl⟩
  ·obtain rfl := sorted_uniq hs' hqm hp hqi
   refine ⟨q.2.asks, _, rfl, hf', fun ht => stay (fun h => ?_), fun ht W' hfW => ?_⟩
   ·rw [← hpa] at h
    simp [h.2] at ht
   ·have hd : q.2.due ≤ ck := of_decide_eq_true ht
    have hE' := hE.frz hfW
    have hP' := P.fr hPi hfW (fun _ _ h => h)
    have hne := fun b hb => pf_ne hE' hP' b hb
    have hTl2 : (L.take i).length = i := by rw [List.length_take, hL, hLl]; omega
    have hsum : ((L.take i).map AS.left).sum + a.left ≤ (L.map AS.left).sum := by
     have h5 : L = L.take i ++ (a :: L.drop (i + 1)) := by rw [← hdr, List.take_append_drop]
     conv => rhs; rw [h5]
     rw [List.map_append, List.sum_append_nat, List.map_cons, List.sum_cons]
     omega
    have hleft : 1 ≤ a.left := haok.left1 (by rw [← hpa]; exact hqo)
    have hrm : recs.length + 1 + T.2.2.length + 1 ≤ n := by
     have h6 := hTok.2
     rw [← hL] at hroom
     omega
    have hrl' : ∀ r ∈ recs ++ T.2.2.map mvP, r.length = 128 := by
     intro r hr
     rcases List.mem_append.1 hr with hr | hr
     ·exact hrl r hr
     ·obtain ⟨m, _, rfl⟩ := List.mem_map.1 hr
      exact mvP_len m
    have hrll : (recs ++ T.2.2.map mvP).length = recs.length + T.2.2.length := by rw [List.length_append, List.length_map]
    have hz := layB_zero n (recs ++ T.2.2.map mvP) hrl' (recs.length + 1 + T.2.2.length) (by omega) (by omega)
    have hsxl := sx_le sb'
    have hsxs := sx_le sb
    have hii : (i : Int) ≤ 100000 := by omega
    refine (ask_ok hE' hs' (by omega) hok' (by omega) hp hqo (k := q.2.id.toNat) (by rw [hpa]; omega) (by rw [hpa]; omega) (by omega) (by omega) (by omega) (by omega) (by omega) hn4 hz hp1 hp2 (by omega) (by omega) (F := Fi)
     (Q := fun r W => r = (P.ask T.2.1 q.2.asks).1 ∧ ∃ F, P.PA (P.ask T.2.1 q.2.asks).2 F W ∧ ∀ b, F b → Fi b ∨ W'.heap.size ≤ b) hne (fun W2 hf2 hE2 => ?_) (fun r W2 W3 h hf3 => ?_)).mono ?_
    ·have hP2 := P.fr hP' hf2 (fun b hb h => by have := hne b hb; omega)
     refine (P.rep q.2.asks hP2 (by omega) hE2).mono ?_
     rintro e2 w2 ⟨rfl, hfr, F2, hpa2, hgr⟩
     exact ⟨_, rfl, P.le _ _, hfr, rfl, F2, hpa2, fun b hb => (hgr b hb).imp id (fun h => Nat.le_trans hf2.size h)⟩
    ·obtain ⟨hr0, F2, hp2, hg2⟩ := h
     refine ⟨hr0, F2, P.fr hp2 hf3 (fun b hb h4 => ?_), hg2⟩
     have hA := lt_of_heap hE'.jn.d
     have hB := lt_of_heap hE'.jn.r.1
     have hJ := lt_of_heap hE'.jn.j
     have hpl := lt_of_heap (hE'.roll.e q hp).2
     rcases hg2 b hb with h5 | h5
     ·have h6 := hne b h5
      have h7 : b ≠ q.1 := fun e => h6.2.2.2.2.2.1 (.inr (.inr ⟨q, hp, e⟩))
      omega
     ·omega
    ·rintro e3 w3 ⟨rfl, r, hr2, ⟨hr, F3, hPr, hgr⟩, c3, v3, d1, d2, d3, d4, hE3, hF3⟩
     have h1 : tickOne P ck pause a T.2.1 = (a.after r ck pause, (P.ask T.2.1 a.asks).2, if a.moves r = true then [(a.id.toNat, r)] else []) := by
      rw [tickOne, if_pos ⟨by rw [← hpa]; exact hqo, by rw [← hpa]; exact hd⟩, hr, hpa]
     have hsxt : sx true = 0 := rfl
     refine ⟨rfl, ⟨mapE es' q.2.id (·.after r ck pause), c3, v3, true, by rw [mapE_fst, e1], ?_, ?_, ⟨by omega, by rw [hsxt]; push_cast; omega, by omega, by push_cast; omega⟩, ⟨F3, ?_, ?_⟩, ?_⟩, ?_⟩
     all_goals try rw [← hL, hTn]
     ·rw [mapE_snd, e2, hpa]
      rw [e2] at hs2
      rw [map_turn T.1 (L.drop (i + 1)) a (fun b => b.after r ck pause) hs2, h1]
      simp
     ·rw [h1]
      rw [hpa] at hE3 ⊢
      by_cases hm : a.moves r = true
      ·rw [if_pos hm, if_pos hm] at hE3
       simp only [if_pos hm, List.length_append, List.length_singleton, List.map_append, List.map_singleton]
       have hadd := layB_add n (recs ++ T.2.2.map mvP) (mvB a.id.toNat r) hrl' (mvP_len (a.id.toNat, r)) (by omega)
       rw [hrll, show recs.length + T.2.2.length + 1 = recs.length + 1 + T.2.2.length by omega] at hadd
       rw [hadd] at hE3
       rw [← List.append_assoc]
       exact hE3
      ·rw [if_neg hm, if_neg hm] at hE3
       simp only [if_neg hm, List.append_nil]
       exact hE3
     ·rw [h1, ← hpa]; exact hPr
     ·intro b hb
      rcases hgr b hb with h5 | h5
      ·exact hPF b h5
      ·exact .inr (Nat.le_trans (Nat.le_trans hF.size hfW.size) h5)
     ·refine ((hF.trans (hfW.mono (fun _ _ h => h.elim)) (fun _ _ h => h))).trans hF3 (fun b hbl h => ?_)
      rcases h with h | h | h | h | h
      ·rcases hPF b h with h5 | h5
       ·exact .inr (.inr (.inr (.inr (.inl h5))))
       ·omega
      ·exact .inr (.inl h)
      ·exact .inr (.inr (.inl h))
      ·exact .inr (.inr (.inr (.inl h)))
      ·exact .inr (.inr (.inr (.inr (.inr ((rollF_fst e1 R ev b).1 (.inr (.inr ⟨q, hp, h⟩)))))))
     ·refine hF3.keep (hfW.keep hg (fun h => h)) (fun h => ?_)
      have hgl := lt_of_heap hg
      rcases h with h | h | h | h | h
      ·obtain ⟨c, t, hc, ht⟩ := P.ty hP' h
       have h8 := (hfW.keep hg (fun h => h)).symm.trans hc
       simp only [Option.some.injEq, Obj.cells.injEq] at h8
       rw [← h8.2.1] at ht
       revert ht
       unfold PT
       decide
      ·have h8 := (hfW.keep hg (fun h => h)); rw [h] at h8; have := h8.symm.trans hE'.jn.d; simp [dcells] at this
      ·have h8 := (hfW.keep hg (fun h => h)); rw [h] at h8; have := h8.symm.trans hE'.jn.r.1; simp at this
      ·have h8 := (hfW.keep hg (fun h => h)); rw [h] at h8; have := h8.symm.trans hE'.jn.j; simp at this
      ·have h8 := (hfW.keep hg (fun h => h)); rw [h] at h8; have := h8.symm.trans (hE'.roll.e q hp).2; simp at this
  ·refine ⟨zC, false, rfl, hf', fun _ => stay (fun h => ?_), fun ht => by cases ht⟩
   rw [← hpa] at h
   exact hno p hp rfl h.1
end
end Go.Proofs.YteebjgfalllbjaaGreatDoor
namespace Go.Proofs.YteebjgfalllbjaaGreatDoor
open Go.RowKit
inductive Rec where
 | take (id : Nat) (st : List SS)
 | move (id r : Nat)
def Rec.bytes : Rec → List Value
 | .take id st => recB (id, st)
 | .move id r => mvP (id, r)
def Rec.need : Rec → Nat
 | .take _ st => 2 * st.length
 | .move _ _ => 0
def needC (rs : List Rec) : Nat := (rs.map Rec.need).sum
def mvA (L : List AS) (id r : Int) : List AS := L.map fun a => if a.id = id then a.go r else a
def Rec.on (L : List AS) : Rec → List AS
 | .take id st => insA (newA id st) L
 | .move id r => mvA L id r
def recL (rs : List Rec) : List AS := rs.foldl Rec.on []
def Rec.Ok (L : List AS) : Rec → Prop
 | .take id st => sagaOk id st = true ∧ ∀ a ∈ L, a.id ≠ id
 | .move id r => r ≤ 2 ∧ id ≤ 1000 ∧ ∃ a ∈ L, a.id = id ∧ a.open ∧ a.moves r = true
def RecsOk (rs : List Rec) : Prop := ∀ (i : Nat) (r : Rec), rs[i]? = some r → r.Ok (recL (rs.take i))
theorem recL_snoc (rs : List Rec) (r : Rec) : recL (rs ++ [r]) = Rec.on (recL rs) r := by simp [recL]
theorem needC_snoc (rs : List Rec) (r : Rec) : needC (rs ++ [r]) = needC rs + r.need := by simp [needC]
theorem recsOk_nil : RecsOk [] := fun i r h => by simp at h
theorem recsOk_snoc {rs : List Rec} {r : Rec} : RecsOk (rs ++ [r]) ↔ RecsOk rs ∧ r.Ok (recL rs) := by
 constructor
 ·intro h
  refine ⟨fun i q hq => ?_, ?_⟩
  ·have hi := (List.getElem?_eq_some_iff.1 hq).1
   have := h i q (by rw [List.getElem?_append_left hi]; exact hq)
   rwa [List.take_append_of_le_length (by omega)] at this
  ·have := h rs.length r (by simp)
   rwa [List.take_append_of_le_length (Nat.le_refl _), List.take_length] at this
 ·rintro ⟨h1, h2⟩ i q hq
  by_cases hi : i < rs.length
  ·rw [List.getElem?_append_left hi] at hq
   rw [List.take_append_of_le_length (by omega)]
   exact h1 i q hq
  ·have hl := (List.getElem?_eq_some_iff.1 hq).1
   rw [List.length_append, List.length_singleton] at hl
   obtain rfl : i = rs.length := by omega
   rw [List.getElem?_append_right (Nat.le_refl _)] at hq
   obtain rfl : r = q := by simpa using hq
   rwa [List.take_append_of_le_length (Nat.le_refl _), List.take_length]
theorem mvA_zero (L : List AS) (id r : Int) : (mvA L id r).map AS.zero = mvA (L.map AS.zero) id r := by
 rw [mvA, mvA, List.map_map, List.map_map]
 refine List.map_congr_left fun a _ => ?_
 show AS.zero (if a.id = id then a.go r else a) = if a.id = id then a.zero.go r else a.zero
 by_cases h : a.id = id
 ·rw [if_pos h, if_pos h]; rfl
 ·rw [if_neg h, if_neg h]
theorem insA_zero (b : AS) (L : List AS) : (insA b L).map AS.zero = insA b.zero (L.map AS.zero) := by
 simp only [insA, List.map_append, List.map_cons, List.takeWhile_map, List.dropWhile_map, Function.comp_def]
 rfl
theorem mvA_ids (L : List AS) (id r : Int) : (mvA L id r).map (·.id) = L.map (·.id) := by
 rw [mvA, List.map_map]
 refine List.map_congr_left fun a _ => ?_
 show (if a.id = id then a.go r else a).id = a.id
 split <;> rfl
theorem sorted_ids_iff {L : List AS} : L.Pairwise (fun a b => a.id < b.id) ↔ (L.map (·.id)).Pairwise (· < ·) := by rw [List.pairwise_map]
theorem pw_uniq {L : List AS} (h : L.Pairwise (fun a b => a.id < b.id)) {a b : AS} (ha : a ∈ L) (hb : b ∈ L) (e : a.id = b.id) : a = b := by
 obtain ⟨i, hi, rfl⟩ := List.mem_iff_getElem.1 ha
 obtain ⟨j, hj, rfl⟩ := List.mem_iff_getElem.1 hb
 rcases Nat.lt_trichotomy i j with hlt | rfl | hlt
 ·have := List.pairwise_iff_getElem.1 h i j hi hj hlt; omega
 ·rfl
 ·have := List.pairwise_iff_getElem.1 h j i hj hi hlt; omega
theorem sum_mvA {L : List AS} (h : L.Pairwise (fun a b => a.id < b.id)) {a : AS} (ha : a ∈ L) (r : Int) (hl : (a.go r).left + 1 ≤ a.left) : ((mvA L a.id r).map AS.left).sum + 1 ≤ (L.map AS.left).sum := by
 obtain ⟨d, t, rfl⟩ := List.append_of_mem ha
 have e : mvA (d ++ a :: t) a.id r = d ++ a.go r :: t := map_turn d t a (fun b => b.go r) h
 rw [e]
 simp only [List.map_append, List.map_cons, List.sum_append_nat, List.sum_cons]
 omega
structure RecG (rs : List Rec) : Prop where
 so : (recL rs).Pairwise (fun a b => a.id < b.id)
 ok : ∀ a ∈ recL rs, a.Ok 0 ∧ sagaOk a.id a.st = true ∧ AS.zero a = a
 lf : rs.length + ((recL rs).map AS.left).sum ≤ needC rs
 nd : ((recL rs).map fun a => 2 * a.st.length).sum = needC rs
 ln : 2 * (recL rs).length ≤ needC rs
theorem newA_ok {id : Nat} {st : List SS} (h : sagaOk id st = true) : (newA id st).Ok 0 ∧ (newA id st).left = 2 * st.length - 1 := by
 obtain ⟨_, _, h1, h6, _⟩ := saga_of id st h
 exact ⟨⟨.inl rfl, fun _ => ⟨Int.le_refl _, by show (1 : Int) ≤ st.length; omega⟩, h1, h6, Int.le_refl _, Int.le_refl _⟩, by simp [AS.left, newA]⟩
theorem recG {rs : List Rec} (h : RecsOk rs) : RecG rs := by
 revert h
 refine snoc_ind (P := fun rs => RecsOk rs → RecG rs) (fun _ => ⟨.nil, by simp [recL], by simp [recL, needC], by simp [recL, needC], by simp [recL, needC]⟩) (fun rs r ih h => ?_) rs
 obtain ⟨h1, h2⟩ := recsOk_snoc.1 h
 have g := ih h1
 cases r with
 | take id st =>
  obtain ⟨h3, h4⟩ := h2
  have hn := newA_ok h3
  obtain ⟨_, _, hl1, hl6, _⟩ := saga_of id st h3
  have e : recL (rs ++ [.take id st]) = insA (newA id st) (recL rs) := recL_snoc _ _
  have en : needC (rs ++ [.take id st]) = needC rs + 2 * st.length := needC_snoc _ _
  have hlen : (insA (newA id st) (recL rs)).length = (recL rs).length + 1 := by
   have h := congrArg List.length (List.takeWhile_append_dropWhile (p := fun c => decide (c.id < (newA id st).id)) (l := recL rs))
   rw [List.length_append] at h
   unfold insA
   rw [List.length_append, List.length_cons]
   omega
  refine ⟨by rw [e]; exact sorted_insA g.so h4, ?_, ?_, ?_, ?_⟩
  ·rw [e]
   intro a ha
   rcases mem_insA.1 ha with rfl | ha
   ·exact ⟨hn.1, h3, rfl⟩
   ·exact g.ok a ha
  ·rw [e, en, sum_insA, hn.2, List.length_append, List.length_singleton]
   have := g.lf
   omega
  ·rw [e, en, sum_insA, g.nd, newA_len]; omega
  ·rw [e, en, hlen]; have := g.ln; omega
 | move id r =>
  obtain ⟨h3, h4, a, ha, hid, ho, hm⟩ := h2
  have e : recL (rs ++ [.move id r]) = mvA (recL rs) id r := recL_snoc _ _
  have en : needC (rs ++ [.move id r]) = needC rs := needC_snoc _ _
  have hg := (g.ok a ha).1.go (clock := 0) (Int.le_refl _) ho hm
  refine ⟨by rw [e, sorted_ids_iff, mvA_ids, ← sorted_ids_iff]; exact g.so, ?_, ?_, ?_, ?_⟩
  ·rw [e]
   intro b hb
   obtain ⟨c, hc, rfl⟩ := List.mem_map.1 hb
   by_cases hci : c.id = id
   ·obtain rfl := pw_uniq g.so hc ha (by omega)
    rw [if_pos hci]
    exact ⟨hg.1, (g.ok c hc).2.1, rfl⟩
   ·rw [if_neg hci]; exact g.ok c hc
  ·have := sum_mvA g.so ha r hg.2
   have h5 := g.lf
   rw [e, en, List.length_append, List.length_singleton, ← hid]
   omega
  ·rw [e, en, ← g.nd, mvA, List.map_map]
   congr 1
   refine List.map_congr_left fun c _ => ?_
   show 2 * (if c.id = id then c.go r else c).st.length = 2 * c.st.length
   split <;> rfl
  ·rw [e, en, mvA, List.length_map]; exact g.ln
theorem AS.zero_ok {a : AS} {c : Int} (h : a.zero.Ok c) (h0 : 0 ≤ a.tries) (h1 : a.tries ≤ c) : a.Ok c := ⟨h.s, h.p, h.l1, h.l6, h0, h1⟩
theorem Rec.bytes_ok {L : List AS} {r : Rec} (h : r.Ok L) : RecOk r.bytes := by
 cases r with
 | take id st => exact recB_ok (p := (id, st)) h.1
 | move id r =>
  have hb1 : ∀ v ∈ bodyS id r [] 0, v.oneCell' = true := bodyS_one _ _ _ _
  exact ⟨mvP_len (id, r), ldB_one 3 _ hb1 4, fun _ => 3, fun i hi => ldB_kind 3 _ (bodyM_len _ _) i hi, by decide⟩
theorem recs_bytes {rs : List Rec} (h : RecsOk rs) : ∀ b ∈ rs.map Rec.bytes, RecOk b := by
 intro b hb
 obtain ⟨r, hr, rfl⟩ := List.mem_map.1 hb
 obtain ⟨i, hi⟩ := List.mem_iff_getElem?.1 hr
 exact Rec.bytes_ok (h i r hi)
def mvR (m : Nat × Nat) : Rec := .move m.1 m.2
theorem mvR_bytes (l : List (Nat × Nat)) : (l.map mvR).map Rec.bytes = l.map mvP := by
 rw [List.map_map]; rfl
theorem tickL_recs {cv : Value} (P : Ptn cv) (ck pause : Int) (l : List AS) : ∀ (s : P.σ) (d : List AS) (rs : List Rec), (d ++ l).Pairwise (fun a b => a.id < b.id) → (∀ a ∈ l, 1 ≤ a.id ∧ a.id ≤ 1000) → RecsOk rs → (d ++ l).map AS.zero = recL rs →
  RecsOk (rs ++ (tickL P ck pause l s).2.2.map mvR) ∧ (d ++ (tickL P ck pause l s).1).map AS.zero = recL (rs ++ (tickL P ck pause l s).2.2.map mvR) := by
 induction l with
 | nil => intro s d rs _ _ h1 h2; simpa [tickL] using ⟨h1, by simpa using h2⟩
 | cons a l ih =>
  intro s d rs hs hid hok hL
  obtain ⟨T, hT⟩ : ∃ T, T = tickOne P ck pause a s := ⟨_, rfl⟩
  have hTid : T.1.id = a.id := by rw [hT]; exact (tickOne_id P ck pause a s).1
  have key : RecsOk (rs ++ T.2.2.map mvR) ∧ (d ++ T.1 :: l).map AS.zero = recL (rs ++ T.2.2.map mvR) := by
   unfold tickOne at hT
   by_cases hd : a.open ∧ a.due ≤ ck
   ·rw [if_pos hd] at hT
    obtain ⟨r, hr⟩ : ∃ r, r = (P.ask s a.asks).1 := ⟨_, rfl⟩
    have hr2 : r ≤ 2 := by rw [hr]; exact P.le _ _
    rw [← hr] at hT
    by_cases hm : a.moves r = true
    ·rw [if_pos hm, AS.after, if_pos hm] at hT
     subst hT
     have hia := hid a (by simp)
     have hzm : a.zero ∈ recL rs := by rw [← hL]; simp
     have hcast : ((a.id.toNat : Nat) : Int) = a.id := by omega
     refine ⟨?_, ?_⟩
     ·show RecsOk (rs ++ [.move a.id.toNat r])
      exact recsOk_snoc.2 ⟨hok, hr2, by omega, a.zero, hzm, hcast.symm, hd.1, hm⟩
     ·show (d ++ a.go r :: l).map AS.zero = recL (rs ++ [.move a.id.toNat r])
      rw [recL_snoc]
      show _ = mvA (recL rs) ((a.id.toNat : Nat) : Int) r
      rw [← hL, hcast, ← mvA_zero]
      congr 1
      exact (map_turn d l a (fun b => b.go r) hs).symm
    ·rw [if_neg hm, AS.after, if_neg hm] at hT
     subst hT
     refine ⟨by simpa using hok, ?_⟩
     show (d ++ a.vain ck pause :: l).map AS.zero = recL (rs ++ [])
     rw [List.append_nil, ← hL]
     simp only [List.map_append, List.map_cons]
     rfl
   ·rw [if_neg hd] at hT
    subst hT
    exact ⟨by simpa using hok, by simpa using hL⟩
  have hs2 : ((d ++ [T.1]) ++ l).Pairwise (fun a b => a.id < b.id) := by
   rw [sorted_ids_iff] at hs ⊢
   simpa [hTid] using hs
  have := ih T.2.1 (d ++ [T.1]) (rs ++ T.2.2.map mvR) hs2 (fun b hb => hid b (by simp [hb])) key.1 (by simpa using key.2)
  simp only [tickL, ← hT, List.map_append]
  simpa [List.append_assoc] using this
end Go.Proofs.YteebjgfalllbjaaGreatDoor
