import Derived.Test.YteebjgfalllbjaaGreatDoorCReadBsWrite
import Derived.Test.YteebjgfalllbjaaGreatDoorCRhRiApi
namespace Go.Proofs.YteebjgfalllbjaaGreatDoor
open Go.RowKit

theorem run_storeAt_row {P : Program} {w : World} {g o : Nat} {ty t : TypeId} {cur vs : List Value} (hg : w.heap[g]? = some (.cells cur.toArray t (0, 0))) (hf : o + vs.length ≤ cur.length) (h1 : ∀ v ∈ vs, v.oneCell' = true) (hi : (P.info? ty).map (·.size) = some vs.length) :
    (Instr.storeAt ty (.pointer (some ⟨g, o, none⟩)) (.agg vs.toArray)).run P w = .ok () (w.setRow g (splice cur o vs).toArray) := by
  have hst := run_storeCells_at P g o t vs 0 cur.toArray w hg (by simpa using hf) h1
  cases hq : P.info? ty with
  | none => simp [hq] at hi
  | some i =>
    have hs : i.size = vs.length := by simpa [hq] using hi
    simp [Instr.storeAt, Instr.sureAddr, storeVar, sizeOf, typeInfo, hq, hs, Value.cells, hst, splice]

/-- Writes that wait: where, and the bytes. -/
def flat (ents : List (Nat × List Value)) : List Value := ents.flatMap fun p => Value.int .i64 p.1 :: p.2
theorem flat_at : ∀ (ents : List (Nat × List Value)) (_ : ∀ p ∈ ents, p.2.length = 128) (i : Nat) (p : Nat × List Value), ents[i]? = some p → ((flat ents).drop (i * 129)).take 129 = Value.int .i64 p.1 :: p.2
  | [], _, i, p, h => by simp at h
  | q :: r, hl, 0, p, h => by
    simp at h; subst h
    have := hl q (by simp)
    simp [flat, this]
  | q :: r, hl, i + 1, p, h => by
    have hq := hl q (by simp)
    have ih := flat_at r (fun p hp => hl p (by simp [hp])) i p (by simpa using h)
    have e : flat (q :: r) = (Value.int .i64 q.1 :: q.2) ++ flat r := by simp [flat]
    rw [e, List.drop_append, List.drop_of_length_le (by simp; omega)]
    have e2 : (i + 1) * 129 - (Value.int .i64 q.1 :: q.2).length = i * 129 := by simp [hq]; omega
    rw [e2]; simpa using ih
theorem flat_len : ∀ (ents : List (Nat × List Value)) (_ : ∀ p ∈ ents, p.2.length = 128), (flat ents).length = ents.length * 129
  | [], _ => rfl
  | q :: r, hl => by
    have hq := hl q (by simp)
    have ih := flat_len r (fun p hp => hl p (by simp [hp]))
    have e : flat (q :: r) = (Value.int .i64 q.1 :: q.2) ++ flat r := by simp [flat]
    rw [e, List.length_append, ih]; simp [hq]; omega
/-- The blocks with the writes laid over them. -/
def lain (bs : List Value) (ents : List (Nat × List Value)) : List Value := ents.foldl (fun b p => splice b (p.1 * 128) p.2) bs
theorem lain_take (bs : List Value) (ents : List (Nat × List Value)) (i : Nat) (p : Nat × List Value) (h : ents[i]? = some p) : lain bs (ents.take (i + 1)) = splice (lain bs (ents.take i)) (p.1 * 128) p.2 := by
  have hi : i < ents.length := (List.getElem?_eq_some_iff.1 h).1
  have hp : ents[i] = p := (List.getElem?_eq_some_iff.1 h).2
  rw [List.take_succ_eq_append_getElem hi]
  simp [lain, hp]
theorem mem_splice {l c : List Value} {o : Nat} {v : Value} (h : v ∈ splice l o c) : v ∈ l ∨ v ∈ c := by
  simp only [splice, List.mem_append] at h
  rcases h with h | h | h
  · exact .inl (List.mem_of_mem_take h)
  · exact .inr h
  · exact .inl (List.mem_of_mem_drop h)
theorem RowsAt.splice {w : World} {B n : Nat} {bs : List Value} (h : RowsAt w B n bs) (a : Nat) (ha : a < n) (d : List Value) (hd : d.length = 128) (h1 : ∀ v ∈ d, v.oneCell' = true) :
    RowsAt (w.setRow B (Go.splice bs (a * 128) d).toArray) B n (Go.splice bs (a * 128) d) := by
  obtain ⟨hb, hl, ho⟩ := h
  refine ⟨setRow_heap _ _ _ _ _ _ hb, ?_, fun v hv => ?_⟩
  · rw [length_splice _ _ _ (by rw [hd, hl]; omega), hl]
  · rcases mem_splice hv with hv | hv
    · exact ho v hv
    · exact h1 v hv
theorem arr_size : (Tryz.prog.info? 97).map (·.size) = some 128 := by kernel_rfl
theorem store_write' (p : List Value) (hp : p.length = 129) (h1 : ∀ v ∈ p, v.oneCell' = true) (w : World) : (Instr.storeAt 101 (.pointer (some ⟨w.heap.size, 0, none⟩)) (.agg p.toArray)).run Tryz.prog (w.alloc (.cells (wz (.int .i64 0)) 101)) = .ok () (w.alloc (.cells p.toArray 101)) :=
  run_storeAt_new w 101 _ _ (by rw [write_size]; simp [hp]) (by rw [wz_size]; simp [hp]) (all_oneCell_toArray h1)
/-- The cells of one write in the row that the disk keeps. -/
theorem range_own {w : World} {base k g cap : Nat} {ents : List (Nat × List Value)} (h : w.ownsRow base 101 129 (.slice (some ⟨g, 0, none⟩) k cap) k (flat ents)) (hl : ∀ p ∈ ents, p.2.length = 128) {i : Nat} {p : Nat × List Value} (hp : ents[i]? = some p) :
    w.rangeAt g (i * 129) (Value.int .i64 p.1 :: p.2) := by
  intro j v hv
  have hc := h.cells (g := g) rfl (i * 129 + j) v
  rw [← flat_at ents hl i p hp, List.getElem?_take] at hv
  split at hv
  · rw [List.getElem?_drop] at hv
    have := hc hv
    rwa [Addr.add_mid, Nat.zero_add] at this
  · cases hv
end Go.Proofs.YteebjgfalllbjaaGreatDoor
namespace Go.Proofs.YteebjgfalllbjaaGreatDoor
open Go.RowKit

theorem al3 (w : World) (o1 o2 o3 : Obj) : Fr (fun _ => False) w (((w.alloc o1).alloc o2).alloc o3) ∧ (((w.alloc o1).alloc o2).alloc o3).heap[w.heap.size]? = some o1 ∧ (((w.alloc o1).alloc o2).alloc o3).heap[w.heap.size + 1]? = some o2 ∧ (((w.alloc o1).alloc o2).alloc o3).heap[w.heap.size + 1 + 1]? = some o3 := by
  refine ⟨(((Fr.refl _ _).alloc _).alloc _).alloc _, ?_, ?_, ?_⟩
  · rw [heap_alloc_lt _ _ _ (by simp; omega), heap_alloc_lt _ _ _ (by simp)]; exact heap_alloc_at _ _
  · rw [heap_alloc_lt _ _ _ (by simp)]; exact heap_alloc2_new w _ _
  · have := heap_alloc_at ((w.alloc o1).alloc o2) o3
    simpa using this
theorem saga_info : (Tryz.prog.info? 223).map (fun i => (i.zero, i.size, i.bytes)) = some (some (.agg #[.int .i64 0, .slice none 0 0, .int .i64 0, .int .i64 0, .int .i64 0, .int .i64 0, .slice none 0 0]), 7, 88) := by kernel_rfl
theorem saga_size : (Tryz.prog.info? 223).map (·.size) = some 7 := by kernel_rfl
theorem sagas_elem : Tryz.prog.underlying 107 = some (.slice (Tryz.prog.elem 107)) := by kernel_rfl
theorem sagas_sz (w : World) : (sizeOf (Tryz.prog.elem 107)).run Tryz.prog w = .ok 7 w := by kernel_rfl
theorem cut_lo (ao : Option Addr) (n cap k : Nat) (hk : k ≤ cap) (W : World) : (Instr.sliceAt 107 (.slice ao n cap) none (some (.int .i64 k)) none).run Tryz.prog W = .ok (.slice ao k cap) W := by
  rw [run_sliceAt_slice W 107 _ _ _ _ sagas_elem, run_slice_h W 107 ao n cap sagas_elem .i64 k (by omega) (by omega), sagas_sz]
  have : (if cap = 0 then ao else ao.map (fun x => x.add (0 * 7))) = ao := by
    split
    · rfl
    · cases ao <;> simp [Addr.add]
  simp [sliced, this]
theorem cut_hi (ao : Option Addr) (n cap k : Nat) (hk : k ≤ n) (W : World) : (Instr.sliceAt 107 (.slice ao n cap) (some (.int .i64 k)) none none).run Tryz.prog W = .ok (.slice (if cap = k then ao else ao.map (fun x => x.add (k * 7))) (n - k) (cap - k)) W := by
  rw [run_sliceAt_slice W 107 _ _ _ _ sagas_elem, run_slice_l W 107 ao n cap sagas_elem .i64 k (by omega) (by omega), sagas_sz]
  simp [sliced]
theorem RS.len (r : RS) : r.cs.length = 7 := rfl
theorem RS.one (r : RS) : ∀ v ∈ r.cs, v.oneCell' = true := by
  intro v hv
  simp only [RS.cs, List.mem_cons, List.not_mem_nil, or_false] at hv
  rcases hv with rfl | rfl | rfl | rfl | rfl | rfl | rfl <;> rfl
def rcells (L : List RS) : List Value := (L.map RS.cs).flatten
theorem rcells_len (L : List RS) : (rcells L).length = L.length * 7 := by
  induction L with
  | nil => rfl
  | cons a l ih =>
    have e : rcells (a :: l) = a.cs ++ rcells l := by simp [rcells]
    rw [e, List.length_append, ih, a.len]; simp; omega
theorem rcells_append (a b : List RS) : rcells (a ++ b) = rcells a ++ rcells b := by simp [rcells]
theorem rcells_one (L : List RS) : ∀ v ∈ rcells L, v.oneCell' = true := by
  intro v hv
  simp only [rcells, List.mem_flatten, List.mem_map] at hv
  obtain ⟨l, ⟨r, _, rfl⟩, h⟩ := hv
  exact r.one v h
theorem rcells_cut (L : List RS) (k : Nat) (hk : k ≤ L.length) : (rcells L).take (k * 7) = rcells (L.take k) ∧ (rcells L).drop (k * 7) = rcells (L.drop k) := by
  have h : rcells L = rcells (L.take k) ++ rcells (L.drop k) := by rw [← rcells_append, List.take_append_drop]
  have e : (rcells (L.take k)).length = k * 7 := by rw [rcells_len, List.length_take]; congr 1; omega
  exact ⟨by rw [h, List.take_left' e], by rw [h, List.drop_left' e]⟩
theorem rows_saga {w : World} {b : Nat} {ao : Option Addr} {cap : Nat} {L : List RS} (h : w.ownsRow b 223 7 (.slice ao L.length cap) L.length (rcells L)) : RowsOf w ao 7 (L.map RS.cs) :=
  rows_of_own h (fun x hx => by simp only [List.mem_map] at hx; obtain ⟨r, _, rfl⟩ := hx; rfl) (by simp)

def WithQ (L : List RS) (pa cl : Int) (f : Bool) (s : RS) (w : World) (e : Ending) (w' : World) : Prop := ∃ k t v, e = .returned (.agg #[.int .i64 pa, .int .i64 cl, .bool f, v]) ∧ FindP L s.id k t ∧ w'.ownsRow w.heap.size 223 7 v (L.length + 1) (rcells (L.take k ++ s :: L.drop k)) ∧ Fr (fun _ => False) w w'
set_option maxRecDepth 100000 in
set_option maxHeartbeats 2000000 in
theorem rWith_ok {w : World} {b : Nat} {v : Value} {L : List RS} (hv : w.ownsRow b 223 7 v L.length (rcells L)) (hn : L.length ≤ 1000000) (pa cl : Int) (f : Bool) (s : RS) :
    Calls Tryz.prog 127 #[.agg #[.int .i64 pa, .int .i64 cl, .bool f, v], .agg s.cs.toArray] w fun e w' => WithQ L pa cl f s w e w' := by
  obtain ⟨ao, cap, rfl, hnil, hoff⟩ := own_shape hv
  obtain ⟨inf, hi0, hz0, hz1, hz2⟩ := info_parts saga_info
  have hcap : L.length ≤ cap := by
    rcases hv.2 with ⟨h, _⟩ | ⟨g, cap', cur, h, _, _, h2, _⟩
    · simp at h; omega
    · simp at h; omega
  have HV : Hid (w.ownsRow b 223 7 (.slice ao L.length cap) L.length (rcells L)) := hv
  obtain ⟨id, sa, sc, st, S, tr, du, ma, mc, may⟩ := s
  obtain ⟨hW, hB, hB2, hB3⟩ := al3 w (.cells #[.int .i64 pa, .int .i64 cl, .bool f, .slice ao L.length cap] 109) (.cells #[.int .i64 id, .slice sa st.length sc, .int .i64 S.1, .int .i64 S.2, .int .i64 tr, .int .i64 du, .slice ma may.length mc] 223) (.cells #[.int .i64 0, .int .i64 0, .bool false, .slice none 0 0] 109)
  clear hv
  unfold RS.cs
  go_enter Tryz.func127, Tryz.ntmps127
  go_wp2_with fail
  refine (rFind_ok ((rows_saga HV.out).frz hW) hn pa cl f id).mono ?_
  rintro e w2 ⟨k, t, rfl, hp, hf2⟩
  have HP : Hid (FindP L id k t) := hp
  have hk : k ≤ L.length := hp.1
  have hF2 := hW.trans hf2 (fun _ _ h => h)
  have hB' := hf2.keep hB (fun h => h)
  have hB2' := hf2.keep hB2 (fun h => h)
  have hB3' := hf2.keep hB3 (fun h => h)
  have d3 : w2.cell? ⟨w.heap.size, 3, none⟩ = some (.slice ao L.length cap) := by rw [cell_of_row w2 w.heap.size 3 _ _ _ hB']; rfl
  clear hp hB hB2 hB3 hW hf2
  obtain ⟨hc1, hc2⟩ := rcells_cut L k hk
  have hlk : (L.take k).length = k := by rw [List.length_take]; omega
  have HCS : Hid (∀ W : World, Fr (fun _ => False) w W → ∀ g, ao = some ⟨g, 0, none⟩ → ∀ j u, (rcells L)[j]? = some u → W.cell? ⟨g, j, none⟩ = some u) := fun W hF g hg j u hu => by
    subst hg
    have := HV.out.cells (g := g) rfl j u hu
    rw [Addr.add_mid, Nat.zero_add] at this
    exact hF.cell this (fun h => h)
  have hao : ∀ ad, ao = some ad → ∃ g, ad = ⟨g, 0, none⟩ := fun ad h => by
    obtain ⟨h1, h2⟩ := hoff ad h
    obtain ⟨g, o, sp⟩ := ad
    simp only at h1 h2
    exact ⟨g, by rw [h1, h2]⟩
  have HAO : Hid (∀ ad, ao = some ad → ∃ g, ad = ⟨g, 0, none⟩) := hao
  have HNIL : Hid (ao = none → L.length = 0 ∧ cap = 0) := hnil
  have HF2 : Hid (Fr (fun _ => False) w w2) := hF2
  have HBS : Hid (∀ W : World, Fr (fun _ => False) w2 W → W.cell? ⟨w.heap.size + 1, 0, none⟩ = some (.int .i64 id) ∧ W.cell? ⟨w.heap.size + 1, 1, none⟩ = some (.slice sa st.length sc) ∧ W.cell? ⟨w.heap.size + 1, 2, none⟩ = some (.int .i64 S.1) ∧ W.cell? ⟨w.heap.size + 1, 3, none⟩ = some (.int .i64 S.2) ∧ W.cell? ⟨w.heap.size + 1, 4, none⟩ = some (.int .i64 tr) ∧ W.cell? ⟨w.heap.size + 1, 5, none⟩ = some (.int .i64 du) ∧ W.cell? ⟨w.heap.size + 1, 6, none⟩ = some (.slice ma may.length mc)) := fun W hF => by
    have hb := hF.keep hB2' (fun h => h)
    refine ⟨?_, ?_, ?_, ?_, ?_, ?_, ?_⟩ <;> (rw [cell_of_row W (w.heap.size + 1) _ _ _ _ hb]; rfl)
  have HBX : Hid (∀ W : World, Fr (fun _ => False) w2 W → W.heap[w.heap.size]? = some (.cells #[.int .i64 pa, .int .i64 cl, .bool f, .slice ao L.length cap] 109 (0, 0)) ∧ W.cell? ⟨w.heap.size, 3, none⟩ = some (.slice ao L.length cap)) := fun W hF => by
    have hb := hF.keep hB' (fun h => h)
    exact ⟨hb, by rw [cell_of_row W w.heap.size 3 _ _ _ hb]; rfl⟩
  obtain ⟨xa, hxa⟩ : ∃ xa, (if cap = k then ao else ao.map (fun x => x.add (k * 7))) = xa := ⟨_, rfl⟩
  have HHI : Hid (∀ W : World, (Instr.sliceAt 107 (.slice ao L.length cap) (some (.int .i64 k)) none none).run Tryz.prog W = .ok (.slice xa (L.length - k) (cap - k)) W) := fun W => by rw [← hxa]; exact cut_hi ao L.length cap k hk W
  have HX0 : Hid (xa = none → L.length - k = 0 ∧ cap - k = 0) := fun h => by
    have : ao = none := by
      rw [← hxa] at h
      split at h
      · exact h
      · simpa using h
    have := hnil this
    omega
  have HXC : Hid (∀ W : World, Fr (fun _ => False) w W → ∀ ad, xa = some ad → ∀ j u, (rcells (L.drop k))[j]? = some u → W.cell? (ad.add j) = some u) := fun W hF ad had j u hu => by
    rw [← hxa] at had
    split at had
    · exfalso
      have : L.drop k = [] := List.drop_of_length_le (by omega)
      rw [this] at hu
      simp [rcells] at hu
    · cases hao' : ao with
      | none => rw [hao'] at had; simp at had
      | some a0 =>
        obtain ⟨g, rfl⟩ := hao a0 hao'
        rw [hao'] at had
        simp only [Option.map_some, Option.some.injEq, Addr.add_mid, Nat.zero_add] at had
        subst had
        rw [Addr.add_mid]
        refine HCS.out W hF g hao' (k * 7 + j) u ?_
        rw [← hc2, List.getElem?_drop] at hu
        exact hu
  have HFIN : Hid (rcells (L.take k) ++ [.int .i64 id, .slice sa st.length sc, .int .i64 S.1, .int .i64 S.2, .int .i64 tr, .int .i64 du, .slice ma may.length mc] ++ rcells (L.drop k) = rcells (L.take k ++ ⟨id, sa, sc, st, S, tr, du, ma, mc, may⟩ :: L.drop k)) := by
    show _ = _
    rw [rcells_append]
    simp [rcells, RS.cs]
  have hxl : (rcells (L.drop k)).length = (L.length - k) * 7 := by rw [rcells_len, List.length_drop]
  have HB3 : Hid (∀ (W : World) (v : Value), Fr (fun _ => False) w2 W → (W.setCell ⟨w.heap.size, 3, none⟩ v).heap[w.heap.size + 1 + 1]? = some (.cells #[.int .i64 0, .int .i64 0, .bool false, .slice none 0 0] 109 (0, 0))) := fun W v hF => by
    rw [heap_setCell_ne _ _ _ _ (by simp; omega)]; exact hF.keep hB3' (fun h => h)
  have HSZ : Hid (w.heap.size + 1 + 1 < w2.heap.size) := lt_of_heap hB3'
  have HST : Hid (∀ (W : World) (a : Option Addr) (n c : Nat), Fr (fun _ => False) w2 W → (Instr.storeAt 109 (.pointer (some ⟨w.heap.size + 1 + 1, 0, none⟩)) (.agg #[.int .i64 pa, .int .i64 cl, .bool f, .slice a n c])).run Tryz.prog (W.setCell ⟨w.heap.size, 3, none⟩ (.slice a n c)) = .ok () ((W.setCell ⟨w.heap.size, 3, none⟩ (.slice a n c)).setRow (w.heap.size + 1 + 1) #[.int .i64 pa, .int .i64 cl, .bool f, .slice a n c])) := fun W a n c hF => by
    have := run_storeAt_row (P := Tryz.prog) (o := 0) (ty := 109) (cur := [.int .i64 0, .int .i64 0, .bool false, .slice none 0 0]) (vs := [.int .i64 pa, .int .i64 cl, .bool f, .slice a n c]) (HB3.out W (.slice a n c) hF) (by simp) (by simp [Value.oneCell']) (by kernel_rfl)
    exact this
  clear hB' hB2' hB3' hoff hao hnil hF2 hxa hc2
  go_wp2_with (first
    | (refine wpList_sliceAt 107 _ _ _ _ rfl rfl (by exact cut_lo ao L.length cap k (by omega) _) ?_)
    | (at_builtin; refine wpList_append_rows rfl _ _ 107 rfl w2.heap.size 223 inf _ 7 88 Tryz.underlying107 hi0 hz0 hz1 hz2 rfl (by decide) (.slice none 0 0) 0 [] rfl (World.ownsRow_nil _ _ _ _) ao k cap (rcells (L.take k)) rfl ?_ ?_ ?_ (rcells_one _) ?_ ?_ ?_ ?_; (intro h; have := HNIL.out h; omega); (rw [rcells_len, hlk]); (intro ad had j u hu; obtain ⟨g, rfl⟩ := HAO.out ad had; rw [Addr.add_mid, Nat.zero_add]; refine HCS.out _ HF2.out g had j u ?_; rw [← hc1, List.getElem?_take] at hu; split at hu; exact hu; cases hu); (unfold maxLen; omega); omega; exact Nat.le_refl _; intro v1 w3 ho1 hg1; have hf3 : Fr (fun _ => False) w2 w3 := (Fr.refl _ _).grown hg1 (fun _ _ h => by cases h); clear hg1; obtain ⟨a1, c1, rfl, -, -⟩ := own_shape ho1; obtain ⟨s0, s1, s2, s3, s4, s5, s6⟩ := HBS.out w3 hf3; simp only [Nat.zero_add, List.nil_append] at ho1; have HO1 : Hid ((w3.alloc (.cells #[.int .i64 id, .slice sa st.length sc, .int .i64 S.1, .int .i64 S.2, .int .i64 tr, .int .i64 du, .slice ma may.length mc] 223)).ownsRow w2.heap.size 223 7 (.slice a1 k c1) k (rcells (L.take k)) ∧ Fr (fun _ => False) w2 (w3.alloc (.cells #[.int .i64 id, .slice sa st.length sc, .int .i64 S.1, .int .i64 S.2, .int .i64 tr, .int .i64 du, .slice ma may.length mc] 223)) ∧ (∀ j u, [Value.int .i64 id, .slice sa st.length sc, .int .i64 S.1, .int .i64 S.2, .int .i64 tr, .int .i64 du, .slice ma may.length mc][j]? = some u → (w3.alloc (.cells #[.int .i64 id, .slice sa st.length sc, .int .i64 S.1, .int .i64 S.2, .int .i64 tr, .int .i64 du, .slice ma may.length mc] 223)).cell? ((⟨w3.heap.size, 0, none⟩ : Addr).add j) = some u)) := ⟨ho1.alloc _, hf3.alloc _, World.news_of_block (cs := #[.int .i64 id, .slice sa st.length sc, .int .i64 S.1, .int .i64 S.2, .int .i64 tr, .int .i64 du, .slice ma may.length mc]) (heap_alloc_at w3 _)⟩; clear ho1 hf3)
    | (at_builtin; refine wpList_append_own (w3.alloc (.cells #[.int .i64 id, .slice sa st.length sc, .int .i64 S.1, .int .i64 S.2, .int .i64 tr, .int .i64 du, .slice ma may.length mc] 223)) rfl _ _ 107 rfl w2.heap.size 223 inf _ 7 88 Tryz.underlying107 hi0 hz0 hz1 hz2 rfl (by decide) (.slice a1 k c1) k (rcells (L.take k)) rfl HO1.out.1 ⟨w3.heap.size, 0, none⟩ 1 1 [.int .i64 id, .slice sa st.length sc, .int .i64 S.1, .int .i64 S.2, .int .i64 tr, .int .i64 du, .slice ma may.length mc] rfl rfl HO1.out.2.2 ?_ ?_ ?_ ?_ ?_; (simp [Value.oneCell']); (unfold maxLen; omega); omega; (exact HO1.out.2.1.size); intro v2 w4 ho2 hg2 _; have hf4 : Fr (fun _ => False) w2 w4 := HO1.out.2.1.grown hg2 (fun j hj h => by (have := (HO1.out.1.lt j h).1; exact absurd hj (by omega))); clear hg2; obtain ⟨a2, c2, rfl, -, -⟩ := own_shape ho2; have e3 := (HBX.out w4 hf4).2; clear s0 s1 s2 s3 s4 s5 s6 d3)
    | (refine wpList_sliceAt 107 _ _ _ _ rfl rfl (by exact HHI.out _) ?_)
    | (at_builtin; refine wpList_append_rows rfl _ _ 107 rfl w2.heap.size 223 inf _ 7 88 Tryz.underlying107 hi0 hz0 hz1 hz2 rfl (by decide) (.slice a2 (k + 1) c2) (k + 1) _ rfl ho2 xa (L.length - k) (cap - k) (rcells (L.drop k)) rfl HX0.out hxl ?_ (rcells_one _) ?_ ?_ ?_ ?_; (exact HXC.out w4 (HF2.out.trans hf4 (fun _ _ h => h))); (unfold maxLen; omega); omega; exact hf4.size; intro v3 w5 ho3 hg3; have hf5 : Fr (fun _ => False) w2 w5 := hf4.grown hg3 (fun j hj h => by (have := (ho2.lt j h).1; exact absurd hj (by omega))); clear hg3; obtain ⟨a3, c3, rfl, -, -⟩ := own_shape ho3; obtain ⟨hb5, f3⟩ := HBX.out w5 hf5; have fz5 : w5.frozen? ⟨w.heap.size, 3, none⟩ = false := frozen_of_row w5 w.heap.size 3 _ _ hb5; have f0 : w5.cell? ⟨w.heap.size, 0, none⟩ = some (.int .i64 pa) := (cell_of_row w5 w.heap.size 0 _ _ _ hb5).trans rfl; have f1 : w5.cell? ⟨w.heap.size, 1, none⟩ = some (.int .i64 cl) := (cell_of_row w5 w.heap.size 1 _ _ _ hb5).trans rfl; have f2 : w5.cell? ⟨w.heap.size, 2, none⟩ = some (.bool f) := (cell_of_row w5 w.heap.size 2 _ _ _ hb5).trans rfl; have HO3 : Hid (w5.ownsRow w2.heap.size 223 7 (.slice a3 (k + 1 + (L.length - k)) c3) (k + 1 + (L.length - k)) (rcells (L.take k) ++ [.int .i64 id, .slice sa st.length sc, .int .i64 S.1, .int .i64 S.2, .int .i64 tr, .int .i64 du, .slice ma may.length mc] ++ rcells (L.drop k)) ∧ Fr (fun _ => False) w2 w5) := ⟨ho3, hf5⟩; clear ho2 hf4 ho3 hf5 e3 hb5)
    | (refine wpList_store 109 (w' := (w5.setCell ⟨w.heap.size, 3, none⟩ (.slice a3 (k + 1 + (L.length - k)) c3)).setRow (w.heap.size + 1 + 1) #[.int .i64 pa, .int .i64 cl, .bool f, .slice a3 (k + 1 + (L.length - k)) c3]) _ _ rfl rfl ?_ ?_; exact HST.out w5 a3 _ c3 HO3.out.2))
  simp only [Act.put]
  have hE := setRow_heap (w5.setCell ⟨w.heap.size, 3, none⟩ (.slice a3 (k + 1 + (L.length - k)) c3)) (w.heap.size + 1 + 1) _ #[.int .i64 pa, .int .i64 cl, .bool f, .slice a3 (k + 1 + (L.length - k)) c3] 109 (0, 0) (HB3.out w5 _ HO3.out.2)
  refine bodyPost_ret (v := .agg #[.int .i64 pa, .int .i64 cl, .bool f, .slice a3 (k + 1 + (L.length - k)) c3]) (results_cell_row Tryz.results127 _ _ (w.heap.size + 1 + 1) 109 _ (0, 0) _ rfl hE Tryz.underlying109 rfl (by kernel_rfl)) rfl ?_
  have hlen : k + 1 + (L.length - k) = L.length + 1 := by omega
  have ho := HO3.out.1
  rw [HFIN.out] at ho
  have hfz : Fr (fun _ => False) w ((w5.setCell ⟨w.heap.size, 3, none⟩ (.slice a3 (k + 1 + (L.length - k)) c3)).setRow (w.heap.size + 1 + 1) #[.int .i64 pa, .int .i64 cl, .bool f, .slice a3 (k + 1 + (L.length - k)) c3]) :=
    ((HF2.out.trans HO3.out.2 (fun _ _ h => h)).setCell _ (fun h => by simp at h) _).setRow _ (fun h => by omega) _
  refine ⟨k, t, _, rfl, HP.out, ?_, hfz⟩
  rw [hlen] at ho ⊢
  have hsz2 := HSZ.out
  refine own_base2 (own_fr2 (S := fun b => b = w.heap.size ∨ b = w.heap.size + 1 + 1) ho ((((Fr.refl _ _).setCell _ (fun _ => .inl rfl) _)).setRow _ (fun _ => .inr rfl) _) ?_) HF2.out.size
  rintro b hb (e | e) <;> omega
end Go.Proofs.YteebjgfalllbjaaGreatDoor
namespace Go.Proofs.YteebjgfalllbjaaGreatDoor
open Go.RowKit
/-- Sagas of the document's answer at a tick: does one wait; does a reply move it; where it stands then. -/
def RS.waits (r : RS) (clock : Int) : Bool := decide (r.S.1 ≤ 2 ∧ r.due ≤ clock)
def RS.moves (r : RS) (reply : Int) : Bool := decide (reply = 0 ∨ (reply = 2 ∧ r.S.1 = 1))
def backS (s2 : Int) : SP := if s2 = 1 then (4, 0) else (2, s2 - 1)
def RS.next (r : RS) (reply : Int) : SP := if r.S.1 = 1 ∧ reply = 0 then (if r.S.2 = r.st.length then (3, 0) else (1, r.S.2 + 1)) else backS r.S.2
set_option maxRecDepth 100000 in
theorem Waits_ok (w : World) (r : RS) (clock : Int) : Calls Tryz.prog 130 #[.agg r.cs.toArray, .int .i64 clock] w fun e w' => e = .returned (.bool (r.waits clock)) ∧ Fr (fun _ => False) w w' := by
  obtain ⟨id, sa, sc, st, ⟨s1, s2⟩, tries, due, ma, mc, may⟩ := r
  have hf : Fr (fun _ => False) w (w.alloc (.cells #[.int .i64 id, .slice sa st.length sc, .int .i64 s1, .int .i64 s2, .int .i64 tries, .int .i64 due, .slice ma may.length mc] 223)) := (Fr.refl _ _).alloc _
  by_cases h1 : s1 ≤ 2
  · have ew : RS.waits ⟨id, sa, sc, st, (s1, s2), tries, due, ma, mc, may⟩ clock = decide (due ≤ clock) := by simp [RS.waits, h1]
    rw [ew]
    unfold RS.cs
    clear ew
    go_enter Tryz.func130, Tryz.ntmps130
    go_wp2
    go_ret
    exact ⟨rfl, hf⟩
  · have ew : RS.waits ⟨id, sa, sc, st, (s1, s2), tries, due, ma, mc, may⟩ clock = false := by simp [RS.waits, h1]
    rw [ew]
    unfold RS.cs
    clear ew
    go_enter Tryz.func130, Tryz.ntmps130
    go_wp2
    go_ret
    exact ⟨rfl, hf⟩
set_option maxRecDepth 100000 in
theorem rsMoves_ok (w : World) (r : RS) (reply : Int) : Calls Tryz.prog 158 #[.agg r.cs.toArray, .int .i64 reply] w fun e w' => e = .returned (.bool (r.moves reply)) ∧ Fr (fun _ => False) w w' := by
  obtain ⟨id, sa, sc, st, ⟨s1, s2⟩, tries, due, ma, mc, may⟩ := r
  have hf : Fr (fun _ => False) w (w.alloc (.cells #[.int .i64 id, .slice sa st.length sc, .int .i64 s1, .int .i64 s2, .int .i64 tries, .int .i64 due, .slice ma may.length mc] 223)) := (Fr.refl _ _).alloc _
  obtain ⟨m, hm⟩ : ∃ m, m = RS.moves ⟨id, sa, sc, st, (s1, s2), tries, due, ma, mc, may⟩ reply := ⟨_, rfl⟩
  rw [← hm]
  unfold RS.cs
  have Hm : Hid (m = RS.moves ⟨id, sa, sc, st, (s1, s2), tries, due, ma, mc, may⟩ reply) := hm
  clear hm
  by_cases h0 : reply = 0
  · subst h0
    go_enter Tryz.func158, Tryz.ntmps158
    go_wp2
    go_ret
    exact ⟨by rw [Hm.out]; simp [RS.moves], hf⟩
  · by_cases h2 : reply = 2
    · subst h2
      go_enter Tryz.func158, Tryz.ntmps158
      go_wp2
      go_ret
      exact ⟨by rw [Hm.out]; simp [RS.moves]; rfl, hf⟩
    · go_enter Tryz.func158, Tryz.ntmps158
      go_wp2
      go_ret
      exact ⟨by rw [Hm.out]; simp [RS.moves, h0, h2], hf⟩
theorem next_beq (id : Int) (sa : Option Addr) (sc : Nat) (st : List SS) (s1 s2 tries due : Int) (ma : Option Addr) (mc : Nat) (may : List SP) (reply : Int) : RS.next ⟨id, sa, sc, st, (s1, s2), tries, due, ma, mc, may⟩ reply = if ((s1 == 1) && (reply == 0)) = true then (if (s2 == (st.length : Int)) = true then (3, 0) else (1, s2 + 1)) else (if (s2 == 1) = true then (4, 0) else (2, s2 - 1)) := by simp [RS.next, backS]
set_option maxRecDepth 100000 in
theorem wrap64_id {x : Int} (h : -9223372036854775808 ≤ x ∧ x < 9223372036854775808) : wrap64 x = x := by unfold wrap64; omega
set_option maxRecDepth 100000 in
theorem rsNext_ok (w : World) (r : RS) (reply : Int) (h2 : 1 ≤ r.S.2) (h3 : r.S.2 ≤ 6) : Calls Tryz.prog 159 #[.agg r.cs.toArray, .int .i64 reply] w fun e w' => e = .returned (.agg #[.int .i64 (r.next reply).1, .int .i64 (r.next reply).2]) ∧ Fr (fun _ => False) w w' := by
  obtain ⟨id, sa, sc, st, ⟨s1, s2⟩, tries, due, ma, mc, may⟩ := r
  have hf : Fr (fun _ => False) w (w.alloc (.cells #[.int .i64 id, .slice sa st.length sc, .int .i64 s1, .int .i64 s2, .int .i64 tries, .int .i64 due, .slice ma may.length mc] 223)) := (Fr.refl _ _).alloc _
  obtain ⟨p, hp⟩ : ∃ p, p = RS.next ⟨id, sa, sc, st, (s1, s2), tries, due, ma, mc, may⟩ reply := ⟨_, rfl⟩
  rw [← hp]
  unfold RS.cs
  have Hp : Hid (p = RS.next ⟨id, sa, sc, st, (s1, s2), tries, due, ma, mc, may⟩ reply) := hp
  clear hp
  have FIN : ∀ (a b : Int) (tmps : Array Value), p = (a, b) → tmps.getD 4 undef = .pointer (some ⟨w.heap.size + 1, 0, none⟩) → (results Tryz.f159 tmps).run Tryz.prog ((w.alloc (.cells #[.int .i64 id, .slice sa st.length sc, .int .i64 s1, .int .i64 s2, .int .i64 tries, .int .i64 due, .slice ma may.length mc] 223)).alloc (.cells #[.int .i64 a, .int .i64 b] 220)) = .ok (.agg #[.int .i64 p.1, .int .i64 p.2]) ((w.alloc (.cells #[.int .i64 id, .slice sa st.length sc, .int .i64 s1, .int .i64 s2, .int .i64 tries, .int .i64 due, .slice ma may.length mc] 223)).alloc (.cells #[.int .i64 a, .int .i64 b] 220)) := fun a b tmps hp h4 => by
    rw [hp]
    refine results_cell_row Tryz.results159 tmps _ (w.heap.size + 1) 220 #[.int .i64 a, .int .i64 b] (0, 0) _ h4 ?_ Tryz.underlying220 rfl (by kernel_rfl)
    have := heap_alloc_at (w.alloc (.cells #[.int .i64 id, .slice sa st.length sc, .int .i64 s1, .int .i64 s2, .int .i64 tries, .int .i64 due, .slice ma may.length mc] 223)) (.cells #[.int .i64 a, .int .i64 b] 220)
    simpa using this
  have E1 : Hid (wrap64 (s2 + 1) = s2 + 1) := wrap64_id (by have : s2 ≤ 6 := h3; have : 1 ≤ s2 := h2; omega)
  have E2 : Hid (wrap64 (s2 - 1) = s2 - 1) := wrap64_id (by have : s2 ≤ 6 := h3; have : 1 ≤ s2 := h2; omega)
  go_enter Tryz.func159, Tryz.ntmps159
  go_wp2
  all_goals
    refine bodyPost_ret (FIN _ _ _ ?_ rfl) rfl ⟨rfl, hf.alloc _⟩
    rw [Hp.out]
    first | rw [E1.out, next_beq] | rw [E2.out, next_beq] | rw [next_beq]
    clear FIN hf Hp E1 E2
    simp only [*, Bool.and_true, Bool.and_false, Bool.false_and, Bool.false_eq_true, ite_true, ite_false]
end Go.Proofs.YteebjgfalllbjaaGreatDoor
