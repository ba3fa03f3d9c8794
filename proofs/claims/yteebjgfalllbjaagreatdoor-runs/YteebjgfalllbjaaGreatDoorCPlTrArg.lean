import Derived.Test.YteebjgfalllbjaaGreatDoorCSdUpSm
import Derived.Deep.Slices
import Derived.ProofKit
namespace Go.Proofs.YteebjgfalllbjaaGreatDoor
open Go.RowKit
variable {G : Prg}

def keep (ks : List Int) (o : OR) : Bool := decide (o.K < 7) || ks.any (fun k => decide (o.K = k))
def PlI (ks : List Int) (w : World) (l : List OR) (i : Nat) (lv : Value) (wr : World) : Prop := Below w.heap.size w wr ∧ wr.ownsRow w.heap.size 74 6 lv ((l.take i).filter (keep ks)).length (ocells ((l.take i).filter (keep ks)))

theorem op_info : (Tryz.prog.info? 74).map (fun i => (i.zero, i.size, i.bytes)) = some (some (.agg #[.int .i64 0, .int .i64 0, .int .i64 0, .int .i64 0, .string ⟨#[]⟩, .string ⟨#[]⟩]), 6, 64) := by kernel_rfl
theorem take_keep {ks : List Int} {l : List OR} {i : Nat} {o : OR} (ho : l[i]? = some o) : (l.take (i + 1)).filter (keep ks) = (l.take i).filter (keep ks) ++ (if keep ks o then [o] else []) := by
  rw [List.take_add_one, ho, List.filter_append]
  by_cases h : keep ks o = true <;> simp [h]
theorem pl_skip {ks : List Int} {w wr : World} {l : List OR} {i : Nat} {o : OR} {v : Value} (h : PlI ks w l i v wr) (ho : l[i]? = some o) (hk : keep ks o = false) : PlI ks w l (i + 1) v wr ∧ (l.take (i + 1)).filter (keep ks) = (l.take i).filter (keep ks) := by
  have e : (l.take (i + 1)).filter (keep ks) = (l.take i).filter (keep ks) := by rw [take_keep ho, hk]; simp
  exact ⟨by unfold PlI; rw [e]; exact h, e⟩
theorem pl_step {ks : List Int} {w wr : World} {l : List OR} {i : Nat} {o : OR} {v : Value} (h : PlI ks w l i v wr) (ho : l[i]? = some o) (hk : keep ks o = true) (w2 : World) (v2 : Value)
    (h2 : w2.ownsRow w.heap.size 74 6 v2 (((l.take i).filter (keep ks)).length + 1) (ocells ((l.take i).filter (keep ks)) ++ o.cs)) (hg : (wr.alloc (.cells o.cs.toArray 74)).grownBy w2 v.ownBlock) :
    PlI ks w l (i + 1) v2 w2 ∧ ∃ a2 c2, v2 = .slice a2 ((l.take (i + 1)).filter (keep ks)).length c2 := by
  have e : (l.take (i + 1)).filter (keep ks) = (l.take i).filter (keep ks) ++ [o] := by rw [take_keep ho, hk]; simp
  have e2 : ocells ((l.take i).filter (keep ks)) ++ o.cs = ocells ((l.take (i + 1)).filter (keep ks)) := by rw [e, ocells_append]; simp [ocells]
  have e3 : ((l.take i).filter (keep ks)).length + 1 = ((l.take (i + 1)).filter (keep ks)).length := by rw [e]; simp
  rw [e2, e3] at h2
  have hz : w.heap.size ≤ (wr.alloc (.cells o.cs.toArray 74)).heap.size := Nat.le_trans h.1.size (by simp)
  refine ⟨⟨(h.1.alloc h.1.size _).grown hg hz (fun k hk => (h.2.lt k hk).1), h2⟩, ?_⟩
  obtain ⟨a2, c2, rfl⟩ := own_form h2
  exact ⟨a2, c2, rfl⟩
theorem pl_all {ks : List Int} (hks : ∀ k ∈ ks, Quiet k) {l : List OR} (h : ∀ o ∈ l, o.ok) (i : Nat) : ∀ o ∈ (l.take i).filter (keep ks), o.ok ∧ Quiet o.K := by
  intro o ho
  rw [List.mem_filter] at ho
  refine ⟨h o (List.mem_of_mem_take ho.1), ?_⟩
  have := ho.2
  simp only [keep, Bool.or_eq_true, decide_eq_true_eq, List.any_eq_true] at this
  rcases this with h | ⟨k, hk, e⟩
  · exact .inl h
  · rw [e]; exact hks k hk
def InK (ks : List Int) (o : OR) (p c : Value) : Prop := ∃ j : Nat, j ≤ ks.length ∧ c = .int .i64 j ∧ p = .bool (keep (ks.take j) o)
theorem keep_next {ks : List Int} {o : OR} {j : Nat} {k : Int} (hk : ks[j]? = some k) : keep (ks.take (j + 1)) o = (keep (ks.take j) o || decide (o.K = k)) := by
  unfold keep
  rw [List.take_add_one, hk, List.any_append]
  simp [Bool.or_assoc]
def KindsAt (w : World) (gk : Nat) (ks : List Int) : Prop := ∀ j k, ks[j]? = some k → w.cell? ⟨gk, j, none⟩ = some (.int .i64 k)

set_option maxRecDepth 100000 in
set_option maxHeartbeats 2000000 in
theorem plays_ok (gd : Good G) {ks : List Int} (hks : ∀ k ∈ ks, Quiet k) (hkl : ks.length ≤ 1000) {w : World} {ao : Option Addr} {cap : Nat} {l : List OR} (hl : Lies w ao l) (hok : ∀ o ∈ l, o.ok) {gk kc : Nat}
    (hkk : KindsAt w gk ks) (hG : GOk w) (hg : 0 < w.heap.size) :
    Calls Tryz.prog 14 #[.slice ao l.length cap, .slice (some ⟨gk, 0, none⟩) ks.length kc] w fun e w' => e = .returned (.bool true) ∧ Below w.heap.size w w' := by
  have HM := small_ok (cap := cap) hl
  have HL : Hid (Lies w ao l) := hl
  have HO : Hid (∀ o ∈ l, o.ok) := hok
  have HG : Hid (GOk w) := hG
  have HK : Hid (KindsAt w gk ks) := hkk
  have HKS : Hid (∀ k ∈ ks, Quiet k) := hks
  clear hl hok hG hkk hks
  go_enter Tryz.func14, Tryz.ntmps14
  go_wp2_with fail
  refine HM.mono ?_
  rintro e w1 ⟨r, rfl, hr, hf⟩
  clear HM
  cases r
  · have HF : Hid (Below w.heap.size w w1) := frz_below hf (Nat.le_refl _)
    clear hf
    go_wp2
    go_ret
    exact ⟨rfl, HF.out⟩
  have hlen := hr rfl
  have HI : Hid (PlI ks w l 0 (.slice none 0 0) w1) := ⟨frz_below hf (Nat.le_refl _), World.ownsRow_nil _ _ _ _⟩
  clear hr hf
  go_wp2
  go_loopw [6, 7] (fun lv c wr => ∃ (i : Nat) (ax : Option Addr) (cx : Nat), i ≤ l.length ∧ c = .int .i64 i ∧ lv = .slice ax ((l.take i).filter (keep ks)).length cx ∧ Hid (PlI ks w l i lv wr)) (fun _ c _ => l.length - (intOf c).toNat)
  case atStart => exact ⟨0, none, 0, Nat.zero_le _, rfl, rfl, HI⟩
  case round =>
    obtain ⟨i, ax, cx, hi, rfl, rfl, HR⟩ := hrel
    by_cases hlt : i < l.length
    · have hlt' : (i : Int) < l.length := by omega
      obtain ⟨o, ho⟩ : ∃ o, l[i]? = some o := ⟨_, List.getElem?_eq_getElem hlt⟩
      obtain ⟨g, off, rfl, hr⟩ := HL.out i o ho
      have hr' : wr.rangeAt g (off + i * 6) o.cs := fun j u hu => by
        have hc := hr j u hu
        rw [HR.out.1.cell (World.block_lt_of_cell? w _ hc)]; exact hc
      have c0 : wr.cell? ⟨g, off + i * 6, none⟩ = some (.int .i64 o.K) := hr' 0 _ rfl
      have HKW : Hid (KindsAt wr gk ks) := fun j k hj => by
        have hc := HK.out j k hj
        rw [HR.out.1.cell (World.block_lt_of_cell? w _ hc)]; exact hc
      have HRG : Hid (wr.rangeAt g (off + i * 6) o.cs) := hr'
      clear hr hr'
      go_wp2
      go_loopw [9, 10] (fun p c wx => wx = wr ∧ InK ks o p c) (fun _ c _ => ks.length - (intOf c).toNat)
      case atStart => exact ⟨rfl, 0, Nat.zero_le _, rfl, by simp [keep]⟩
      case round =>
        obtain ⟨rfl, j, hj, rfl, rfl⟩ := hrel
        by_cases hjl : j < ks.length
        · have hjl' : (j : Int) < ks.length := by omega
          obtain ⟨kj, hkj⟩ : ∃ kj, ks[j]? = some kj := ⟨_, List.getElem?_eq_getElem hjl⟩
          have qj := HKW.out j kj hkj
          have HNX : Hid (keep (ks.take (j + 1)) o = (keep (ks.take j) o || decide (o.K = kj))) := keep_next hkj
          clear hkj
          have e1 : keep (ks.take j) o = true ∨ keep (ks.take j) o = false := by cases keep (ks.take j) o <;> simp
          rcases e1 with e1 | e1
          · rw [e1]
            have HE1 : Hid (keep (ks.take j) o = true) := e1
            clear e1
            go_wp2
            go_roundw
            case rel => exact ⟨trivial, j + 1, by omega, by go_num, by rw [HNX.out, HE1.out]; rfl⟩
            case measure => simp [intOf]; omega
          · rw [e1]
            have HE1 : Hid (keep (ks.take j) o = false) := e1
            clear e1
            by_cases e2 : o.K = kj
            · go_wp2
              go_roundw
              case rel => exact ⟨trivial, j + 1, by omega, by go_num, by rw [HNX.out, HE1.out]; simp [e2]⟩
              case measure => simp [intOf]; omega
            · go_wp2
              go_roundw
              case rel => exact ⟨trivial, j + 1, by omega, by go_num, by rw [HNX.out, HE1.out]; simp [e2]⟩
              case measure => simp [intOf]; omega
        · have hjl' : ¬ (j : Int) < ks.length := by omega
          obtain rfl : j = ks.length := by omega
          rw [List.take_length]
          have e1 : keep ks o = true ∨ keep ks o = false := by cases keep ks o <;> simp
          rcases e1 with e1 | e1
          · have HN : Hid (∀ w2 v2, w2.ownsRow w.heap.size 74 6 v2 (((l.take i).filter (keep ks)).length + 1) (ocells ((l.take i).filter (keep ks)) ++ o.cs) → (wr.alloc (.cells o.cs.toArray 74)).grownBy w2 (Value.slice ax ((l.take i).filter (keep ks)).length cx).ownBlock → PlI ks w l (i + 1) v2 w2 ∧ ∃ a2 c2, v2 = .slice a2 ((l.take (i + 1)).filter (keep ks)).length c2) := pl_step HR.out ho e1
            obtain ⟨inf, hi0, hz0, hz1, hz2⟩ := info_parts op_info
            have hlf : ((l.take i).filter (keep ks)).length ≤ 16384 := Nat.le_trans (List.length_filter_le _ _) (by rw [List.length_take]; omega)
            have hown : (wr.alloc (.cells #[.int .i64 o.K, .int .i64 o.X, .int .i64 o.a, .int .i64 o.b, .string o.S, .string o.T] 74)).ownsRow w.heap.size 74 6 (.slice ax ((l.take i).filter (keep ks)).length cx) ((l.take i).filter (keep ks)).length (ocells ((l.take i).filter (keep ks))) := HR.out.2.alloc _
            have hsz : w.heap.size ≤ (wr.alloc (.cells #[.int .i64 o.K, .int .i64 o.X, .int .i64 o.a, .int .i64 o.b, .string o.S, .string o.T] 74)).heap.size := Nat.le_trans HR.out.1.size (by simp)
            have hnw : ∀ j u, o.cs[j]? = some u → (wr.alloc (.cells #[.int .i64 o.K, .int .i64 o.X, .int .i64 o.a, .int .i64 o.b, .string o.S, .string o.T] 74)).cell? ((⟨wr.heap.size, 0, none⟩ : Addr).add j) = some u := World.news_of_block (w := wr.alloc (.cells o.cs.toArray 74)) (B := wr.heap.size) (heap_alloc_at _ _)
            have hrg := HRG.out
            have HF : Hid ((wr.alloc (.cells #[.int .i64 o.K, .int .i64 o.X, .int .i64 o.a, .int .i64 o.b, .string o.S, .string o.T] 74)).ownsRow w.heap.size 74 6 (.slice ax ((l.take i).filter (keep ks)).length cx) ((l.take i).filter (keep ks)).length (ocells ((l.take i).filter (keep ks))) ∧ w.heap.size ≤ (wr.alloc (.cells #[.int .i64 o.K, .int .i64 o.X, .int .i64 o.a, .int .i64 o.b, .string o.S, .string o.T] 74)).heap.size ∧ (∀ j u, o.cs[j]? = some u → (wr.alloc (.cells #[.int .i64 o.K, .int .i64 o.X, .int .i64 o.a, .int .i64 o.b, .string o.S, .string o.T] 74)).cell? ((⟨wr.heap.size, 0, none⟩ : Addr).add j) = some u)) := ⟨hown, hsz, hnw⟩
            have c1 : wr.cell? ⟨g, off + i * 6 + 1, none⟩ = some (.int .i64 o.X) := hrg 1 _ rfl
            have c2 : wr.cell? ⟨g, off + i * 6 + 2, none⟩ = some (.int .i64 o.a) := hrg 2 _ rfl
            have c3 : wr.cell? ⟨g, off + i * 6 + 3, none⟩ = some (.int .i64 o.b) := hrg 3 _ rfl
            have c4 : wr.cell? ⟨g, off + i * 6 + 4, none⟩ = some (.string o.S) := hrg 4 _ rfl
            have c5 : wr.cell? ⟨g, off + i * 6 + 5, none⟩ = some (.string o.T) := hrg 5 _ rfl
            clear hown hsz hnw hrg
            rw [e1]
            go_wp2_with (first | (at_builtin; refine wpList_append_own (wr.alloc (.cells #[.int .i64 o.K, .int .i64 o.X, .int .i64 o.a, .int .i64 o.b, .string o.S, .string o.T] 74)) rfl (.tmp 44) (.tmp 49) 22 rfl w.heap.size 74 inf _ 6 64 Tryz.underlying22 hi0 hz0 hz1 hz2 rfl (by decide) (.slice ax ((l.take i).filter (keep ks)).length cx) ((l.take i).filter (keep ks)).length (ocells ((l.take i).filter (keep ks))) rfl HF.out.1 ⟨wr.heap.size, 0, none⟩ 1 1 o.cs rfl ?_ HF.out.2.2 o.one ?_ ?_ HF.out.2.1 ?_; (rw [o.len]); (unfold maxLen; omega); omega; intro v2 w2 hown2 hgrow2 _; obtain ⟨hPI, a2, cx2, rfl⟩ := HN.out w2 v2 hown2 hgrow2; have HP2 : Hid (PlI ks w l (i + 1) (.slice a2 ((l.take (i + 1)).filter (keep ks)).length cx2) w2) := hPI; clear hown2 hgrow2 hPI c0 c1 c2 c3 c4 c5))
            go_roundw
            case rel => exact ⟨i + 1, a2, cx2, by omega, by go_num, rfl, HP2⟩
            case measure => simp [intOf]; omega
          · have HN : Hid (PlI ks w l (i + 1) (.slice ax ((l.take i).filter (keep ks)).length cx) wr ∧ (l.take (i + 1)).filter (keep ks) = (l.take i).filter (keep ks)) := pl_skip HR.out ho e1
            rw [e1]
            go_wp2
            go_roundw
            case rel => exact ⟨i + 1, ax, cx, by omega, by go_num, by rw [HN.out.2], HN.out.1⟩
            case measure => simp [intOf]; omega
    · have hlt' : ¬ (i : Int) < l.length := by omega
      obtain rfl : i = l.length := by omega
      have HU := upTo_ok gd HR.out.2 (pl_all HKS.out HO.out _) (by rw [List.take_length]; exact Nat.le_trans (List.length_filter_le _ _) hlen) (HG.out.below HR.out.1 hg) (Nat.lt_of_lt_of_le hg HR.out.1.size)
      simp only [List.take_length] at HU
      go_wp2_with fail
      refine HU.mono ?_
      rintro e w2 ⟨rfl, hb2⟩
      have HE : Hid (Below w.heap.size w w2) := HR.out.1.trans (hb2.mono HR.out.1.size)
      clear hb2 HU
      go_wp2
      go_ret
      exact ⟨rfl, HE.out⟩
end Go.Proofs.YteebjgfalllbjaaGreatDoor
namespace Go.Proofs.YteebjgfalllbjaaGreatDoor
open Go.RowKit
variable {G : Prg}

theorem Lies.below {w w' : World} {ao : Option Addr} {l : List OR} (h : Lies w ao l) (hb : Below w.heap.size w w') : Lies w' ao l := by
  intro i o ho
  obtain ⟨g, off, e, hr⟩ := h i o ho
  exact ⟨g, off, e, fun j u hu => by
    have hc := hr j u hu
    rw [hb.cell (World.block_lt_of_cell? w _ hc)]; exact hc⟩

theorem kinds_get (ks : List Int) (j : Nat) (k : Int) (h : ks[j]? = some k) : (ks.map (fun k => Value.int .i64 k)).toArray[j]? = some (.int .i64 k) := by
  rw [List.getElem?_toArray, List.getElem?_map, h]; rfl
set_option maxRecDepth 100000 in
set_option maxHeartbeats 2000000 in
theorem runs_ok (gd : Good G) {w : World} {ao : Option Addr} {cap : Nat} {l : List OR} (hl : Lies w ao l) (hok : ∀ o ∈ l, o.ok) (hG : GOk w) (hg : 0 < w.heap.size) :
    Calls Tryz.prog 5 #[.slice ao l.length cap] w fun e w' => e = .returned (.bool true) ∧ Below w.heap.size w w' := by
  have hB : Below w.heap.size w (w.alloc (.cells #[.int .i64 10, .int .i64 11, .int .i64 12, .int .i64 13, .int .i64 14, .int .i64 15, .int .i64 16] 3)) := (Below.refl _ _).alloc (Nat.le_refl _) _
  have HU := plays_ok gd (ks := [10, 11, 12, 13, 14, 15, 16]) (kc := 7) (by intro k hk; simp only [List.mem_cons, List.not_mem_nil, or_false] at hk; unfold Quiet; omega) (by decide) (cap := cap) (gk := w.heap.size) (hl.below hB) hok (fun j k hj => by rw [cell_of_row _ _ j _ _ _ (heap_alloc_at _ _)]; exact kinds_get [10, 11, 12, 13, 14, 15, 16] j k hj) (hG.below hB hg) (Nat.lt_of_lt_of_le hg hB.size)
  go_enter Tryz.func5, Tryz.ntmps5
  go_wp2_with fail
  refine HU.mono ?_
  rintro e w2 ⟨rfl, hb2⟩
  have HE : Hid (Below w.heap.size w w2) := hB.trans (hb2.mono hB.size)
  clear hb2 HU hB
  go_wp2
  go_ret
  exact ⟨rfl, HE.out⟩
end Go.Proofs.YteebjgfalllbjaaGreatDoor
namespace Go.Proofs.YteebjgfalllbjaaGreatDoor
open Go.ChangeShapes Go.WideShapes Go.RowKit Go.Deep

theorem cells_Op : Tryz.prog.cellsOf 74 = 6 := by kernel_rfl
theorem cells_int : Tryz.prog.cellsOf 3 = 1 := by kernel_rfl
theorem cells_string : Tryz.prog.cellsOf 9 = 1 := by kernel_rfl
theorem wf_i64 {n : Int} (h : (Lit.int .i64 n).wf = true) : i64ok n := by
  simp only [Lit.wf, Bool.and_eq_true, decide_eq_true_eq] at h
  exact h
section
variable {H : Type} {enc : TypeId × Value → H} {W : World}
set_option maxRecDepth 100000 in
/-- One step of a script, from its six cells. -/
theorem open_op {fuel : Nat} {a : Addr} {cs : List Value} {x : DataW H × List MemPlace} (h1 : W.cells? 0 a 6 = some cs) (h2 : DataW.trod enc Tryz.prog W 0 (fun _ => true) true fuel 74 cs = some x) :
    ∃ o : OR, o.ok ∧ ∀ j v, o.cs[j]? = some v → W.cell? (a.add j) = some v := by
  obtain ⟨_, hlen, hcell⟩ := World.cells?_some h1
  obtain ⟨xs, k, hk, hxy, _, hxl, hf⟩ := DataW.trod_struct Tryz.underlying74 h2
  match cs, hlen with
  | [v0, v1, v2, v3, v4, v5], _ =>
    have g0 := hf 0 (⟨ "Kind", 3, 0, false, "", "", 0⟩ : Field) rfl
    have g1 := hf 1 (⟨ "X", 3, 1, false, "", "", 8⟩ : Field) rfl
    have g2 := hf 2 (⟨ "A", 3, 2, false, "", "", 16⟩ : Field) rfl
    have g3 := hf 3 (⟨ "B", 3, 3, false, "", "", 24⟩ : Field) rfl
    have g4 := hf 4 (⟨ "S", 9, 4, false, "", "", 32⟩ : Field) rfl
    have g5 := hf 5 (⟨ "T", 9, 5, false, "", "", 48⟩ : Field) rfl
    simp only [cells_int, cells_string] at g0 g1 g2 g3 g4 g5
    have l6 : xs.length = 6 := hxl
    rw [List.getElem?_eq_getElem (by omega)] at g0 g1 g2 g3 g4 g5
    obtain ⟨z0, e0, _, w0⟩ := DataW.trod_int Tryz.underlying3 g0
    obtain ⟨z1, e1, _, w1⟩ := DataW.trod_int Tryz.underlying3 g1
    obtain ⟨z2, e2, _, w2⟩ := DataW.trod_int Tryz.underlying3 g2
    obtain ⟨z3, e3, _, w3⟩ := DataW.trod_int Tryz.underlying3 g3
    obtain ⟨s4, e4, _, _⟩ := DataW.trod_string Tryz.underlying9 g4
    obtain ⟨s5, e5, _, _⟩ := DataW.trod_string Tryz.underlying9 g5
    simp at e0 e1 e2 e3 e4 e5
    subst e0 e1 e2 e3 e4 e5
    refine ⟨⟨z0, z1, z2, z3, s4, s5⟩, ⟨wf_i64 w0, wf_i64 w1, wf_i64 w2, wf_i64 w3⟩, ?_⟩
    intro j v hv
    have hj : j < 6 := by
      have := (List.getElem?_eq_some_iff.1 hv).1
      simpa [OR.cs] using this
    rw [hcell j hj]
    exact hv
set_option maxRecDepth 100000 in
/-- The script that came in. -/
theorem open_ops {base : Nat} {v : Value} {d : DataW H} {ps : List MemPlace} (hv : Value.okWide Tryz.prog W .any base 22 v) (h : DataW.Trod enc Tryz.prog W 0 (fun _ => true) true 22 v d ps) :
    ∃ (ao : Option Addr) (cap : Nat) (l : List OR), v = .slice ao l.length cap ∧ Lies W ao l ∧ ∀ o ∈ l, o.ok := by
  obtain ⟨a0, len0, cap0, rfl⟩ := okWide_slice Tryz.underlying22 hv
  obtain ⟨fuel, h⟩ := h
  rcases open_slice Tryz.underlying22 h with ⟨h1, _⟩ | ⟨a, len, cap, m, n, D, Pl, h1, hb, hl, hm, hmm, _, hx⟩
  · simp [Value.cells] at h1
    obtain ⟨rfl, rfl, rfl⟩ := h1
    exact ⟨none, 0, [], rfl, fun i o ho => by simp at ho, fun o ho => absurd ho (by simp)⟩
  · simp [Value.cells] at h1
    obtain ⟨rfl, rfl, rfl⟩ := h1
    have hlm : len0 ≤ m := by rw [hmm]; simp; exact hl
    have each : ∀ i, i < len0 → ∃ o : OR, o.ok ∧ ∀ j v, o.cs[j]? = some v → W.cell? ((a.add (i * 6)).add j) = some v := by
      intro i hi
      obtain ⟨cs', c1, c2⟩ := hx i (by omega)
      rw [cells_Op] at c1
      exact open_op c1 c2
    have : Inhabited OR := ⟨⟨0, 0, 0, 0, ⟨#[]⟩, ⟨#[]⟩⟩⟩
    obtain ⟨f, hf⟩ := choose_lt each
    refine ⟨some a, cap0, (List.range len0).map f, by simp, ?_, ?_⟩
    · intro i o ho
      simp only [List.getElem?_map, Option.map_eq_some_iff] at ho
      obtain ⟨i', hi', rfl⟩ := ho
      have hi0 : i < len0 ∧ i' = i := by
        have := List.getElem?_eq_some_iff.1 hi'
        obtain ⟨q1, q2⟩ := this
        simp at q1 q2
        exact ⟨q1, q2.symm⟩
      obtain ⟨hi0, rfl⟩ := hi0
      have h00 := (hf 0 (by omega)).2 0 _ rfl
      have hsp : a.spot = none := by
        have := World.cell?_spot h00
        simpa [Addr.add] using this
      obtain ⟨g, off, spot⟩ := a
      simp only at hsp
      subst hsp
      refine ⟨g, off, rfl, fun j u hu => ?_⟩
      have := (hf i' hi0).2 j u hu
      rw [Addr.add_mid, Addr.add_mid] at this
      exact this
    · intro o ho
      simp only [List.mem_map, List.mem_range] at ho
      obtain ⟨i, hi, rfl⟩ := ho
      exact (hf i hi).1
end
end Go.Proofs.YteebjgfalllbjaaGreatDoor
