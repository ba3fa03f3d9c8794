import Derived.Test.YteebjgfalllbjaaGreatDoorCSqSrUp
import Derived.BigQuiet
namespace Go.Proofs.YteebjgfalllbjaaGreatDoor
open Go.RowKit

/-- The steps of a script, as they lie behind a slice that came in. -/
def Lies (w : World) (ao : Option Addr) (l : List OR) : Prop := ∀ i o, l[i]? = some o → ∃ g off, ao = some ⟨g, off, none⟩ ∧ w.rangeAt g (off + i * 6) o.cs

def SmP (w : World) (n : Nat) (e : Ending) (w' : World) : Prop := ∃ r, e = .returned (.bool r) ∧ (r = true → n ≤ 16384) ∧ Fr (fun _ => False) w w'
set_option maxRecDepth 100000 in
set_option maxHeartbeats 2000000 in
theorem small_ok {w : World} {ao : Option Addr} {cap : Nat} {l : List OR} (hl : Lies w ao l) :
    Calls Tryz.prog 15 #[.slice ao l.length cap] w fun e w' => SmP w l.length e w' := by
  by_cases hbig : 16384 < l.length
  · have hbig' : (16384 : Int) < l.length := by omega
    go_enter Tryz.func15, Tryz.ntmps15
    go_wp2
    go_ret
    exact ⟨false, rfl, (fun h => by cases h), Fr.refl _ _⟩
  have hbig' : ¬ (16384 : Int) < l.length := by omega
  have HL : Hid (Lies w ao l) := hl
  clear hl
  go_enter Tryz.func15, Tryz.ntmps15
  go_wp2
  go_loopw [3, 4] (fun m c wr => ∃ (i : Nat) (n : Int), i ≤ l.length ∧ m = .int .i64 n ∧ c = .int .i64 i ∧ Hid (Fr (fun _ => False) w wr)) (fun _ c _ => l.length - (intOf c).toNat)
  case atStart => exact ⟨0, l.length, Nat.zero_le _, rfl, rfl, Fr.refl _ _⟩
  case round =>
    obtain ⟨i, n, hi, rfl, rfl, HR⟩ := hrel
    by_cases hlt : i < l.length
    · have hlt' : (i : Int) < l.length := by omega
      obtain ⟨o, ho⟩ : ∃ o, l[i]? = some o := ⟨_, List.getElem?_eq_getElem hlt⟩
      obtain ⟨g, off, rfl, hr⟩ := HL.out i o ho
      have c4 : wr.cell? ⟨g, off + i * 6 + 4, none⟩ = some (.string o.S) := HR.out.cell (hr 4 _ rfl) id
      have c5 : wr.cell? ⟨g, off + i * 6 + 5, none⟩ = some (.string o.T) := HR.out.cell (hr 5 _ rfl) id
      clear hr
      obtain ⟨n2, ew⟩ : ∃ n2, IntKind.i64.wrap (IntKind.i64.wrap (n + (o.S.size : Int)) + (o.T.size : Int)) = n2 := ⟨_, rfl⟩
      go_wp2
      go_still (by kernel_rfl)

      clear ew
      by_cases hgt : 16384 < n2
      · go_wp2
        go_ret
        exact ⟨false, rfl, (fun h => by cases h), HR.out.drew⟩
      · go_wp2
        go_roundw
        case rel => exact ⟨i + 1, n2, by omega, rfl, by go_num, HR.out.drew⟩
        case measure => simp [intOf]; omega
    · have hlt' : ¬ (i : Int) < l.length := by omega
      go_wp2
      go_ret
      exact ⟨true, rfl, (fun _ => by omega), HR.out⟩
end Go.Proofs.YteebjgfalllbjaaGreatDoor
namespace Go.Proofs.YteebjgfalllbjaaGreatDoor
open Go.RowKit
variable {G : Prg}

def keep (ks : List Int) (o : OR) : Bool := decide (o.K < 7) || ks.any (fun k => decide (o.K = k))
def PlI (ks : List Int) (w : World) (l : List OR) (i : Nat) (lv : Value) (wr : World) : Prop := Below w.heap.size w wr ∧ wr.ownsRow w.heap.size 74 6 lv ((l.take i).filter (keep ks)).length (ocells ((l.take i).filter (keep ks)))

theorem op_info : (Tryz.prog.info? 74).map (fun i => (i.zero, i.size, i.bytes)) = some (some (.agg #[.int .i64 0, .int .i64 0, .int .i64 0, .int .i64 0, .string ⟨#[]⟩, .string ⟨#[]⟩]), 6, 64) := by kernel_rfl
theorem take_keep {ks : List Int} {l : List OR} {i : Nat} {o : OR} (ho : l[i]? = some o) : (l.take (i + 1)).filter (keep ks) = (l.take i).filter (keep ks) ++ (if keep ks o then [o] else []) := by
  rw [List.take_add_one, ho, List.filter_append]
  by_cases h : keep ks o = true <;> simp [h]
theorem pl_skip {ks : List Int} {w wr : World} {l : List OR} {i : Nat} {o : OR} {v : Value} (h : PlI ks w l i v wr) (ho : l[i]? = some o) (hk : keep ks o = false) : PlI ks w l (i + 1) v wr ∧ (l.take (i + 1)).filter (keep ks) = (l.take i).filter (keep ks) := by
  have e : (l.take (i + 1)).filter (keep ks) = (l.take i).filter (keep ks) := by rw [take_keep ho, hk]; simp
  exact ⟨by unfold PlI; rw [e]; exact h, e⟩
theorem pl_step {ks : List Int} {w wr : World} {l : List OR} {i : Nat} {o : OR} {v : Value} (h : PlI ks w l i v wr) (ho : l[i]? = some o) (hk : keep ks o = true) (w2 : World) (v2 : Value)
    (h2 : w2.ownsRow w.heap.size 74 6 v2 (((l.take i).filter (keep ks)).length + 1) (ocells ((l.take i).filter (keep ks)) ++ o.cs)) (hg : (wr.alloc (.cells o.cs.toArray 74)).grownBy w2 v.ownBlock) :
    PlI ks w l (i + 1) v2 w2 ∧ ∃ a2 c2, v2 = .slice a2 ((l.take (i + 1)).filter (keep ks)).length c2 := by
  have e : (l.take (i + 1)).filter (keep ks) = (l.take i).filter (keep ks) ++ [o] := by rw [take_keep ho, hk]; simp
  have e2 : ocells ((l.take i).filter (keep ks)) ++ o.cs = ocells ((l.take (i + 1)).filter (keep ks)) := by rw [e, ocells_append]; simp [ocells]
  have e3 : ((l.take i).filter (keep ks)).length + 1 = ((l.take (i + 1)).filter (keep ks)).length := by rw [e]; simp
  rw [e2, e3] at h2
  have hz : w.heap.size ≤ (wr.alloc (.cells o.cs.toArray 74)).heap.size := Nat.le_trans h.1.size (by simp)
  refine ⟨⟨(h.1.alloc h.1.size _).grown hg hz (fun k hk => (h.2.lt k hk).1), h2⟩, ?_⟩
  obtain ⟨a2, c2, rfl⟩ := own_form h2
  exact ⟨a2, c2, rfl⟩
theorem pl_all {ks : List Int} (hks : ∀ k ∈ ks, Quiet G k) {l : List OR} (h : ∀ o ∈ l, o.ok) (i : Nat) : ∀ o ∈ (l.take i).filter (keep ks), o.ok ∧ Quiet G o.K := by
  intro o ho
  rw [List.mem_filter] at ho
  refine ⟨h o (List.mem_of_mem_take ho.1), ?_⟩
  have := ho.2
  simp only [keep, Bool.or_eq_true, decide_eq_true_eq, List.any_eq_true] at this
  rcases this with h | ⟨k, hk, e⟩
  · exact .inl h
  · rw [e]; exact hks k hk
def InK (ks : List Int) (o : OR) (p c : Value) : Prop := ∃ j : Nat, j ≤ ks.length ∧ c = .int .i64 j ∧ p = .bool (keep (ks.take j) o)
theorem keep_next {ks : List Int} {o : OR} {j : Nat} {k : Int} (hk : ks[j]? = some k) : keep (ks.take (j + 1)) o = (keep (ks.take j) o || decide (o.K = k)) := by
  unfold keep
  rw [List.take_add_one, hk, List.any_append]
  simp [Bool.or_assoc]
def KindsAt (w : World) (gk : Nat) (ks : List Int) : Prop := ∀ j k, ks[j]? = some k → w.cell? ⟨gk, j, none⟩ = some (.int .i64 k)

set_option maxRecDepth 100000 in
set_option maxHeartbeats 2000000 in
theorem plays_ok (gd : Good0 G) {ks : List Int} (hks : ∀ k ∈ ks, Quiet G k) (hkl : ks.length ≤ 1000) {w : World} {ao : Option Addr} {cap : Nat} {l : List OR} (hl : Lies w ao l) (hok : ∀ o ∈ l, o.ok) {gk kc : Nat}
    (hkk : KindsAt w gk ks) (hG : GOk w) (hg : 0 < w.heap.size) :
    Calls Tryz.prog 14 #[.slice ao l.length cap, .slice (some ⟨gk, 0, none⟩) ks.length kc] w fun e w' => e = .returned (.bool true) ∧ Below w.heap.size w w' := by
  have HM := small_ok (cap := cap) hl
  have HL : Hid (Lies w ao l) := hl
  have HO : Hid (∀ o ∈ l, o.ok) := hok
  have HG : Hid (GOk w) := hG
  have HK : Hid (KindsAt w gk ks) := hkk
  have HKS : Hid (∀ k ∈ ks, Quiet G k) := hks
  clear hl hok hG hkk hks
  go_enter Tryz.func14, Tryz.ntmps14
  go_wp2_with fail
  refine HM.mono ?_
  rintro e w1 ⟨r, rfl, hr, hf⟩
  clear HM
  cases r
  · have HF : Hid (Below w.heap.size w w1) := frz_below hf (Nat.le_refl _)
    clear hf
    go_wp2
    go_ret
    exact ⟨rfl, HF.out⟩
  have hlen := hr rfl
  have HI : Hid (PlI ks w l 0 (.slice none 0 0) w1) := ⟨frz_below hf (Nat.le_refl _), World.ownsRow_nil _ _ _ _⟩
  clear hr hf
  go_wp2
  go_loopw [6, 7] (fun lv c wr => ∃ (i : Nat) (ax : Option Addr) (cx : Nat), i ≤ l.length ∧ c = .int .i64 i ∧ lv = .slice ax ((l.take i).filter (keep ks)).length cx ∧ Hid (PlI ks w l i lv wr)) (fun _ c _ => l.length - (intOf c).toNat)
  case atStart => exact ⟨0, none, 0, Nat.zero_le _, rfl, rfl, HI⟩
  case round =>
    obtain ⟨i, ax, cx, hi, rfl, rfl, HR⟩ := hrel
    by_cases hlt : i < l.length
    · have hlt' : (i : Int) < l.length := by omega
      obtain ⟨o, ho⟩ : ∃ o, l[i]? = some o := ⟨_, List.getElem?_eq_getElem hlt⟩
      obtain ⟨g, off, rfl, hr⟩ := HL.out i o ho
      have hr' : wr.rangeAt g (off + i * 6) o.cs := fun j u hu => by
        have hc := hr j u hu
        rw [HR.out.1.cell (World.block_lt_of_cell? w _ hc)]; exact hc
      have c0 : wr.cell? ⟨g, off + i * 6, none⟩ = some (.int .i64 o.K) := hr' 0 _ rfl
      have HKW : Hid (KindsAt wr gk ks) := fun j k hj => by
        have hc := HK.out j k hj
        rw [HR.out.1.cell (World.block_lt_of_cell? w _ hc)]; exact hc
      have HRG : Hid (wr.rangeAt g (off + i * 6) o.cs) := hr'
      clear hr hr'
      go_wp2
      go_loopw [9, 10] (fun p c wx => wx = wr ∧ InK ks o p c) (fun _ c _ => ks.length - (intOf c).toNat)
      case atStart => exact ⟨rfl, 0, Nat.zero_le _, rfl, by simp [keep]⟩
      case round =>
        obtain ⟨rfl, j, hj, rfl, rfl⟩ := hrel
        by_cases hjl : j < ks.length
        · have hjl' : (j : Int) < ks.length := by omega
          obtain ⟨kj, hkj⟩ : ∃ kj, ks[j]? = some kj := ⟨_, List.getElem?_eq_getElem hjl⟩
          have qj := HKW.out j kj hkj
          have HNX : Hid (keep (ks.take (j + 1)) o = (keep (ks.take j) o || decide (o.K = kj))) := keep_next hkj
          clear hkj
          have e1 : keep (ks.take j) o = true ∨ keep (ks.take j) o = false := by cases keep (ks.take j) o <;> simp
          rcases e1 with e1 | e1
          · rw [e1]
            have HE1 : Hid (keep (ks.take j) o = true) := e1
            clear e1
            go_wp2
            go_roundw
            case rel => exact ⟨trivial, j + 1, by omega, by go_num, by rw [HNX.out, HE1.out]; rfl⟩
            case measure => simp [intOf]; omega
          · rw [e1]
            have HE1 : Hid (keep (ks.take j) o = false) := e1
            clear e1
            by_cases e2 : o.K = kj
            · go_wp2
              go_roundw
              case rel => exact ⟨trivial, j + 1, by omega, by go_num, by rw [HNX.out, HE1.out]; simp [e2]⟩
              case measure => simp [intOf]; omega
            · go_wp2
              go_roundw
              case rel => exact ⟨trivial, j + 1, by omega, by go_num, by rw [HNX.out, HE1.out]; simp [e2]⟩
              case measure => simp [intOf]; omega
        · have hjl' : ¬ (j : Int) < ks.length := by omega
          obtain rfl : j = ks.length := by omega
          rw [List.take_length]
          have e1 : keep ks o = true ∨ keep ks o = false := by cases keep ks o <;> simp
          rcases e1 with e1 | e1
          · have HN : Hid (∀ w2 v2, w2.ownsRow w.heap.size 74 6 v2 (((l.take i).filter (keep ks)).length + 1) (ocells ((l.take i).filter (keep ks)) ++ o.cs) → (wr.alloc (.cells o.cs.toArray 74)).grownBy w2 (Value.slice ax ((l.take i).filter (keep ks)).length cx).ownBlock → PlI ks w l (i + 1) v2 w2 ∧ ∃ a2 c2, v2 = .slice a2 ((l.take (i + 1)).filter (keep ks)).length c2) := pl_step HR.out ho e1
            obtain ⟨inf, hi0, hz0, hz1, hz2⟩ := info_parts op_info
            have hlf : ((l.take i).filter (keep ks)).length ≤ 16384 := Nat.le_trans (List.length_filter_le _ _) (by rw [List.length_take]; omega)
            have hown : (wr.alloc (.cells #[.int .i64 o.K, .int .i64 o.X, .int .i64 o.a, .int .i64 o.b, .string o.S, .string o.T] 74)).ownsRow w.heap.size 74 6 (.slice ax ((l.take i).filter (keep ks)).length cx) ((l.take i).filter (keep ks)).length (ocells ((l.take i).filter (keep ks))) := HR.out.2.alloc _
            have hsz : w.heap.size ≤ (wr.alloc (.cells #[.int .i64 o.K, .int .i64 o.X, .int .i64 o.a, .int .i64 o.b, .string o.S, .string o.T] 74)).heap.size := Nat.le_trans HR.out.1.size (by simp)
            have hnw : ∀ j u, o.cs[j]? = some u → (wr.alloc (.cells #[.int .i64 o.K, .int .i64 o.X, .int .i64 o.a, .int .i64 o.b, .string o.S, .string o.T] 74)).cell? ((⟨wr.heap.size, 0, none⟩ : Addr).add j) = some u := World.news_of_block (w := wr.alloc (.cells o.cs.toArray 74)) (B := wr.heap.size) (heap_alloc_at _ _)
            have hrg := HRG.out
            have HF : Hid ((wr.alloc (.cells #[.int .i64 o.K, .int .i64 o.X, .int .i64 o.a, .int .i64 o.b, .string o.S, .string o.T] 74)).ownsRow w.heap.size 74 6 (.slice ax ((l.take i).filter (keep ks)).length cx) ((l.take i).filter (keep ks)).length (ocells ((l.take i).filter (keep ks))) ∧ w.heap.size ≤ (wr.alloc (.cells #[.int .i64 o.K, .int .i64 o.X, .int .i64 o.a, .int .i64 o.b, .string o.S, .string o.T] 74)).heap.size ∧ (∀ j u, o.cs[j]? = some u → (wr.alloc (.cells #[.int .i64 o.K, .int .i64 o.X, .int .i64 o.a, .int .i64 o.b, .string o.S, .string o.T] 74)).cell? ((⟨wr.heap.size, 0, none⟩ : Addr).add j) = some u)) := ⟨hown, hsz, hnw⟩
            have c1 : wr.cell? ⟨g, off + i * 6 + 1, none⟩ = some (.int .i64 o.X) := hrg 1 _ rfl
            have c2 : wr.cell? ⟨g, off + i * 6 + 2, none⟩ = some (.int .i64 o.a) := hrg 2 _ rfl
            have c3 : wr.cell? ⟨g, off + i * 6 + 3, none⟩ = some (.int .i64 o.b) := hrg 3 _ rfl
            have c4 : wr.cell? ⟨g, off + i * 6 + 4, none⟩ = some (.string o.S) := hrg 4 _ rfl
            have c5 : wr.cell? ⟨g, off + i * 6 + 5, none⟩ = some (.string o.T) := hrg 5 _ rfl
            clear hown hsz hnw hrg
            rw [e1]
            go_wp2_with (first | (at_builtin; refine wpList_append_own (wr.alloc (.cells #[.int .i64 o.K, .int .i64 o.X, .int .i64 o.a, .int .i64 o.b, .string o.S, .string o.T] 74)) rfl (.tmp 44) (.tmp 49) 22 rfl w.heap.size 74 inf _ 6 64 Tryz.underlying22 hi0 hz0 hz1 hz2 rfl (by decide) (.slice ax ((l.take i).filter (keep ks)).length cx) ((l.take i).filter (keep ks)).length (ocells ((l.take i).filter (keep ks))) rfl HF.out.1 ⟨wr.heap.size, 0, none⟩ 1 1 o.cs rfl ?_ HF.out.2.2 o.one ?_ ?_ HF.out.2.1 ?_; (rw [o.len]); (unfold maxLen; omega); omega; intro v2 w2 hown2 hgrow2 _; obtain ⟨hPI, a2, cx2, rfl⟩ := HN.out w2 v2 hown2 hgrow2; have HP2 : Hid (PlI ks w l (i + 1) (.slice a2 ((l.take (i + 1)).filter (keep ks)).length cx2) w2) := hPI; clear hown2 hgrow2 hPI c0 c1 c2 c3 c4 c5))
            go_roundw
            case rel => exact ⟨i + 1, a2, cx2, by omega, by go_num, rfl, HP2⟩
            case measure => simp [intOf]; omega
          · have HN : Hid (PlI ks w l (i + 1) (.slice ax ((l.take i).filter (keep ks)).length cx) wr ∧ (l.take (i + 1)).filter (keep ks) = (l.take i).filter (keep ks)) := pl_skip HR.out ho e1
            rw [e1]
            go_wp2
            go_roundw
            case rel => exact ⟨i + 1, ax, cx, by omega, by go_num, by rw [HN.out.2], HN.out.1⟩
            case measure => simp [intOf]; omega
    · have hlt' : ¬ (i : Int) < l.length := by omega
      obtain rfl : i = l.length := by omega
      have HU := upTo_ok gd HR.out.2 (pl_all HKS.out HO.out _) (by rw [List.take_length]; exact Nat.le_trans (List.length_filter_le _ _) hlen) (HG.out.below HR.out.1 hg) (Nat.lt_of_lt_of_le hg HR.out.1.size)
      simp only [List.take_length] at HU
      go_wp2_with fail
      refine HU.mono ?_
      rintro e w2 ⟨rfl, hb2⟩
      have HE : Hid (Below w.heap.size w w2) := HR.out.1.trans (hb2.mono HR.out.1.size)
      clear hb2 HU
      go_wp2
      go_ret
      exact ⟨rfl, HE.out⟩
end Go.Proofs.YteebjgfalllbjaaGreatDoor
namespace Go.Proofs.YteebjgfalllbjaaGreatDoor
open Go.RowKit
variable {G : Prg}

theorem Lies.below {w w' : World} {ao : Option Addr} {l : List OR} (h : Lies w ao l) (hb : Below w.heap.size w w') : Lies w' ao l := by
  intro i o ho
  obtain ⟨g, off, e, hr⟩ := h i o ho
  exact ⟨g, off, e, fun j u hu => by
    have hc := hr j u hu
    rw [hb.cell (World.block_lt_of_cell? w _ hc)]; exact hc⟩

theorem kinds_get (ks : List Int) (j : Nat) (k : Int) (h : ks[j]? = some k) : (ks.map (fun k => Value.int .i64 k)).toArray[j]? = some (.int .i64 k) := by
  rw [List.getElem?_toArray, List.getElem?_map, h]; rfl
set_option maxRecDepth 100000 in
set_option maxHeartbeats 2000000 in
theorem opens_ok (gd : Good0 G) {w : World} {ao : Option Addr} {cap : Nat} {l : List OR} (hl : Lies w ao l) (hok : ∀ o ∈ l, o.ok) (hG : GOk w) (hg : 0 < w.heap.size) :
    Calls Tryz.prog 3 #[.slice ao l.length cap] w fun e w' => e = .returned (.bool true) ∧ Below w.heap.size w w' := by
  have hB : Below w.heap.size w (w.alloc (.cells #[.int .i64 10, .int .i64 11] 3)) := (Below.refl _ _).alloc (Nat.le_refl _) _
  have HU := plays_ok gd (ks := [10, 11]) (kc := 2) (by intro k hk; simp only [List.mem_cons, List.not_mem_nil, or_false] at hk; rcases hk with h | h; exact .inr (.inl h); exact .inr (.inr (.inl h))) (by decide) (cap := cap) (gk := w.heap.size) (hl.below hB) hok (fun j k hj => by rw [cell_of_row _ _ j _ _ _ (heap_alloc_at _ _)]; exact kinds_get [10, 11] j k hj) (hG.below hB hg) (Nat.lt_of_lt_of_le hg hB.size)
  go_enter Tryz.func3, Tryz.ntmps3
  go_wp2_with fail
  refine HU.mono ?_
  rintro e w2 ⟨rfl, hb2⟩
  have HE : Hid (Below w.heap.size w w2) := hB.trans (hb2.mono hB.size)
  clear hb2 HU hB
  go_wp2
  go_ret
  exact ⟨rfl, HE.out⟩
set_option maxRecDepth 100000 in
set_option maxHeartbeats 2000000 in
theorem submits_ok (gd : Good G) {w : World} {ao : Option Addr} {cap : Nat} {l : List OR} (hl : Lies w ao l) (hok : ∀ o ∈ l, o.ok) (hG : GOk w) (hg : 0 < w.heap.size) :
    Calls Tryz.prog 4 #[.slice ao l.length cap] w fun e w' => e = .returned (.bool true) ∧ Below w.heap.size w w' := by
  have hB : Below w.heap.size w (w.alloc (.cells #[.int .i64 10, .int .i64 11, .int .i64 13, .int .i64 15, .int .i64 16] 3)) := (Below.refl _ _).alloc (Nat.le_refl _) _
  have HU := plays_ok gd.toGood0 (ks := [10, 11, 13, 15, 16]) (kc := 5) (by intro k hk; simp only [List.mem_cons, List.not_mem_nil, or_false] at hk; unfold Quiet; have : k = 10 ∨ k = 11 ∨ k = 13 ∨ k = 15 ∨ k = 16 := hk; rcases this with h | h | h; exact .inr (.inl h); exact .inr (.inr (.inl h)); exact .inr (.inr (.inr ⟨gd, h⟩))) (by decide) (cap := cap) (gk := w.heap.size) (hl.below hB) hok (fun j k hj => by rw [cell_of_row _ _ j _ _ _ (heap_alloc_at _ _)]; exact kinds_get [10, 11, 13, 15, 16] j k hj) (hG.below hB hg) (Nat.lt_of_lt_of_le hg hB.size)
  go_enter Tryz.func4, Tryz.ntmps4
  go_wp2_with fail
  refine HU.mono ?_
  rintro e w2 ⟨rfl, hb2⟩
  have HE : Hid (Below w.heap.size w w2) := hB.trans (hb2.mono hB.size)
  clear hb2 HU hB
  go_wp2
  go_ret
  exact ⟨rfl, HE.out⟩
end Go.Proofs.YteebjgfalllbjaaGreatDoor
