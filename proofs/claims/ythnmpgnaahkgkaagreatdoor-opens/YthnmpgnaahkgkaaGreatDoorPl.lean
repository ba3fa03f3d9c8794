import Derived.Test.YthnmpgnaahkgkaaGreatDoorSm
namespace Go.Proofs.YthnmpgnaahkgkaaGreatDoor
open Go.RowKit

def keep (o : OR) : Bool := decide (o.K < 7) || decide (o.K = 10) || decide (o.K = 11)
def InR (o : OR) (p c : Value) : Prop := (c = .int .i64 0 ∧ p = .bool (decide (o.K < 7))) ∨ (c = .int .i64 1 ∧ p = .bool (decide (o.K < 7) || decide (o.K = 10))) ∨ (c = .int .i64 2 ∧ p = .bool (keep o))
def PlI (w : World) (l : List OR) (i : Nat) (lv : Value) (wr : World) : Prop := Below w.heap.size w wr ∧ wr.ownsRow w.heap.size 27 6 lv ((l.take i).filter keep).length (ocells ((l.take i).filter keep))

theorem op_info : (Tryz.prog.info? 27).map (fun i => (i.zero, i.size, i.bytes)) = some (some (.agg #[.int .i64 0, .int .i64 0, .int .i64 0, .int .i64 0, .string ⟨#[]⟩, .string ⟨#[]⟩]), 6, 64) := by kernel_rfl
theorem take_keep {l : List OR} {i : Nat} {o : OR} (ho : l[i]? = some o) : (l.take (i + 1)).filter keep = (l.take i).filter keep ++ (if keep o then [o] else []) := by
  rw [List.take_add_one, ho, List.filter_append]
  by_cases h : keep o = true <;> simp [h]
theorem pl_skip {w wr : World} {l : List OR} {i : Nat} {o : OR} {v : Value} (h : PlI w l i v wr) (ho : l[i]? = some o) (hk : keep o = false) : PlI w l (i + 1) v wr ∧ (l.take (i + 1)).filter keep = (l.take i).filter keep := by
  have e : (l.take (i + 1)).filter keep = (l.take i).filter keep := by rw [take_keep ho, hk]; simp
  exact ⟨by unfold PlI; rw [e]; exact h, e⟩
theorem pl_step {w wr : World} {l : List OR} {i : Nat} {o : OR} {v : Value} (h : PlI w l i v wr) (ho : l[i]? = some o) (hk : keep o = true) (w2 : World) (v2 : Value)
    (h2 : w2.ownsRow w.heap.size 27 6 v2 (((l.take i).filter keep).length + 1) (ocells ((l.take i).filter keep) ++ o.cs)) (hg : (wr.alloc (.cells o.cs.toArray 27)).grownBy w2 v.ownBlock) :
    PlI w l (i + 1) v2 w2 ∧ ∃ a2 c2, v2 = .slice a2 ((l.take (i + 1)).filter keep).length c2 := by
  have e : (l.take (i + 1)).filter keep = (l.take i).filter keep ++ [o] := by rw [take_keep ho, hk]; simp
  have e2 : ocells ((l.take i).filter keep) ++ o.cs = ocells ((l.take (i + 1)).filter keep) := by rw [e, ocells_append]; simp [ocells]
  have e3 : ((l.take i).filter keep).length + 1 = ((l.take (i + 1)).filter keep).length := by rw [e]; simp
  rw [e2, e3] at h2
  have hz : w.heap.size ≤ (wr.alloc (.cells o.cs.toArray 27)).heap.size := Nat.le_trans h.1.size (by simp)
  refine ⟨⟨(h.1.alloc h.1.size _).grown hg hz (fun k hk => (h.2.lt k hk).1), h2⟩, ?_⟩
  obtain ⟨a2, c2, rfl⟩ := own_form h2
  exact ⟨a2, c2, rfl⟩
theorem pl_all {l : List OR} (h : ∀ o ∈ l, o.ok) (i : Nat) : ∀ o ∈ (l.take i).filter keep, o.ok ∧ (o.K < 7 ∨ o.K = 10 ∨ o.K = 11) := by
  intro o ho
  rw [List.mem_filter] at ho
  refine ⟨h o (List.mem_of_mem_take ho.1), ?_⟩
  have := ho.2
  simp [keep] at this
  omega

set_option maxRecDepth 100000 in
set_option maxHeartbeats 2000000 in
theorem plays_ok {w : World} {ao : Option Addr} {cap : Nat} {l : List OR} (hl : Lies w ao l) (hok : ∀ o ∈ l, o.ok) {gk : Nat}
    (k0 : w.cell? ⟨gk, 0, none⟩ = some (.int .i64 10)) (k1 : w.cell? ⟨gk, 1, none⟩ = some (.int .i64 11)) (hG : GOk w) (hg : 0 < w.heap.size) :
    Calls Tryz.prog 7 #[.slice ao l.length cap, .slice (some ⟨gk, 0, none⟩) 2 2] w fun e w' => e = .returned (.bool true) ∧ Below w.heap.size w w' := by
  have HM := small_ok (cap := cap) hl
  have HL : Hid (Lies w ao l) := hl
  have HO : Hid (∀ o ∈ l, o.ok) := hok
  have HG : Hid (GOk w) := hG
  have HK : Hid (w.cell? ⟨gk, 0, none⟩ = some (.int .i64 10) ∧ w.cell? ⟨gk, 1, none⟩ = some (.int .i64 11)) := ⟨k0, k1⟩
  clear hl hok hG k0 k1
  go_enter Tryz.func7, Tryz.ntmps7
  go_wp2_with fail
  refine HM.mono ?_
  rintro e w1 ⟨r, rfl, hr, hf⟩
  clear HM
  cases r
  · have HF : Hid (Below w.heap.size w w1) := frz_below hf (Nat.le_refl _)
    clear hf
    go_wp2
    go_ret
    exact ⟨rfl, HF.out⟩
  have hlen := hr rfl
  have HI : Hid (PlI w l 0 (.slice none 0 0) w1) := ⟨frz_below hf (Nat.le_refl _), World.ownsRow_nil _ _ _ _⟩
  clear hr hf
  go_wp2
  go_loopw [6, 7] (fun lv c wr => ∃ (i : Nat) (ax : Option Addr) (cx : Nat), i ≤ l.length ∧ c = .int .i64 i ∧ lv = .slice ax ((l.take i).filter keep).length cx ∧ Hid (PlI w l i lv wr)) (fun _ c _ => l.length - (intOf c).toNat)
  case atStart => exact ⟨0, none, 0, Nat.zero_le _, rfl, rfl, HI⟩
  case round =>
    obtain ⟨i, ax, cx, hi, rfl, rfl, HR⟩ := hrel
    by_cases hlt : i < l.length
    · have hlt' : (i : Int) < l.length := by omega
      obtain ⟨o, ho⟩ : ∃ o, l[i]? = some o := ⟨_, List.getElem?_eq_getElem hlt⟩
      obtain ⟨g, off, rfl, hr⟩ := HL.out i o ho
      have hr' : wr.rangeAt g (off + i * 6) o.cs := fun j u hu => by
        have hc := hr j u hu
        rw [HR.out.1.cell (World.block_lt_of_cell? w _ hc)]; exact hc
      have c0 : wr.cell? ⟨g, off + i * 6, none⟩ = some (.int .i64 o.K) := hr' 0 _ rfl
      have q0 : wr.cell? ⟨gk, 0, none⟩ = some (.int .i64 10) := by rw [HR.out.1.cell (World.block_lt_of_cell? w _ HK.out.1)]; exact HK.out.1
      have q1 : wr.cell? ⟨gk, 1, none⟩ = some (.int .i64 11) := by rw [HR.out.1.cell (World.block_lt_of_cell? w _ HK.out.2)]; exact HK.out.2
      have HRG : Hid (wr.rangeAt g (off + i * 6) o.cs) := hr'
      clear hr hr'
      go_wp2
      go_loopw [9, 10] (fun p c wx => wx = wr ∧ InR o p c) (fun _ c _ => 2 - (intOf c).toNat)
      case atStart => exact ⟨rfl, .inl ⟨rfl, rfl⟩⟩
      case round =>
        obtain ⟨rfl, hin⟩ := hrel
        rcases hin with ⟨rfl, rfl⟩ | ⟨rfl, rfl⟩ | ⟨rfl, rfl⟩
        · have e1 : decide (o.K < 7) = true ∨ decide (o.K < 7) = false := by cases decide (o.K < 7) <;> simp
          rcases e1 with e1 | e1
          · rw [e1]
            go_wp2
            go_roundw
            case rel => exact ⟨trivial, .inr (.inl ⟨rfl, by rw [e1]; rfl⟩)⟩
            case measure => simp [intOf]
          · by_cases e2 : o.K = 10
            · rw [e1]
              go_wp2
              go_roundw
              case rel => exact ⟨trivial, .inr (.inl ⟨rfl, by rw [e1]; simp [e2]⟩)⟩
              case measure => simp [intOf]
            · rw [e1]
              go_wp2
              go_roundw
              case rel => exact ⟨trivial, .inr (.inl ⟨rfl, by rw [e1]; simp [e2]⟩)⟩
              case measure => simp [intOf]
        · have e1 : (decide (o.K < 7) || decide (o.K = 10)) = true ∨ (decide (o.K < 7) || decide (o.K = 10)) = false := by cases (decide (o.K < 7) || decide (o.K = 10)) <;> simp
          rcases e1 with e1 | e1
          · rw [e1]
            go_wp2
            go_roundw
            case rel => exact ⟨trivial, .inr (.inr ⟨rfl, by rw [keep, e1]; rfl⟩)⟩
            case measure => simp [intOf]
          · by_cases e2 : o.K = 11
            · rw [e1]
              go_wp2
              go_roundw
              case rel => exact ⟨trivial, .inr (.inr ⟨rfl, by rw [keep, e1]; simp [e2]⟩)⟩
              case measure => simp [intOf]
            · rw [e1]
              go_wp2
              go_roundw
              case rel => exact ⟨trivial, .inr (.inr ⟨rfl, by rw [keep, e1]; simp [e2]⟩)⟩
              case measure => simp [intOf]
        · have e1 : keep o = true ∨ keep o = false := by cases keep o <;> simp
          rcases e1 with e1 | e1
          · have HN : Hid (∀ w2 v2, w2.ownsRow w.heap.size 27 6 v2 (((l.take i).filter keep).length + 1) (ocells ((l.take i).filter keep) ++ o.cs) → (wr.alloc (.cells o.cs.toArray 27)).grownBy w2 (Value.slice ax ((l.take i).filter keep).length cx).ownBlock → PlI w l (i + 1) v2 w2 ∧ ∃ a2 c2, v2 = .slice a2 ((l.take (i + 1)).filter keep).length c2) := pl_step HR.out ho e1
            obtain ⟨inf, hi0, hz0, hz1, hz2⟩ := info_parts op_info
            have hlf : ((l.take i).filter keep).length ≤ 16384 := Nat.le_trans (List.length_filter_le _ _) (by rw [List.length_take]; omega)
            have hown : (wr.alloc (.cells #[.int .i64 o.K, .int .i64 o.X, .int .i64 o.a, .int .i64 o.b, .string o.S, .string o.T] 27)).ownsRow w.heap.size 27 6 (.slice ax ((l.take i).filter keep).length cx) ((l.take i).filter keep).length (ocells ((l.take i).filter keep)) := HR.out.2.alloc _
            have hsz : w.heap.size ≤ (wr.alloc (.cells #[.int .i64 o.K, .int .i64 o.X, .int .i64 o.a, .int .i64 o.b, .string o.S, .string o.T] 27)).heap.size := Nat.le_trans HR.out.1.size (by simp)
            have hnw : ∀ j u, o.cs[j]? = some u → (wr.alloc (.cells #[.int .i64 o.K, .int .i64 o.X, .int .i64 o.a, .int .i64 o.b, .string o.S, .string o.T] 27)).cell? ((⟨wr.heap.size, 0, none⟩ : Addr).add j) = some u := World.news_of_block (w := wr.alloc (.cells o.cs.toArray 27)) (B := wr.heap.size) (heap_alloc_at _ _)
            have hrg := HRG.out
            have HF : Hid ((wr.alloc (.cells #[.int .i64 o.K, .int .i64 o.X, .int .i64 o.a, .int .i64 o.b, .string o.S, .string o.T] 27)).ownsRow w.heap.size 27 6 (.slice ax ((l.take i).filter keep).length cx) ((l.take i).filter keep).length (ocells ((l.take i).filter keep)) ∧ w.heap.size ≤ (wr.alloc (.cells #[.int .i64 o.K, .int .i64 o.X, .int .i64 o.a, .int .i64 o.b, .string o.S, .string o.T] 27)).heap.size ∧ (∀ j u, o.cs[j]? = some u → (wr.alloc (.cells #[.int .i64 o.K, .int .i64 o.X, .int .i64 o.a, .int .i64 o.b, .string o.S, .string o.T] 27)).cell? ((⟨wr.heap.size, 0, none⟩ : Addr).add j) = some u)) := ⟨hown, hsz, hnw⟩
            have c1 : wr.cell? ⟨g, off + i * 6 + 1, none⟩ = some (.int .i64 o.X) := hrg 1 _ rfl
            have c2 : wr.cell? ⟨g, off + i * 6 + 2, none⟩ = some (.int .i64 o.a) := hrg 2 _ rfl
            have c3 : wr.cell? ⟨g, off + i * 6 + 3, none⟩ = some (.int .i64 o.b) := hrg 3 _ rfl
            have c4 : wr.cell? ⟨g, off + i * 6 + 4, none⟩ = some (.string o.S) := hrg 4 _ rfl
            have c5 : wr.cell? ⟨g, off + i * 6 + 5, none⟩ = some (.string o.T) := hrg 5 _ rfl
            clear hown hsz hnw q0 q1 hrg
            rw [e1]
            go_wp2_with (first | (at_builtin; refine wpList_append_own (wr.alloc (.cells #[.int .i64 o.K, .int .i64 o.X, .int .i64 o.a, .int .i64 o.b, .string o.S, .string o.T] 27)) rfl (.tmp 44) (.tmp 49) 22 rfl w.heap.size 27 inf _ 6 64 Tryz.underlying22 hi0 hz0 hz1 hz2 rfl (by decide) (.slice ax ((l.take i).filter keep).length cx) ((l.take i).filter keep).length (ocells ((l.take i).filter keep)) rfl HF.out.1 ⟨wr.heap.size, 0, none⟩ 1 1 o.cs rfl ?_ HF.out.2.2 o.one ?_ ?_ HF.out.2.1 ?_; (rw [o.len]); (unfold maxLen; omega); omega; intro v2 w2 hown2 hgrow2 _; obtain ⟨hPI, a2, cx2, rfl⟩ := HN.out w2 v2 hown2 hgrow2; have HP2 : Hid (PlI w l (i + 1) (.slice a2 ((l.take (i + 1)).filter keep).length cx2) w2) := hPI; clear hown2 hgrow2 hPI c0 c1 c2 c3 c4 c5))
            go_roundw
            case rel => exact ⟨i + 1, a2, cx2, by omega, by go_num, rfl, HP2⟩
            case measure => simp [intOf]; omega
          · have HN : Hid (PlI w l (i + 1) (.slice ax ((l.take i).filter keep).length cx) wr ∧ (l.take (i + 1)).filter keep = (l.take i).filter keep) := pl_skip HR.out ho e1
            rw [e1]
            go_wp2
            go_roundw
            case rel => exact ⟨i + 1, ax, cx, by omega, by go_num, by rw [HN.out.2], HN.out.1⟩
            case measure => simp [intOf]; omega
    · have hlt' : ¬ (i : Int) < l.length := by omega
      obtain rfl : i = l.length := by omega
      have HU := upTo_ok HR.out.2 (pl_all HO.out _) (by rw [List.take_length]; exact Nat.le_trans (List.length_filter_le _ _) hlen) (HG.out.below HR.out.1 hg) (Nat.lt_of_lt_of_le hg HR.out.1.size)
      simp only [List.take_length] at HU
      go_wp2_with fail
      refine HU.mono ?_
      rintro e w2 ⟨rfl, hb2⟩
      have HE : Hid (Below w.heap.size w w2) := HR.out.1.trans (hb2.mono HR.out.1.size)
      clear hb2 HU
      go_wp2
      go_ret
      exact ⟨rfl, HE.out⟩
end Go.Proofs.YthnmpgnaahkgkaaGreatDoor
