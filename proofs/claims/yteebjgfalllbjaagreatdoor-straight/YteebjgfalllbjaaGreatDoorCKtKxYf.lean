import Derived.Test.YteebjgfalllbjaaGreatDoorCYkYlKs
import Derived.Test.YteebjgfalllbjaaGreatDoorCKeKrZs
import Derived.ChangeSlices
import Derived.ChangeShapes
import Derived.Test.YteebjgfalllbjaaGreatDoorCKhYdYj
import Derived.Test.YteebjgfalllbjaaGreatDoorCKpKqKc
namespace Go.Proofs.YteebjgfalllbjaaGreatDoor
open Go.RowKit
def ofS (id : Int) (eff : List CL) : List CL := eff.filter (fun c => decide (c.saga = id))
theorem mine_of (id : Int) (eff : List CL) : mine id eff = (ofS id eff).map (fun c => (c.step, c.back)) := rfl
theorem ofS_next {eff : List CL} {i : Nat} {c : CL} (id : Int) (h : eff[i]? = some c) : ofS id (eff.take (i + 1)) = if c.saga = id then ofS id (eff.take i) ++ [c] else ofS id (eff.take i) := by
 rw [List.take_add_one, h]
 unfold ofS
 rw [List.filter_append]
 by_cases hc : c.saga = id
 ·rw [if_pos hc]; simp [hc]
 ·rw [if_neg hc]; simp [hc]
def StI (w : World) (id : Int) (eff : List CL) (i : Nat) (lv : Value) (wr : World) : Prop := Fr (fun _ => False) w wr ∧ wr.ownsRow w.heap.size 50 4 lv (ofS id (eff.take i)).length (effC (ofS id (eff.take i)))
theorem st_step {w wr w2 : World} {id : Int} {eff : List CL} {c : CL} {i : Nat} {ax : Option Addr} {cx : Nat} {v2 : Value} (h : StI w id eff i (.slice ax (ofS id (eff.take i)).length cx) wr) (hc : eff[i]? = some c) (hid : c.saga = id)
  (hown : w2.ownsRow w.heap.size 50 4 v2 ((ofS id (eff.take i)).length + 1) (effC (ofS id (eff.take i)) ++ c.cs)) (hg : (wr.alloc (.cells c.cs.toArray 50)).grownBy w2 (Value.slice ax (ofS id (eff.take i)).length cx).ownBlock) :
  StI w id eff (i + 1) v2 w2 ∧ ∃ a2 c2, v2 = .slice a2 (ofS id (eff.take (i + 1))).length c2 := by
 have e : ofS id (eff.take (i + 1)) = ofS id (eff.take i) ++ [c] := by rw [ofS_next id hc, if_pos hid]
 refine ⟨⟨?_, ?_⟩, ?_⟩
 ·refine (h.1.alloc _).grown hg (fun k hk hb => ?_)
  have := (h.2.lt k hb).1
  omega
 ·rw [e, effC_snoc, List.length_append, List.length_singleton]
  exact hown
 ·rw [e, List.length_append, List.length_singleton]
  rcases hown.2 with ⟨rfl, h0⟩ | ⟨g, cap, cur, rfl, _⟩
  ·omega
  ·exact ⟨_, _, rfl⟩
theorem CL.one (c : CL) : ∀ v ∈ c.cs, v.oneCell' = true := by
 intro v hv
 simp [CL.cs] at hv
 rcases hv with rfl | rfl | rfl | rfl <;> rfl
theorem shape_get {M : List CL} {n k j : Nat} (h : Shape (M.map fun c => (c.step, c.back)) n k j) : M.length = k + (k - j) ∧ (∀ i c, M[i]? = some c → (i < k → c.step = (i : Int) + 1 ∧ c.back = false) ∧ (k ≤ i → c.back = true ∧ c.step = (k : Int) - (i - k : Nat))) := by
 obtain ⟨h1, h2, _⟩ := h
 have hl : M.length = k + (k - j) := by
  have := congrArg List.length h1
  simpa [upL, dnL] using this
 refine ⟨hl, fun i c hc => ⟨fun hi => ?_, fun hi => ?_⟩⟩
 ·have h3 : (M.map fun c => (c.step, c.back))[i]? = some (c.step, c.back) := by simp [hc]
  rw [h1, List.getElem?_append_left (by simpa [upL] using hi)] at h3
  have h4 : (upL k)[i]? = some ((i : Int) + 1, false) := by simp [upL, hi]
  rw [h4] at h3
  simp at h3
  exact ⟨h3.1.symm, h3.2⟩
 ·have h3 : (M.map fun c => (c.step, c.back))[i]? = some (c.step, c.back) := by simp [hc]
  have hil := (List.getElem?_eq_some_iff.1 hc).1
  have hu : (upL k).length = k := by simp [upL]
  rw [h1, List.getElem?_append_right (by omega), hu] at h3
  have h4 : (dnL k j)[i - k]? = some ((k : Int) - (i - k : Nat), true) := by
   simp only [dnL, List.getElem?_map, List.getElem?_range (show i - k < k - j by omega)]
   rfl
  rw [h4] at h3
  simp at h3
  exact ⟨h3.2, h3.1.symm⟩
set_option maxRecDepth 100000 in
set_option maxHeartbeats 4000000 in
theorem kStraight_ok {w : World} {Pp : Nat} {lg l : Value} {ea : Option Addr} {ec : Nat} {at' : Int} {eff : List CL} (id : Int) (n k j : Nat) (h : w.heap[Pp]? = some (.cells #[lg, .slice ea eff.length ec, l, .int .i64 at'] 48 (0, 0))) (hl : RowsOf w ea 4 (eff.map CL.cs)) (hn : eff.length ≤ 1000000) (hS : Shape (mine id eff) n k j) :
  Calls Tryz.prog 25 #[.pointer (some ⟨Pp, 0, none⟩), .int .i64 id, .int .i64 n] w fun e w' => e = .returned (.bool true) ∧ Fr (fun _ => False) w w' := by
 obtain ⟨N, hN⟩ : ∃ N, N = eff.length := ⟨_, rfl⟩
 rw [← hN] at h hn
 have HF : Hid (RowsOf w ea 4 (eff.map CL.cs) ∧ w.heap[Pp]? = some (.cells #[lg, .slice ea N ec, l, .int .i64 at'] 48 (0, 0)) ∧ N = eff.length ∧ Shape (mine id eff) n k j) := ⟨hl, h, hN, hS⟩
 clear hl h hN hS
 go_enter Tryz.func25, Tryz.ntmps25
 go_wp2
 go_loopw [7, 8] (fun lv c wr => ∃ (i : Nat) (ax : Option Addr) (cx : Nat), i ≤ N ∧ c = .int .i64 i ∧ lv = .slice ax (ofS id (eff.take i)).length cx ∧ Hid (StI w id eff i lv wr)) (fun _ c _ => N - (intOf c).toNat)
 case atStart => exact ⟨0, none, 0, Nat.zero_le _, rfl, rfl, Fr.refl _ _, World.ownsRow_nil _ _ _ _⟩
 case round =>
  obtain ⟨i, ax, cx, hi, rfl, rfl, HR⟩ := hrel
  have p1 : wr.cell? ⟨Pp, 1, none⟩ = some (.slice ea N ec) := (cell_of_row _ Pp 1 _ _ _ (HR.out.1.keep HF.out.2.1 (fun h => h))).trans rfl
  have hml : (ofS id (eff.take i)).length ≤ 1000000 := by
   have h1 : (ofS id (eff.take i)).length ≤ (eff.take i).length := List.length_filter_le _ _
   rw [List.length_take] at h1
   omega
  by_cases hlt : i < N
  ·have hlt' : (i : Int) < N := by omega
   obtain ⟨c, hc⟩ : ∃ c, eff[i]? = some c := ⟨_, List.getElem?_eq_getElem (by rw [← HF.out.2.2.1]; exact hlt)⟩
   obtain ⟨g, off, rfl, hr⟩ := HF.out.1 i c.cs (by simp [hc])
   obtain ⟨c1, cst, cb, cd⟩ := c
   have hrg : wr.rangeAt g (off + i * 4) (CL.cs ⟨c1, cst, cb, cd⟩) := fun j v hv => HR.out.1.cell (hr j v hv) (fun h => h)
   have c0 : wr.cell? ⟨g, off + i * 4, none⟩ = some (.int .i64 c1) := hrg 0 _ rfl
   have hid0 : ∀ h : c1 = id, (⟨c1, cst, cb, cd⟩ : CL).saga = id := fun h => h
   by_cases hid : c1 = id
   ·subst hid
    have HS : Hid (∀ w2 v2, w2.ownsRow w.heap.size 50 4 v2 ((ofS c1 (eff.take i)).length + 1) (effC (ofS c1 (eff.take i)) ++ [.int .i64 c1, .int .i64 cst, .bool cb, .string cd]) → (wr.alloc (.cells #[.int .i64 c1, .int .i64 cst, .bool cb, .string cd] 50)).grownBy w2 (Value.slice ax (ofS c1 (eff.take i)).length cx).ownBlock → StI w c1 eff (i + 1) v2 w2 ∧ ∃ a2 c2, v2 = .slice a2 (ofS c1 (eff.take (i + 1))).length c2) := fun w2 v2 h1 h2 => st_step HR.out hc rfl h1 h2
    obtain ⟨inf, hi0, hz0, hz1, hz2⟩ := info_parts call_info
    have HF2 : Hid ((wr.alloc (.cells #[.int .i64 c1, .int .i64 cst, .bool cb, .string cd] 50)).ownsRow w.heap.size 50 4 (.slice ax (ofS c1 (eff.take i)).length cx) (ofS c1 (eff.take i)).length (effC (ofS c1 (eff.take i))) ∧ w.heap.size ≤ (wr.alloc (.cells #[.int .i64 c1, .int .i64 cst, .bool cb, .string cd] 50)).heap.size ∧ (∀ j u, [Value.int .i64 c1, .int .i64 cst, .bool cb, .string cd][j]? = some u → (wr.alloc (.cells #[.int .i64 c1, .int .i64 cst, .bool cb, .string cd] 50)).cell? ((⟨wr.heap.size, 0, none⟩ : Addr).add j) = some u)) :=
     ⟨HR.out.2.alloc _, by have := HR.out.1.size; simp; omega, World.news_of_block (w := wr.alloc (.cells #[.int .i64 c1, .int .i64 cst, .bool cb, .string cd] 50)) (B := wr.heap.size) (heap_alloc_at _ _)⟩
    have c2' : wr.cell? ⟨g, off + i * 4 + 1, none⟩ = some (.int .i64 cst) := hrg 1 _ rfl
    have c3' : wr.cell? ⟨g, off + i * 4 + 2, none⟩ = some (.bool cb) := hrg 2 _ rfl
    have c4' : wr.cell? ⟨g, off + i * 4 + 3, none⟩ = some (.string cd) := hrg 3 _ rfl
    clear hc hr hrg hid0
    generalize (ofS c1 (eff.take i)).length = ML at *
    go_wp2_with (first | (at_builtin; refine wpList_append_own (wr.alloc (.cells #[.int .i64 c1, .int .i64 cst, .bool cb, .string cd] 50)) rfl (.tmp 30) (.tmp 38) 46 rfl w.heap.size 50 inf _ 4 40 Tryz.underlying46 hi0 hz0 hz1 hz2 rfl (by decide) (.slice ax ML cx) ML (effC (ofS c1 (eff.take i))) rfl HF2.out.1 ⟨wr.heap.size, 0, none⟩ 1 1 [.int .i64 c1, .int .i64 cst, .bool cb, .string cd] rfl rfl HF2.out.2.2 (CL.one ⟨c1, cst, cb, cd⟩) ?_ ?_ HF2.out.2.1 ?_; (unfold maxLen; omega); omega; intro v2 w2 hown2 hgrow2 _; obtain ⟨hPI, a2, cx2, rfl⟩ := HS.out w2 v2 hown2 hgrow2; have HP2 : Hid (StI w c1 eff (i + 1) (.slice a2 (ofS c1 (eff.take (i + 1))).length cx2) w2) := hPI; clear hown2 hgrow2 hPI))
    go_roundw
    case rel => exact ⟨i + 1, a2, cx2, by omega, by go_num, rfl, HP2⟩
    case measure => simp [intOf]; omega
   ·have hidb : (c1 == id) = false := by simpa using hid
    have HX : Hid (StI w id eff (i + 1) (.slice ax (ofS id (eff.take i)).length cx) wr ∧ ofS id (eff.take (i + 1)) = ofS id (eff.take i)) := by
     have e : ofS id (eff.take (i + 1)) = ofS id (eff.take i) := by rw [ofS_next id hc, if_neg (show ¬ (⟨c1, cst, cb, cd⟩ : CL).saga = id from hid)]
     refine ⟨⟨HR.out.1, ?_⟩, e⟩
     rw [e]; exact HR.out.2
    clear hc hr hrg hid hid0
    go_wp2
    go_roundw
    case rel => exact ⟨i + 1, ax, cx, by omega, by go_num, by rw [HX.out.2], HX.out.1⟩
    case measure => simp [intOf]; omega
  ·have hiN : i = N := by omega
   have het : eff.take i = eff := by rw [hiN, HF.out.2.2.1, List.take_length]
   rw [het] at hml ⊢
   have hown := HR.out.2
   rw [het] at hown
   clear het
   obtain ⟨M, hM⟩ : ∃ M, M = ofS id eff := ⟨_, rfl⟩
   have hsh := HF.out.2.2.2
   rw [mine_of, ← hM] at hsh
   rw [← hM] at hml hown ⊢
   obtain ⟨hkj, hk3, hk4⟩ := hsh.2
   obtain ⟨hlen, hget⟩ := shape_get hsh
   have hrows := own_rowsC hown
   have HM : Hid (RowsOf wr ax 4 (M.map CL.cs) ∧ (∀ i c, M[i]? = some c → (i < k → c.step = (i : Int) + 1 ∧ c.back = false) ∧ (k ≤ i → c.back = true ∧ c.step = (k : Int) - (i - k : Nat))) ∧ Fr (fun _ => False) w wr) := ⟨hrows, hget, HR.out.1⟩
   obtain ⟨ML, hML⟩ : ∃ ML, M.length = ML := ⟨_, rfl⟩
   rw [hML] at hlen hml ⊢
   have HML : Hid (M.length = ML) := hML
   clear hsh hget hrows hown hM hML HR
   have hk6 : (k : Int) ≤ 1000000 := by omega
   have HLEN : Hid (ML = k + (k - j)) := hlen
   clear hlen
   go_wp2
   clear HF p1 hi hlt hiN
   go_loopw [9] (fun kv wx => ∃ q : Nat, q ≤ k ∧ kv = .int .i64 q ∧ wx = wr) (fun kv _ => k - (intOf kv).toNat)
   case atStart => exact ⟨0, Nat.zero_le _, rfl, rfl⟩
   case round =>
    obtain ⟨q, hq, rfl, rfl⟩ := hrel
    by_cases hqk : q < k
    ·have hqm : (q : Int) < ML := by have := HLEN.out; omega
     obtain ⟨c, hc⟩ : ∃ c, M[q]? = some c := ⟨_, List.getElem?_eq_getElem (by have := HLEN.out; rw [HML.out]; omega)⟩
     obtain ⟨g, off, rfl, hr⟩ := HM.out.1 q c.cs (by simp [hc])
     obtain ⟨hs, hb⟩ := (HM.out.2.1 q c hc).1 hqk
     obtain ⟨c1, cst, cb, cd⟩ := c
     obtain rfl : cst = (q : Int) + 1 := hs
     obtain rfl : cb = false := hb
     have d1 : wr.cell? ⟨g, off + q * 4 + 1, none⟩ = some (.int .i64 ((q : Int) + 1)) := hr 1 _ rfl
     have d2 : wr.cell? ⟨g, off + q * 4 + 2, none⟩ = some (.bool false) := hr 2 _ rfl
     have eq1 : wrap64 ((q : Int) + 1) = (q : Int) + 1 := by unfold wrap64; omega
     have hqn : ¬ (n : Int) ≤ q := by omega
     clear hc hr
     go_wp2
     go_roundw
     case rel => exact ⟨q + 1, by omega, by push_cast; rfl, trivial⟩
     case measure => simp [intOf]; omega
    ·obtain rfl : q = k := by omega
     by_cases hkm : q < ML
     ·have hkm' : (q : Int) < ML := by omega
      obtain ⟨c, hc⟩ : ∃ c, M[q]? = some c := ⟨_, List.getElem?_eq_getElem (by have := HLEN.out; rw [HML.out]; omega)⟩
      obtain ⟨g, off, rfl, hr⟩ := HM.out.1 q c.cs (by simp [hc])
      obtain ⟨hb, _⟩ := (HM.out.2.1 q c hc).2 (Nat.le_refl _)
      obtain ⟨c1, cst, cb, cd⟩ := c
      obtain rfl : cb = true := hb
      have d2 : wr.cell? ⟨g, off + q * 4 + 2, none⟩ = some (.bool true) := hr 2 _ rfl
      have hqn : ¬ q = n := by have := HLEN.out; omega
      have hqnb : ((q : Int) == n) = false := by simp; omega
      clear hc hr
      go_wp2
      go_loopw [10] (fun kv wx => ∃ p : Nat, q ≤ p ∧ p ≤ ML ∧ kv = .int .i64 p ∧ wx = wr) (fun kv _ => ML - (intOf kv).toNat)
      case atStart => exact ⟨q, Nat.le_refl _, by omega, rfl, rfl⟩
      case round =>
       obtain ⟨p, hp1, hp2, rfl, rfl⟩ := hrel
       by_cases hpm : p < ML
       ·have hpm' : (p : Int) < ML := by omega
        obtain ⟨c, hc⟩ : ∃ c, M[p]? = some c := ⟨_, List.getElem?_eq_getElem (by have := HLEN.out; rw [HML.out]; omega)⟩
        obtain ⟨g', off', e', hr⟩ := HM.out.1 p c.cs (by simp [hc])
        cases e'
        obtain ⟨hb, hs⟩ := (HM.out.2.1 p c hc).2 hp1
        obtain ⟨c1, cst, cb, cd⟩ := c
        obtain rfl : cb = true := hb
        have hs' : cst = (q : Int) - ((p : Int) - q) := by have : cst = (q : Int) - (p - q : Nat) := hs; omega
        subst hs'
        have d1 : wr.cell? ⟨g, off + p * 4 + 1, none⟩ = some (.int .i64 ((q : Int) - ((p : Int) - q))) := hr 1 _ rfl
        have d2 : wr.cell? ⟨g, off + p * 4 + 2, none⟩ = some (.bool true) := hr 2 _ rfl
        have w1 : wrap64 ((p : Int) - q) = (p : Int) - q := by unfold wrap64; omega
        have w2 : wrap64 ((q : Int) - ((p : Int) - q)) = (q : Int) - ((p : Int) - q) := by unfold wrap64; omega
        clear hc hr
        go_wp2
        go_roundw
        case rel => exact ⟨p + 1, by omega, by omega, by go_num, trivial⟩
        case measure => simp [intOf]; omega
       ·obtain rfl : p = ML := by omega
        have hfin : (p : Int) ≤ 2 * q := by have := HLEN.out; omega
        have w3 : wrap64 (2 * (q : Int)) = 2 * q := by unfold wrap64; omega
        go_wp2
        go_ret
        exact ⟨rfl, HM.out.2.2⟩
     ·obtain rfl : q = ML := by have := HLEN.out; omega
      have hnl : ¬ (q : Int) < q := by omega
      go_wp2
      go_loopw [10] (fun kv wx => kv = .int .i64 q ∧ wx = wr) (fun _ _ => 0)
      case atStart => exact ⟨rfl, rfl⟩
      case round =>
       obtain ⟨rfl, rfl⟩ := hrel
       have hfin : (q : Int) ≤ 2 * q := by omega
       have w3 : wrap64 (2 * (q : Int)) = 2 * q := by unfold wrap64; omega
       go_wp2
       go_ret
       exact ⟨rfl, HM.out.2.2⟩
end Go.Proofs.YteebjgfalllbjaaGreatDoor
namespace Go.Proofs.YteebjgfalllbjaaGreatDoor
open Go.ChangeShapes Go.WideShapes Go.RowKit
theorem cells_intK : Tryz.prog.cellsOf 3 = 1 := by kernel_rfl
set_option maxRecDepth 100000 in
theorem open_list {H : Type} {enc : TypeId × Value → H} {W : World} {base : Nat} {v : Value} {d : DataW H} {ps : List MemPlace} (hv : Value.okWide Tryz.prog W .any base 24 v) (h : DataW.Trod enc Tryz.prog W 0 (fun _ => true) true 24 v d ps) :
  ∃ (la : Option Addr) (cap : Nat) (zs : List Int), v = .slice la zs.length cap ∧ IntsAt W la zs ∧ ∀ z ∈ zs, I64 z := by
 obtain ⟨a0, len0, cap0, rfl⟩ := okWide_slice Tryz.underlying24 hv
 obtain ⟨fuel, h⟩ := h
 rcases open_ints Tryz.underlying24 Tryz.underlying3 cells_intK h with ⟨h1, _⟩ | ⟨a, len, cap, zs, h1, hb, hl, hm, hzl, _, hc, hw⟩
 ·simp [Value.cells] at h1
  obtain ⟨rfl, rfl, rfl⟩ := h1
  exact ⟨none, 0, [], rfl, fun i z hz => by simp at hz, fun z hz => by cases hz⟩
 ·simp [Value.cells] at h1
  obtain ⟨rfl, rfl, rfl⟩ := h1
  have hzl' : zs.length = cap0 := by simpa using hzl
  have hlen : (zs.take len0).length = len0 := by rw [List.length_take]; omega
  refine ⟨some a, cap0, zs.take len0, by rw [hlen], fun i z hz => ?_, fun z hz => i64_wf (hw z (List.mem_of_mem_take hz))⟩
  have hi := (List.getElem?_eq_some_iff.1 hz).1
  rw [hlen] at hi
  have hz' : zs[i]? = some z := by rw [List.getElem?_take, if_pos hi] at hz; exact hz
  have hcell := hc i (by omega)
  have h0 := hc 0 (by omega)
  have hsp : a.spot = none := by
   have := World.cell?_spot h0
   simpa [Addr.add] using this
  obtain ⟨ab, ao, asp⟩ := a
  simp only at hsp
  subst hsp
  refine ⟨ab, ao, rfl, ?_⟩
  have e : zs.getD i 0 = z := by rw [List.getD_eq_getElem?_getD, hz']; rfl
  rw [e] at hcell
  rcases Nat.eq_zero_or_pos i with rfl | hi0
  ·simpa [Addr.add] using hcell
  ·simpa [Addr.add, show ¬ i = 0 by omega] using hcell
end Go.Proofs.YteebjgfalllbjaaGreatDoor
namespace Go.Proofs.YteebjgfalllbjaaGreatDoor
open Go.RowKit
theorem FU.np {w : World} {F : Nat → Prop} (h : FU w F) {b : Nat} {c : Array Value} {t : TypeId} (hc : w.heap[b]? = some (.cells c t (0, 0))) (ht : PT t) : ¬ F b := h.ne hc (by
 intro hu; unfold EngU at hu; unfold PT at ht
 rcases ht with rfl | rfl | rfl | rfl <;> revert hu <;> decide)
section
variable {w : World} {k X A B n1 n2 : Nat} {cv : Value} {s : DS} {C F : Nat → Prop}
end
end Go.Proofs.YteebjgfalllbjaaGreatDoor
