import Derived.Test.YteebjgfalllbjaaGreatDoorCKeKrKs
import Derived.Test.YteebjgfalllbjaaGreatDoorCAsWTlFm
import Derived.Laws.MakeOwn
import Derived.Test.YteebjgfalllbjaaGreatDoorCKbPaAs1
import Derived.Test.YteebjgfalllbjaaGreatDoorCKd
namespace Go.Proofs.YteebjgfalllbjaaGreatDoor
open Go.RowKit
def ofS (id : Int) (eff : List CL) : List CL := eff.filter (fun c => decide (c.saga = id))
theorem mine_of (id : Int) (eff : List CL) : mine id eff = (ofS id eff).map (fun c => (c.step, c.back)) := rfl
theorem ofS_next {eff : List CL} {i : Nat} {c : CL} (id : Int) (h : eff[i]? = some c) : ofS id (eff.take (i + 1)) = if c.saga = id then ofS id (eff.take i) ++ [c] else ofS id (eff.take i) := by
  rw [List.take_add_one, h]
  unfold ofS
  rw [List.filter_append]
  by_cases hc : c.saga = id
  · rw [if_pos hc]; simp [hc]
  · rw [if_neg hc]; simp [hc]
def StI (w : World) (id : Int) (eff : List CL) (i : Nat) (lv : Value) (wr : World) : Prop := Fr (fun _ => False) w wr ∧ wr.ownsRow w.heap.size 50 4 lv (ofS id (eff.take i)).length (effC (ofS id (eff.take i)))
theorem st_step {w wr w2 : World} {id : Int} {eff : List CL} {c : CL} {i : Nat} {ax : Option Addr} {cx : Nat} {v2 : Value} (h : StI w id eff i (.slice ax (ofS id (eff.take i)).length cx) wr) (hc : eff[i]? = some c) (hid : c.saga = id)
    (hown : w2.ownsRow w.heap.size 50 4 v2 ((ofS id (eff.take i)).length + 1) (effC (ofS id (eff.take i)) ++ c.cs)) (hg : (wr.alloc (.cells c.cs.toArray 50)).grownBy w2 (Value.slice ax (ofS id (eff.take i)).length cx).ownBlock) :
    StI w id eff (i + 1) v2 w2 ∧ ∃ a2 c2, v2 = .slice a2 (ofS id (eff.take (i + 1))).length c2 := by
  have e : ofS id (eff.take (i + 1)) = ofS id (eff.take i) ++ [c] := by rw [ofS_next id hc, if_pos hid]
  refine ⟨⟨?_, ?_⟩, ?_⟩
  · refine (h.1.alloc _).grown hg (fun k hk hb => ?_)
    have := (h.2.lt k hb).1
    omega
  · rw [e, effC_snoc, List.length_append, List.length_singleton]
    exact hown
  · rw [e, List.length_append, List.length_singleton]
    rcases hown.2 with ⟨rfl, h0⟩ | ⟨g, cap, cur, rfl, _⟩
    · omega
    · exact ⟨_, _, rfl⟩
theorem CL.one (c : CL) : ∀ v ∈ c.cs, v.oneCell' = true := by
  intro v hv
  simp [CL.cs] at hv
  rcases hv with rfl | rfl | rfl | rfl <;> rfl
/-- What lies in such a list. -/
theorem shape_get {M : List CL} {n k j : Nat} (h : Shape (M.map fun c => (c.step, c.back)) n k j) : M.length = k + (k - j) ∧ (∀ i c, M[i]? = some c → (i < k → c.step = (i : Int) + 1 ∧ c.back = false) ∧ (k ≤ i → c.back = true ∧ c.step = (k : Int) - (i - k : Nat))) := by
  obtain ⟨h1, h2, _⟩ := h
  have hl : M.length = k + (k - j) := by
    have := congrArg List.length h1
    simpa [upL, dnL] using this
  refine ⟨hl, fun i c hc => ⟨fun hi => ?_, fun hi => ?_⟩⟩
  · have h3 : (M.map fun c => (c.step, c.back))[i]? = some (c.step, c.back) := by simp [hc]
    rw [h1, List.getElem?_append_left (by simpa [upL] using hi)] at h3
    have h4 : (upL k)[i]? = some ((i : Int) + 1, false) := by simp [upL, hi]
    rw [h4] at h3
    simp at h3
    exact ⟨h3.1.symm, h3.2⟩
  · have h3 : (M.map fun c => (c.step, c.back))[i]? = some (c.step, c.back) := by simp [hc]
    have hil := (List.getElem?_eq_some_iff.1 hc).1
    have hu : (upL k).length = k := by simp [upL]
    rw [h1, List.getElem?_append_right (by omega), hu] at h3
    have h4 : (dnL k j)[i - k]? = some ((k : Int) - (i - k : Nat), true) := by
      simp only [dnL, List.getElem?_map, List.getElem?_range (show i - k < k - j by omega)]
      rfl
    rw [h4] at h3
    simp at h3
    exact ⟨h3.2, h3.1.symm⟩
set_option maxRecDepth 100000 in
set_option maxHeartbeats 4000000 in
theorem kStraight_ok {w : World} {Pp : Nat} {lg l : Value} {ea : Option Addr} {ec : Nat} {at' : Int} {eff : List CL} (id : Int) (n k j : Nat) (h : w.heap[Pp]? = some (.cells #[lg, .slice ea eff.length ec, l, .int .i64 at'] 48 (0, 0))) (hl : RowsOf w ea 4 (eff.map CL.cs)) (hn : eff.length ≤ 1000000) (hS : Shape (mine id eff) n k j) :
    Calls Tryz.prog 25 #[.pointer (some ⟨Pp, 0, none⟩), .int .i64 id, .int .i64 n] w fun e w' => e = .returned (.bool true) ∧ Fr (fun _ => False) w w' := by
  obtain ⟨N, hN⟩ : ∃ N, N = eff.length := ⟨_, rfl⟩
  rw [← hN] at h hn
  have HF : Hid (RowsOf w ea 4 (eff.map CL.cs) ∧ w.heap[Pp]? = some (.cells #[lg, .slice ea N ec, l, .int .i64 at'] 48 (0, 0)) ∧ N = eff.length ∧ Shape (mine id eff) n k j) := ⟨hl, h, hN, hS⟩
  clear hl h hN hS
  go_enter Tryz.func25, Tryz.ntmps25
  go_wp2
  go_loopw [7, 8] (fun lv c wr => ∃ (i : Nat) (ax : Option Addr) (cx : Nat), i ≤ N ∧ c = .int .i64 i ∧ lv = .slice ax (ofS id (eff.take i)).length cx ∧ Hid (StI w id eff i lv wr)) (fun _ c _ => N - (intOf c).toNat)
  case atStart => exact ⟨0, none, 0, Nat.zero_le _, rfl, rfl, Fr.refl _ _, World.ownsRow_nil _ _ _ _⟩
  case round =>
    obtain ⟨i, ax, cx, hi, rfl, rfl, HR⟩ := hrel
    have p1 : wr.cell? ⟨Pp, 1, none⟩ = some (.slice ea N ec) := (cell_of_row _ Pp 1 _ _ _ (HR.out.1.keep HF.out.2.1 (fun h => h))).trans rfl
    have hml : (ofS id (eff.take i)).length ≤ 1000000 := by
      have h1 : (ofS id (eff.take i)).length ≤ (eff.take i).length := List.length_filter_le _ _
      rw [List.length_take] at h1
      omega
    by_cases hlt : i < N
    · have hlt' : (i : Int) < N := by omega
      obtain ⟨c, hc⟩ : ∃ c, eff[i]? = some c := ⟨_, List.getElem?_eq_getElem (by rw [← HF.out.2.2.1]; exact hlt)⟩
      obtain ⟨g, off, rfl, hr⟩ := HF.out.1 i c.cs (by simp [hc])
      obtain ⟨c1, cst, cb, cd⟩ := c
      have hrg : wr.rangeAt g (off + i * 4) (CL.cs ⟨c1, cst, cb, cd⟩) := fun j v hv => HR.out.1.cell (hr j v hv) (fun h => h)
      have c0 : wr.cell? ⟨g, off + i * 4, none⟩ = some (.int .i64 c1) := hrg 0 _ rfl
      have hid0 : ∀ h : c1 = id, (⟨c1, cst, cb, cd⟩ : CL).saga = id := fun h => h
      by_cases hid : c1 = id
      · subst hid
        have HS : Hid (∀ w2 v2, w2.ownsRow w.heap.size 50 4 v2 ((ofS c1 (eff.take i)).length + 1) (effC (ofS c1 (eff.take i)) ++ [.int .i64 c1, .int .i64 cst, .bool cb, .string cd]) → (wr.alloc (.cells #[.int .i64 c1, .int .i64 cst, .bool cb, .string cd] 50)).grownBy w2 (Value.slice ax (ofS c1 (eff.take i)).length cx).ownBlock → StI w c1 eff (i + 1) v2 w2 ∧ ∃ a2 c2, v2 = .slice a2 (ofS c1 (eff.take (i + 1))).length c2) := fun w2 v2 h1 h2 => st_step HR.out hc rfl h1 h2
        obtain ⟨inf, hi0, hz0, hz1, hz2⟩ := info_parts call_info
        have HF2 : Hid ((wr.alloc (.cells #[.int .i64 c1, .int .i64 cst, .bool cb, .string cd] 50)).ownsRow w.heap.size 50 4 (.slice ax (ofS c1 (eff.take i)).length cx) (ofS c1 (eff.take i)).length (effC (ofS c1 (eff.take i))) ∧ w.heap.size ≤ (wr.alloc (.cells #[.int .i64 c1, .int .i64 cst, .bool cb, .string cd] 50)).heap.size ∧ (∀ j u, [Value.int .i64 c1, .int .i64 cst, .bool cb, .string cd][j]? = some u → (wr.alloc (.cells #[.int .i64 c1, .int .i64 cst, .bool cb, .string cd] 50)).cell? ((⟨wr.heap.size, 0, none⟩ : Addr).add j) = some u)) :=
          ⟨HR.out.2.alloc _, by have := HR.out.1.size; simp; omega, World.news_of_block (w := wr.alloc (.cells #[.int .i64 c1, .int .i64 cst, .bool cb, .string cd] 50)) (B := wr.heap.size) (heap_alloc_at _ _)⟩
        have c2' : wr.cell? ⟨g, off + i * 4 + 1, none⟩ = some (.int .i64 cst) := hrg 1 _ rfl
        have c3' : wr.cell? ⟨g, off + i * 4 + 2, none⟩ = some (.bool cb) := hrg 2 _ rfl
        have c4' : wr.cell? ⟨g, off + i * 4 + 3, none⟩ = some (.string cd) := hrg 3 _ rfl
        clear hc hr hrg hid0
        generalize (ofS c1 (eff.take i)).length = ML at *
        go_wp2_with (first | (at_builtin; refine wpList_append_own (wr.alloc (.cells #[.int .i64 c1, .int .i64 cst, .bool cb, .string cd] 50)) rfl (.tmp 30) (.tmp 38) 46 rfl w.heap.size 50 inf _ 4 40 Tryz.underlying46 hi0 hz0 hz1 hz2 rfl (by decide) (.slice ax ML cx) ML (effC (ofS c1 (eff.take i))) rfl HF2.out.1 ⟨wr.heap.size, 0, none⟩ 1 1 [.int .i64 c1, .int .i64 cst, .bool cb, .string cd] rfl rfl HF2.out.2.2 (CL.one ⟨c1, cst, cb, cd⟩) ?_ ?_ HF2.out.2.1 ?_; (unfold maxLen; omega); omega; intro v2 w2 hown2 hgrow2 _; obtain ⟨hPI, a2, cx2, rfl⟩ := HS.out w2 v2 hown2 hgrow2; have HP2 : Hid (StI w c1 eff (i + 1) (.slice a2 (ofS c1 (eff.take (i + 1))).length cx2) w2) := hPI; clear hown2 hgrow2 hPI))
        go_roundw
        case rel => exact ⟨i + 1, a2, cx2, by omega, by go_num, rfl, HP2⟩
        case measure => simp [intOf]; omega
      · have hidb : (c1 == id) = false := by simpa using hid
        have HX : Hid (StI w id eff (i + 1) (.slice ax (ofS id (eff.take i)).length cx) wr ∧ ofS id (eff.take (i + 1)) = ofS id (eff.take i)) := by
          have e : ofS id (eff.take (i + 1)) = ofS id (eff.take i) := by rw [ofS_next id hc, if_neg (show ¬ (⟨c1, cst, cb, cd⟩ : CL).saga = id from hid)]
          refine ⟨⟨HR.out.1, ?_⟩, e⟩
          rw [e]; exact HR.out.2
        clear hc hr hrg hid hid0
        go_wp2
        go_roundw
        case rel => exact ⟨i + 1, ax, cx, by omega, by go_num, by rw [HX.out.2], HX.out.1⟩
        case measure => simp [intOf]; omega
    · have hiN : i = N := by omega
      have het : eff.take i = eff := by rw [hiN, HF.out.2.2.1, List.take_length]
      rw [het] at hml ⊢
      have hown := HR.out.2
      rw [het] at hown
      clear het
      obtain ⟨M, hM⟩ : ∃ M, M = ofS id eff := ⟨_, rfl⟩
      have hsh := HF.out.2.2.2
      rw [mine_of, ← hM] at hsh
      rw [← hM] at hml hown ⊢
      obtain ⟨hkj, hk3, hk4⟩ := hsh.2
      obtain ⟨hlen, hget⟩ := shape_get hsh
      have hrows := own_rowsC hown
      have HM : Hid (RowsOf wr ax 4 (M.map CL.cs) ∧ (∀ i c, M[i]? = some c → (i < k → c.step = (i : Int) + 1 ∧ c.back = false) ∧ (k ≤ i → c.back = true ∧ c.step = (k : Int) - (i - k : Nat))) ∧ Fr (fun _ => False) w wr) := ⟨hrows, hget, HR.out.1⟩
      obtain ⟨ML, hML⟩ : ∃ ML, M.length = ML := ⟨_, rfl⟩
      rw [hML] at hlen hml ⊢
      have HML : Hid (M.length = ML) := hML
      clear hsh hget hrows hown hM hML HR
      have hk6 : (k : Int) ≤ 1000000 := by omega
      have HLEN : Hid (ML = k + (k - j)) := hlen
      clear hlen
      go_wp2
      clear HF p1 hi hlt hiN
      go_loopw [9] (fun kv wx => ∃ q : Nat, q ≤ k ∧ kv = .int .i64 q ∧ wx = wr) (fun kv _ => k - (intOf kv).toNat)
      case atStart => exact ⟨0, Nat.zero_le _, rfl, rfl⟩
      case round =>
        obtain ⟨q, hq, rfl, rfl⟩ := hrel
        by_cases hqk : q < k
        · have hqm : (q : Int) < ML := by have := HLEN.out; omega
          obtain ⟨c, hc⟩ : ∃ c, M[q]? = some c := ⟨_, List.getElem?_eq_getElem (by have := HLEN.out; rw [HML.out]; omega)⟩
          obtain ⟨g, off, rfl, hr⟩ := HM.out.1 q c.cs (by simp [hc])
          obtain ⟨hs, hb⟩ := (HM.out.2.1 q c hc).1 hqk
          obtain ⟨c1, cst, cb, cd⟩ := c
          obtain rfl : cst = (q : Int) + 1 := hs
          obtain rfl : cb = false := hb
          have d1 : wr.cell? ⟨g, off + q * 4 + 1, none⟩ = some (.int .i64 ((q : Int) + 1)) := hr 1 _ rfl
          have d2 : wr.cell? ⟨g, off + q * 4 + 2, none⟩ = some (.bool false) := hr 2 _ rfl
          have eq1 : wrap64 ((q : Int) + 1) = (q : Int) + 1 := by unfold wrap64; omega
          have hqn : ¬ (n : Int) ≤ q := by omega
          clear hc hr
          go_wp2
          go_roundw
          case rel => exact ⟨q + 1, by omega, by push_cast; rfl, trivial⟩
          case measure => simp [intOf]; omega
        · obtain rfl : q = k := by omega
          by_cases hkm : q < ML
          · have hkm' : (q : Int) < ML := by omega
            obtain ⟨c, hc⟩ : ∃ c, M[q]? = some c := ⟨_, List.getElem?_eq_getElem (by have := HLEN.out; rw [HML.out]; omega)⟩
            obtain ⟨g, off, rfl, hr⟩ := HM.out.1 q c.cs (by simp [hc])
            obtain ⟨hb, _⟩ := (HM.out.2.1 q c hc).2 (Nat.le_refl _)
            obtain ⟨c1, cst, cb, cd⟩ := c
            obtain rfl : cb = true := hb
            have d2 : wr.cell? ⟨g, off + q * 4 + 2, none⟩ = some (.bool true) := hr 2 _ rfl
            have hqn : ¬ q = n := by have := HLEN.out; omega
            have hqnb : ((q : Int) == n) = false := by simp; omega
            clear hc hr
            go_wp2
            go_loopw [10] (fun kv wx => ∃ p : Nat, q ≤ p ∧ p ≤ ML ∧ kv = .int .i64 p ∧ wx = wr) (fun kv _ => ML - (intOf kv).toNat)
            case atStart => exact ⟨q, Nat.le_refl _, by omega, rfl, rfl⟩
            case round =>
              obtain ⟨p, hp1, hp2, rfl, rfl⟩ := hrel
              by_cases hpm : p < ML
              · have hpm' : (p : Int) < ML := by omega
                obtain ⟨c, hc⟩ : ∃ c, M[p]? = some c := ⟨_, List.getElem?_eq_getElem (by have := HLEN.out; rw [HML.out]; omega)⟩
                obtain ⟨g', off', e', hr⟩ := HM.out.1 p c.cs (by simp [hc])
                cases e'
                obtain ⟨hb, hs⟩ := (HM.out.2.1 p c hc).2 hp1
                obtain ⟨c1, cst, cb, cd⟩ := c
                obtain rfl : cb = true := hb
                have hs' : cst = (q : Int) - ((p : Int) - q) := by have : cst = (q : Int) - (p - q : Nat) := hs; omega
                subst hs'
                have d1 : wr.cell? ⟨g, off + p * 4 + 1, none⟩ = some (.int .i64 ((q : Int) - ((p : Int) - q))) := hr 1 _ rfl
                have d2 : wr.cell? ⟨g, off + p * 4 + 2, none⟩ = some (.bool true) := hr 2 _ rfl
                have w1 : wrap64 ((p : Int) - q) = (p : Int) - q := by unfold wrap64; omega
                have w2 : wrap64 ((q : Int) - ((p : Int) - q)) = (q : Int) - ((p : Int) - q) := by unfold wrap64; omega
                clear hc hr
                go_wp2
                go_roundw
                case rel => exact ⟨p + 1, by omega, by omega, by go_num, trivial⟩
                case measure => simp [intOf]; omega
              · obtain rfl : p = ML := by omega
                have hfin : (p : Int) ≤ 2 * q := by have := HLEN.out; omega
                have w3 : wrap64 (2 * (q : Int)) = 2 * q := by unfold wrap64; omega
                go_wp2
                go_ret
                exact ⟨rfl, HM.out.2.2⟩
          · obtain rfl : q = ML := by have := HLEN.out; omega
            have hnl : ¬ (q : Int) < q := by omega
            go_wp2
            go_loopw [10] (fun kv wx => kv = .int .i64 q ∧ wx = wr) (fun _ _ => 0)
            case atStart => exact ⟨rfl, rfl⟩
            case round =>
              obtain ⟨rfl, rfl⟩ := hrel
              have hfin : (q : Int) ≤ 2 * q := by omega
              have w3 : wrap64 (2 * (q : Int)) = 2 * q := by unfold wrap64; omega
              go_wp2
              go_ret
              exact ⟨rfl, HM.out.2.2⟩
end Go.Proofs.YteebjgfalllbjaaGreatDoor
namespace Go.Proofs.YteebjgfalllbjaaGreatDoor
open Go.RowKit
/-- A byte of a disk; the text of its bytes. -/
def u8of : Value → UInt8
  | .int _ k => UInt8.ofNat k.toNat
  | _ => 0
def U8s (bs : List Value) : Prop := ∀ v ∈ bs, ∃ k : Nat, k < 256 ∧ v = .int .u8 k
def bytesT (bs : List Value) : ByteArray := ⟨(bs.map u8of).toArray⟩
theorem U8s.append {a b : List Value} (ha : U8s a) (hb : U8s b) : U8s (a ++ b) := fun v hv => by
  rcases List.mem_append.1 hv with h | h
  · exact ha v h
  · exact hb v h
theorem U8s.rep (n : Nat) : U8s (List.replicate n (Value.int .u8 0)) := fun v hv => ⟨0, by decide, (List.mem_replicate.1 hv).2⟩
theorem u8_info : (Tryz.prog.info? 5).map (fun i => (i.zero, i.size, i.bytes)) = some (some (.int .u8 0), 1, 1) := by kernel_rfl
theorem conv_bytes {W : World} {base m : Nat} {ax : Option Addr} {cx : Nat} {bs : List Value} (h : W.ownsRow base 5 1 (.slice ax m cx) m bs) (hm : 0 < m) (hu : U8s bs) : (convert 85 9 (.slice ax m cx)).run Tryz.prog W = .ok (.string (bytesT bs)) W := by
  have hlen := h.1
  rcases h.2 with ⟨_, h0⟩ | ⟨g, cap, cur, hv, _, hg, _, _, _, hx⟩
  · omega
  cases hv
  have hl : (bs.map u8of).length = m := by rw [List.length_map]; omega
  have hc := run_convert_bytes_back W 85 9 5 ⟨g, 0, none⟩ cx (bs.map u8of) Tryz.underlying85 Tryz.underlying5 Tryz.underlying9 (fun j hj => by
    have hj' : j < bs.length := by simpa using hj
    obtain ⟨k, hk, hv⟩ := hu bs[j] (List.getElem_mem hj')
    have h1 : bs[j]? = some bs[j] := List.getElem?_eq_getElem hj'
    obtain ⟨b, hb⟩ : ∃ b, b = bs[j] := ⟨_, rfl⟩
    rw [← hb] at h1 hv
    have h2 : cur[j]? = some b := by
      rw [← hx, List.getElem?_take] at h1
      split at h1
      · simpa using h1
      · cases h1
    have hcell : W.cell? ⟨g, j, none⟩ = some b := (cell_of_row W g j _ _ _ hg).trans h2
    have e : (bs.map u8of)[j] = UInt8.ofNat k := by rw [List.getElem_map, ← hb, hv]; simp [u8of]
    rw [e]
    rw [hv] at hcell
    have e2 : k % 256 = k := Nat.mod_eq_of_lt hk
    rcases Nat.eq_zero_or_pos j with rfl | hj0
    · simpa [Addr.add, e2] using hcell
    · simpa [Addr.add, e2, show ¬ j = 0 by omega] using hcell)
  rw [hl] at hc
  exact hc
def ByI (w : World) (bs : List Value) (i : Nat) (lv : Value) (wr : World) : Prop := Fr (fun _ => False) w wr ∧ wr.ownsRow w.heap.size 5 1 lv (i * 128) (bs.take (i * 128))
theorem by_step {w wr w2 : World} {bs : List Value} {i : Nat} {ax : Option Addr} {cx : Nat} {v2 : Value} (h : ByI w bs i (.slice ax (i * 128) cx) wr)
    (hown : w2.ownsRow w.heap.size 5 1 v2 (i * 128 + 128) (bs.take (i * 128) ++ (bs.drop (i * 128)).take 128)) (hg : wr.grownBy w2 (Value.slice ax (i * 128) cx).ownBlock) :
    ByI w bs (i + 1) v2 w2 ∧ ∃ a2 c2, v2 = .slice a2 ((i + 1) * 128) c2 := by
  have e : (i + 1) * 128 = i * 128 + 128 := by omega
  refine ⟨⟨?_, ?_⟩, ?_⟩
  · refine h.1.grown hg (fun k hk hb => ?_)
    have := (h.2.lt k hb).1
    omega
  · rw [e, List.take_add]
    exact hown
  · rw [e]
    rcases hown.2 with ⟨rfl, h0⟩ | ⟨g, cap, cur, rfl, _⟩
    · omega
    · exact ⟨_, _, rfl⟩
set_option maxRecDepth 100000 in
set_option maxHeartbeats 1000000 in
theorem Bytes_ok (w : World) {A B n : Nat} {calls writes : Int} {bs : List Value} (hd : DiskAt w A B n (.slice none 0 0) calls writes) (hr : RowsAt w B n bs) (hn1 : 1 ≤ n) (hn : n ≤ 400) (hu : U8s bs) : Calls Tryz.prog 28 #[.pointer (some ⟨A, 0, none⟩)] w fun e w' => e = .returned (.string (bytesT bs)) ∧ Fr (fun _ => False) w w' := by
  have c0 := hd.c0
  obtain ⟨inf, hi0, hz0, hz1, hz2⟩ := info_parts u8_info
  have HB : Hid (w.heap[B]? = some (.cells bs.toArray 97 (0, 0)) ∧ bs.length = n * 128 ∧ U8s bs ∧ w.cell? ⟨A, 0, none⟩ = some (.slice (some ⟨B, 0, none⟩) n n)) := ⟨hr.1, hr.2.1, hu, hd.c0⟩
  clear hr hu hd
  go_enter Tryz.func28, Tryz.ntmps28
  go_wp2_with (first | (at_make; refine wpList_make_own w rfl (.const (.int .i64 0)) (.tmp 10) 85 rfl w.heap.size 5 inf (.int .u8 0) 1 Tryz.underlying85 hi0 hz0 hz1 .i64 .i64 _ (n * 128) rfl rfl ?_ ?_ ?_ (Nat.le_refl _) ?_; (push_cast; rfl); (rw [hz2]; omega); (unfold maxLen; omega); intro w1 hown1 hgrow1; have HI : Hid (ByI w bs 0 (.slice (some ⟨w.heap.size, 0, none⟩) 0 (n * 128)) w1) := ⟨(Fr.refl _ _).grown hgrow1 (fun _ _ h => by cases h), by simpa using hown1⟩; have c01 : w1.cell? ⟨A, 0, none⟩ = some (.slice (some ⟨B, 0, none⟩) n n) := HI.out.1.cell c0 (fun h => h); clear hown1 hgrow1))
  go_loopw [3, 17] (fun lv c wr => ∃ (i : Nat) (ax : Option Addr) (cx : Nat), i ≤ n ∧ c = .int .i64 i ∧ lv = .slice ax (i * 128) cx ∧ Hid (ByI w bs i lv wr)) (fun _ c _ => n - (intOf c).toNat)
  case atStart => exact ⟨0, _, _, Nat.zero_le _, rfl, rfl, by simpa using HI⟩
  case round =>
    obtain ⟨i, ax, cx, hi, rfl, rfl, HR⟩ := hrel
    by_cases hlt : i < n
    · have hlt' : (i : Int) < n := by omega
      have cr : wr.cell? ⟨A, 0, none⟩ = some (.slice (some ⟨B, 0, none⟩) n n) := HR.out.1.cell c0 (fun h => h)
      have HS : Hid (∀ w2 v2, w2.ownsRow w.heap.size 5 1 v2 (i * 128 + 128) (bs.take (i * 128) ++ (bs.drop (i * 128)).take 128) → wr.grownBy w2 (Value.slice ax (i * 128) cx).ownBlock → ByI w bs (i + 1) v2 w2 ∧ ∃ a2 c2, v2 = .slice a2 ((i + 1) * 128) c2) := fun w2 v2 h1 h2 => by_step HR.out h1 h2
      have HF : Hid (wr.ownsRow w.heap.size 5 1 (.slice ax (i * 128) cx) (i * 128) (bs.take (i * 128)) ∧ ((bs.drop (i * 128)).take 128).length = 128 * 1 ∧ (∀ v ∈ (bs.drop (i * 128)).take 128, v.oneCell' = true) ∧ w.heap.size ≤ wr.heap.size ∧ (∀ j u, ((bs.drop (i * 128)).take 128)[j]? = some u → wr.cell? ((⟨B, i * 128, none⟩ : Addr).add j) = some u)) := by
        have hbl := HB.out.2.1
        refine ⟨HR.out.2, by rw [List.length_take, List.length_drop]; omega, fun v hv => ?_, HR.out.1.size, fun j u hu => ?_⟩
        · obtain ⟨k, _, rfl⟩ := HB.out.2.2.1 v (List.mem_of_mem_drop (List.mem_of_mem_take hv))
          rfl
        · have hg := HR.out.1.keep HB.out.1 (fun h => h)
          rw [List.getElem?_take] at hu
          split at hu
          · rw [List.getElem?_drop] at hu
            have := (cell_of_row wr B (i * 128 + j) _ _ _ hg).trans (by simpa using hu)
            rcases Nat.eq_zero_or_pos j with rfl | hj0
            · simpa [Addr.add] using this
            · simpa [Addr.add, show ¬ j = 0 by omega] using this
          · cases hu
      generalize (bs.drop (i * 128)).take 128 = news at *
      go_wp2_with (first | (at_builtin; refine wpList_append_own wr rfl (.tmp 20) (.tmp 27) 85 rfl w.heap.size 5 inf _ 1 1 Tryz.underlying85 hi0 hz0 hz1 hz2 rfl (by decide) (.slice ax (i * 128) cx) (i * 128) (bs.take (i * 128)) rfl HF.out.1 ⟨B, i * 128, none⟩ 128 128 news rfl HF.out.2.1 HF.out.2.2.2.2 HF.out.2.2.1 ?_ ?_ HF.out.2.2.2.1 ?_; (unfold maxLen; omega); omega; intro v2 w2 hown2 hgrow2 _; obtain ⟨hPI, a2, cx2, rfl⟩ := HS.out w2 v2 hown2 hgrow2; have HP2 : Hid (ByI w bs (i + 1) (.slice a2 ((i + 1) * 128) cx2) w2) := hPI; clear hown2 hgrow2 hPI))
      go_roundw
      case rel => exact ⟨i + 1, a2, cx2, by omega, by go_num, rfl, HP2⟩
      case measure => simp [intOf]; omega
    · obtain rfl : i = n := by omega
      have hown := HR.out.2
      rw [List.take_of_length_le (by have := HB.out.2.1; omega)] at hown
      have hcv := conv_bytes hown (by omega) HB.out.2.2.1
      clear hown
      go_wp2
      go_ret
      exact ⟨rfl, HR.out.1⟩
end Go.Proofs.YteebjgfalllbjaaGreatDoor
namespace Go.Proofs.YteebjgfalllbjaaGreatDoor
open Go.RowKit
theorem byteCells_u8 (l : List UInt8) : U8s (Lib.byteCells l) := fun v hv => by
  obtain ⟨b, _, rfl⟩ := List.mem_map.1 hv
  exact ⟨b.toNat, b.toNat_lt, rfl⟩
theorem headB_u8 {n : Nat} (hn : n ≤ 400) : U8s (headB n) := by
  intro v hv
  simp only [headB, markB, List.mem_append, List.mem_cons, List.not_mem_nil, or_false, List.mem_map, List.mem_replicate] at hv
  rcases hv with (rfl | rfl | rfl) | ⟨b, _, rfl⟩ | ⟨_, rfl⟩
  · exact ⟨1, by decide, rfl⟩
  · exact ⟨n / 256, by omega, congrArg _ (by omega)⟩
  · exact ⟨n % 256, by omega, congrArg _ (by omega)⟩
  · exact ⟨b.toNat, b.toNat_lt, rfl⟩
  · exact ⟨0, by decide, rfl⟩
theorem bodyS_u8 {id n : Nat} {l : List SS} (hid : id ≤ 1000) (hn : n ≤ 6) (hl : ∀ p ∈ l, p.1.size ≤ 8 ∧ p.2.size ≤ 8) (i : Nat) : U8s (bodyS id n l i) := by
  intro v hv
  simp only [bodyS, stepsB, stepB, pad8, zv, List.mem_append, List.mem_cons, List.not_mem_nil, or_false, List.mem_flatten, List.mem_map, List.mem_replicate] at hv
  rcases hv with (rfl | rfl | rfl) | ⟨x, ⟨q, hq, rfl⟩, hx⟩ | ⟨_, rfl⟩
  · exact ⟨id / 256, by omega, rfl⟩
  · exact ⟨id % 256, by omega, rfl⟩
  · exact ⟨n, by omega, rfl⟩
  · have h8 := hl q (List.mem_of_mem_take hq)
    rcases List.mem_cons.1 hx with rfl | hx
    · exact ⟨q.1.size * 16 + q.2.size, by omega, rfl⟩
    · rcases List.mem_append.1 hx with hx | hx
      · rcases List.mem_append.1 hx with hx | hx
        · exact byteCells_u8 _ _ hx
        · exact ⟨0, by decide, (List.mem_replicate.1 hx).2⟩
      · rcases List.mem_append.1 hx with hx | hx
        · exact byteCells_u8 _ _ hx
        · exact ⟨0, by decide, (List.mem_replicate.1 hx).2⟩
  · exact ⟨0, by decide, rfl⟩
theorem ldB_u8 {k : Nat} (hk : k < 256) {bd : List Value} (h : U8s bd) (i : Nat) : U8s (ldB k bd i) := fun v hv => by
  simp only [ldB, scts, List.mem_append, List.mem_flatten, List.mem_map, List.mem_replicate] at hv
  rcases hv with ⟨x, ⟨j, _, rfl⟩, hx⟩ | ⟨_, rfl⟩
  · rcases List.mem_cons.1 hx with rfl | hx
    · exact ⟨k, hk, rfl⟩
    · exact h v (List.mem_of_mem_drop (List.mem_of_mem_take hx))
  · exact ⟨0, by decide, rfl⟩
theorem Rec.u8 {L : List AS} {r : Rec} (h : r.Ok L) : U8s r.bytes := by
  cases r with
  | take id st =>
    obtain ⟨h1, h2, _, h6, h8⟩ := saga_of id st h.1
    exact ldB_u8 (by decide) (bodyS_u8 (by omega) h6 (six_ok h8) 6) 4
  | move id r => exact ldB_u8 (by decide) (bodyS_u8 (l := []) h.2.1 (Nat.le_trans h.1 (by decide)) (fun p hp => absurd hp (by simp)) 0) 4
theorem lay_u8 {n : Nat} {rs : List Rec} (hn : n ≤ 400) (h : RecsOk rs) : U8s (layB n (rs.map Rec.bytes)) := by
  refine (headB_u8 hn).append (U8s.append (fun v hv => ?_) (U8s.rep _))
  obtain ⟨b, hb, hv⟩ := List.mem_flatten.1 hv
  obtain ⟨r, hr, rfl⟩ := List.mem_map.1 hb
  obtain ⟨i, hi⟩ := List.mem_iff_getElem?.1 hr
  exact Rec.u8 (h i r hi) v hv
section
variable {w : World} {A B n Pp : Nat} {calls writes : Int}
/-- Open of an empty journal. -/
theorem open0 (p : Int) (hp1 : 1 ≤ p) (hp2 : p ≤ 64) (hd : DiskAt w A B n (.slice none 0 0) calls writes) (hr : RowsAt w B n (emptyB n)) (h0 : 0 ≤ calls) (h1 : calls ≤ 500) (h2 : 0 ≤ writes) (h3 : writes ≤ 1000) (n8 : 8 ≤ n) (n4 : n ≤ 400) :
    Calls Tryz.prog 33 #[.pointer (some ⟨A, 0, none⟩), .int .i64 p, .pointer (some ⟨Pp, 0, none⟩)] w fun e w' => ∃ X F, e = .returned (.tuple #[.pointer (some ⟨X, 0, none⟩), .nilIface]) ∧ EN w' 1 X A B n 0 p (askV Pp) [] [] F ∧ FU w' F ∧ (∀ b, F b → w.heap.size ≤ b) ∧ Fr (fun b => b = A) w w' := by
  have hAl := lt_of_heap hd
  refine pOpen_any ?_
  refine (sOpen_ok (recs := []) p (by omega) (by omega) hd hr h0 (by omega) n8 n4 (layB_nil n).symm (by simp; omega) (fun r hr => absurd hr (by simp))
    (fun R _ W => RollAt W R w.heap.size ((n : Int) - 1) (.slice none 0 0) []) (fun R W hRw hroll hsz => ⟨hroll, World.ownsRow_nil _ _ _ _, by simp⟩)
    (fun R i W W' hRw hRP hf => hRP.fr hf (fun b hb h => ?_)) (fun R i r W hRw hr => by simp at hr)).mono ?_
  · rcases hb with rfl | hb | ⟨q, hq, _⟩
    · omega
    · cases hb
    · cases hq
  · rintro e w' ⟨X, rfl, V, R, J, cl, g1, g2, g3, g4, g5, g6, g7, g8, g9, g10⟩
    refine ⟨_, _, rfl, X, EngF X J R V (.slice none 0 0) [], rfl, ?_, ?_, ?_, g10⟩
    · refine ⟨⟨n8, n4, Int.le_refl _, recsOk_nil, by simp [needC], rfl, by simp⟩, J, R, V, w.heap.size, (n : Int) - 1, .slice none 0 0, [], false, cl, writes, ⟨by omega, by omega, h2, by omega⟩, ⟨g1, g5, ⟨g4.v, g4.d, g4.r, g4.j⟩⟩, rfl, by simp [needC], g10.size, fun b hb => hb⟩
    · exact es_fu (A := A) (B := B) (n := n) (calls := cl) (writes := writes) ⟨g1, g5, ⟨g4.v, g4.d, g4.r, g4.j⟩⟩
    · rintro b (rfl | rfl | rfl | rfl | hb | ⟨q, hq, _⟩)
      · omega
      · omega
      · omega
      · omega
      · cases hb
      · cases hq
end
end Go.Proofs.YteebjgfalllbjaaGreatDoor
