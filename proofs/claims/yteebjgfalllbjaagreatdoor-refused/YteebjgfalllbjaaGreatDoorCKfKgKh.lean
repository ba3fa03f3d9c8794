import Derived.Test.YteebjgfalllbjaaGreatDoorCKdKcKe
import Derived.Test.YteebjgfalllbjaaGreatDoorCAsWTlFm
import Derived.Laws.MakeOwn
import Derived.Test.YteebjgfalllbjaaGreatDoorCKbPaAs1
namespace Go.Proofs.YteebjgfalllbjaaGreatDoor
open Go.RowKit
/-- A byte of a disk; the text of its bytes. -/
def u8of : Value → UInt8
  | .int _ k => UInt8.ofNat k.toNat
  | _ => 0
def U8s (bs : List Value) : Prop := ∀ v ∈ bs, ∃ k : Nat, k < 256 ∧ v = .int .u8 k
def bytesT (bs : List Value) : ByteArray := ⟨(bs.map u8of).toArray⟩
theorem U8s.append {a b : List Value} (ha : U8s a) (hb : U8s b) : U8s (a ++ b) := fun v hv => by
  rcases List.mem_append.1 hv with h | h
  · exact ha v h
  · exact hb v h
theorem U8s.rep (n : Nat) : U8s (List.replicate n (Value.int .u8 0)) := fun v hv => ⟨0, by decide, (List.mem_replicate.1 hv).2⟩
theorem u8_info : (Tryz.prog.info? 5).map (fun i => (i.zero, i.size, i.bytes)) = some (some (.int .u8 0), 1, 1) := by kernel_rfl
theorem conv_bytes {W : World} {base m : Nat} {ax : Option Addr} {cx : Nat} {bs : List Value} (h : W.ownsRow base 5 1 (.slice ax m cx) m bs) (hm : 0 < m) (hu : U8s bs) : (convert 85 9 (.slice ax m cx)).run Tryz.prog W = .ok (.string (bytesT bs)) W := by
  have hlen := h.1
  rcases h.2 with ⟨_, h0⟩ | ⟨g, cap, cur, hv, _, hg, _, _, _, hx⟩
  · omega
  cases hv
  have hl : (bs.map u8of).length = m := by rw [List.length_map]; omega
  have hc := run_convert_bytes_back W 85 9 5 ⟨g, 0, none⟩ cx (bs.map u8of) Tryz.underlying85 Tryz.underlying5 Tryz.underlying9 (fun j hj => by
    have hj' : j < bs.length := by simpa using hj
    obtain ⟨k, hk, hv⟩ := hu bs[j] (List.getElem_mem hj')
    have h1 : bs[j]? = some bs[j] := List.getElem?_eq_getElem hj'
    obtain ⟨b, hb⟩ : ∃ b, b = bs[j] := ⟨_, rfl⟩
    rw [← hb] at h1 hv
    have h2 : cur[j]? = some b := by
      rw [← hx, List.getElem?_take] at h1
      split at h1
      · simpa using h1
      · cases h1
    have hcell : W.cell? ⟨g, j, none⟩ = some b := (cell_of_row W g j _ _ _ hg).trans h2
    have e : (bs.map u8of)[j] = UInt8.ofNat k := by rw [List.getElem_map, ← hb, hv]; simp [u8of]
    rw [e]
    rw [hv] at hcell
    have e2 : k % 256 = k := Nat.mod_eq_of_lt hk
    rcases Nat.eq_zero_or_pos j with rfl | hj0
    · simpa [Addr.add, e2] using hcell
    · simpa [Addr.add, e2, show ¬ j = 0 by omega] using hcell)
  rw [hl] at hc
  exact hc
def ByI (w : World) (bs : List Value) (i : Nat) (lv : Value) (wr : World) : Prop := Fr (fun _ => False) w wr ∧ wr.ownsRow w.heap.size 5 1 lv (i * 128) (bs.take (i * 128))
theorem by_step {w wr w2 : World} {bs : List Value} {i : Nat} {ax : Option Addr} {cx : Nat} {v2 : Value} (h : ByI w bs i (.slice ax (i * 128) cx) wr)
    (hown : w2.ownsRow w.heap.size 5 1 v2 (i * 128 + 128) (bs.take (i * 128) ++ (bs.drop (i * 128)).take 128)) (hg : wr.grownBy w2 (Value.slice ax (i * 128) cx).ownBlock) :
    ByI w bs (i + 1) v2 w2 ∧ ∃ a2 c2, v2 = .slice a2 ((i + 1) * 128) c2 := by
  have e : (i + 1) * 128 = i * 128 + 128 := by omega
  refine ⟨⟨?_, ?_⟩, ?_⟩
  · refine h.1.grown hg (fun k hk hb => ?_)
    have := (h.2.lt k hb).1
    omega
  · rw [e, List.take_add]
    exact hown
  · rw [e]
    rcases hown.2 with ⟨rfl, h0⟩ | ⟨g, cap, cur, rfl, _⟩
    · omega
    · exact ⟨_, _, rfl⟩
set_option maxRecDepth 100000 in
set_option maxHeartbeats 1000000 in
theorem Bytes_ok (w : World) {A B n : Nat} {calls writes : Int} {bs : List Value} (hd : DiskAt w A B n (.slice none 0 0) calls writes) (hr : RowsAt w B n bs) (hn1 : 1 ≤ n) (hn : n ≤ 400) (hu : U8s bs) : Calls Tryz.prog 28 #[.pointer (some ⟨A, 0, none⟩)] w fun e w' => e = .returned (.string (bytesT bs)) ∧ Fr (fun _ => False) w w' := by
  have c0 := hd.c0
  obtain ⟨inf, hi0, hz0, hz1, hz2⟩ := info_parts u8_info
  have HB : Hid (w.heap[B]? = some (.cells bs.toArray 97 (0, 0)) ∧ bs.length = n * 128 ∧ U8s bs ∧ w.cell? ⟨A, 0, none⟩ = some (.slice (some ⟨B, 0, none⟩) n n)) := ⟨hr.1, hr.2.1, hu, hd.c0⟩
  clear hr hu hd
  go_enter Tryz.func28, Tryz.ntmps28
  go_wp2_with (first | (at_make; refine wpList_make_own w rfl (.const (.int .i64 0)) (.tmp 10) 85 rfl w.heap.size 5 inf (.int .u8 0) 1 Tryz.underlying85 hi0 hz0 hz1 .i64 .i64 _ (n * 128) rfl rfl ?_ ?_ ?_ (Nat.le_refl _) ?_; (push_cast; rfl); (rw [hz2]; omega); (unfold maxLen; omega); intro w1 hown1 hgrow1; have HI : Hid (ByI w bs 0 (.slice (some ⟨w.heap.size, 0, none⟩) 0 (n * 128)) w1) := ⟨(Fr.refl _ _).grown hgrow1 (fun _ _ h => by cases h), by simpa using hown1⟩; have c01 : w1.cell? ⟨A, 0, none⟩ = some (.slice (some ⟨B, 0, none⟩) n n) := HI.out.1.cell c0 (fun h => h); clear hown1 hgrow1))
  go_loopw [3, 17] (fun lv c wr => ∃ (i : Nat) (ax : Option Addr) (cx : Nat), i ≤ n ∧ c = .int .i64 i ∧ lv = .slice ax (i * 128) cx ∧ Hid (ByI w bs i lv wr)) (fun _ c _ => n - (intOf c).toNat)
  case atStart => exact ⟨0, _, _, Nat.zero_le _, rfl, rfl, by simpa using HI⟩
  case round =>
    obtain ⟨i, ax, cx, hi, rfl, rfl, HR⟩ := hrel
    by_cases hlt : i < n
    · have hlt' : (i : Int) < n := by omega
      have cr : wr.cell? ⟨A, 0, none⟩ = some (.slice (some ⟨B, 0, none⟩) n n) := HR.out.1.cell c0 (fun h => h)
      have HS : Hid (∀ w2 v2, w2.ownsRow w.heap.size 5 1 v2 (i * 128 + 128) (bs.take (i * 128) ++ (bs.drop (i * 128)).take 128) → wr.grownBy w2 (Value.slice ax (i * 128) cx).ownBlock → ByI w bs (i + 1) v2 w2 ∧ ∃ a2 c2, v2 = .slice a2 ((i + 1) * 128) c2) := fun w2 v2 h1 h2 => by_step HR.out h1 h2
      have HF : Hid (wr.ownsRow w.heap.size 5 1 (.slice ax (i * 128) cx) (i * 128) (bs.take (i * 128)) ∧ ((bs.drop (i * 128)).take 128).length = 128 * 1 ∧ (∀ v ∈ (bs.drop (i * 128)).take 128, v.oneCell' = true) ∧ w.heap.size ≤ wr.heap.size ∧ (∀ j u, ((bs.drop (i * 128)).take 128)[j]? = some u → wr.cell? ((⟨B, i * 128, none⟩ : Addr).add j) = some u)) := by
        have hbl := HB.out.2.1
        refine ⟨HR.out.2, by rw [List.length_take, List.length_drop]; omega, fun v hv => ?_, HR.out.1.size, fun j u hu => ?_⟩
        · obtain ⟨k, _, rfl⟩ := HB.out.2.2.1 v (List.mem_of_mem_drop (List.mem_of_mem_take hv))
          rfl
        · have hg := HR.out.1.keep HB.out.1 (fun h => h)
          rw [List.getElem?_take] at hu
          split at hu
          · rw [List.getElem?_drop] at hu
            have := (cell_of_row wr B (i * 128 + j) _ _ _ hg).trans (by simpa using hu)
            rcases Nat.eq_zero_or_pos j with rfl | hj0
            · simpa [Addr.add] using this
            · simpa [Addr.add, show ¬ j = 0 by omega] using this
          · cases hu
      generalize (bs.drop (i * 128)).take 128 = news at *
      go_wp2_with (first | (at_builtin; refine wpList_append_own wr rfl (.tmp 20) (.tmp 27) 85 rfl w.heap.size 5 inf _ 1 1 Tryz.underlying85 hi0 hz0 hz1 hz2 rfl (by decide) (.slice ax (i * 128) cx) (i * 128) (bs.take (i * 128)) rfl HF.out.1 ⟨B, i * 128, none⟩ 128 128 news rfl HF.out.2.1 HF.out.2.2.2.2 HF.out.2.2.1 ?_ ?_ HF.out.2.2.2.1 ?_; (unfold maxLen; omega); omega; intro v2 w2 hown2 hgrow2 _; obtain ⟨hPI, a2, cx2, rfl⟩ := HS.out w2 v2 hown2 hgrow2; have HP2 : Hid (ByI w bs (i + 1) (.slice a2 ((i + 1) * 128) cx2) w2) := hPI; clear hown2 hgrow2 hPI))
      go_roundw
      case rel => exact ⟨i + 1, a2, cx2, by omega, by go_num, rfl, HP2⟩
      case measure => simp [intOf]; omega
    · obtain rfl : i = n := by omega
      have hown := HR.out.2
      rw [List.take_of_length_le (by have := HB.out.2.1; omega)] at hown
      have hcv := conv_bytes hown (by omega) HB.out.2.2.1
      clear hown
      go_wp2
      go_ret
      exact ⟨rfl, HR.out.1⟩
end Go.Proofs.YteebjgfalllbjaaGreatDoor
namespace Go.Proofs.YteebjgfalllbjaaGreatDoor
open Go.RowKit
theorem byteCells_u8 (l : List UInt8) : U8s (Lib.byteCells l) := fun v hv => by
  obtain ⟨b, _, rfl⟩ := List.mem_map.1 hv
  exact ⟨b.toNat, b.toNat_lt, rfl⟩
theorem headB_u8 {n : Nat} (hn : n ≤ 400) : U8s (headB n) := by
  intro v hv
  simp only [headB, markB, List.mem_append, List.mem_cons, List.not_mem_nil, or_false, List.mem_map, List.mem_replicate] at hv
  rcases hv with (rfl | rfl | rfl) | ⟨b, _, rfl⟩ | ⟨_, rfl⟩
  · exact ⟨1, by decide, rfl⟩
  · exact ⟨n / 256, by omega, congrArg _ (by omega)⟩
  · exact ⟨n % 256, by omega, congrArg _ (by omega)⟩
  · exact ⟨b.toNat, b.toNat_lt, rfl⟩
  · exact ⟨0, by decide, rfl⟩
theorem bodyS_u8 {id n : Nat} {l : List SS} (hid : id ≤ 1000) (hn : n ≤ 6) (hl : ∀ p ∈ l, p.1.size ≤ 8 ∧ p.2.size ≤ 8) (i : Nat) : U8s (bodyS id n l i) := by
  intro v hv
  simp only [bodyS, stepsB, stepB, pad8, zv, List.mem_append, List.mem_cons, List.not_mem_nil, or_false, List.mem_flatten, List.mem_map, List.mem_replicate] at hv
  rcases hv with (rfl | rfl | rfl) | ⟨x, ⟨q, hq, rfl⟩, hx⟩ | ⟨_, rfl⟩
  · exact ⟨id / 256, by omega, rfl⟩
  · exact ⟨id % 256, by omega, rfl⟩
  · exact ⟨n, by omega, rfl⟩
  · have h8 := hl q (List.mem_of_mem_take hq)
    rcases List.mem_cons.1 hx with rfl | hx
    · exact ⟨q.1.size * 16 + q.2.size, by omega, rfl⟩
    · rcases List.mem_append.1 hx with hx | hx
      · rcases List.mem_append.1 hx with hx | hx
        · exact byteCells_u8 _ _ hx
        · exact ⟨0, by decide, (List.mem_replicate.1 hx).2⟩
      · rcases List.mem_append.1 hx with hx | hx
        · exact byteCells_u8 _ _ hx
        · exact ⟨0, by decide, (List.mem_replicate.1 hx).2⟩
  · exact ⟨0, by decide, rfl⟩
theorem ldB_u8 {k : Nat} (hk : k < 256) {bd : List Value} (h : U8s bd) (i : Nat) : U8s (ldB k bd i) := fun v hv => by
  simp only [ldB, scts, List.mem_append, List.mem_flatten, List.mem_map, List.mem_replicate] at hv
  rcases hv with ⟨x, ⟨j, _, rfl⟩, hx⟩ | ⟨_, rfl⟩
  · rcases List.mem_cons.1 hx with rfl | hx
    · exact ⟨k, hk, rfl⟩
    · exact h v (List.mem_of_mem_drop (List.mem_of_mem_take hx))
  · exact ⟨0, by decide, rfl⟩
theorem Rec.u8 {L : List AS} {r : Rec} (h : r.Ok L) : U8s r.bytes := by
  cases r with
  | take id st =>
    obtain ⟨h1, h2, _, h6, h8⟩ := saga_of id st h.1
    exact ldB_u8 (by decide) (bodyS_u8 (by omega) h6 (six_ok h8) 6) 4
  | move id r => exact ldB_u8 (by decide) (bodyS_u8 (l := []) h.2.1 (Nat.le_trans h.1 (by decide)) (fun p hp => absurd hp (by simp)) 0) 4
theorem lay_u8 {n : Nat} {rs : List Rec} (hn : n ≤ 400) (h : RecsOk rs) : U8s (layB n (rs.map Rec.bytes)) := by
  refine (headB_u8 hn).append (U8s.append (fun v hv => ?_) (U8s.rep _))
  obtain ⟨b, hb, hv⟩ := List.mem_flatten.1 hv
  obtain ⟨r, hr, rfl⟩ := List.mem_map.1 hb
  obtain ⟨i, hi⟩ := List.mem_iff_getElem?.1 hr
  exact Rec.u8 (h i r hi) v hv
section
variable {w : World} {A B n Pp : Nat} {calls writes : Int}
/-- Open of an empty journal. -/
theorem open0 (p : Int) (hp1 : 1 ≤ p) (hp2 : p ≤ 64) (hd : DiskAt w A B n (.slice none 0 0) calls writes) (hr : RowsAt w B n (emptyB n)) (h0 : 0 ≤ calls) (h1 : calls ≤ 500) (h2 : 0 ≤ writes) (h3 : writes ≤ 1000) (n8 : 8 ≤ n) (n4 : n ≤ 400) :
    Calls Tryz.prog 33 #[.pointer (some ⟨A, 0, none⟩), .int .i64 p, .pointer (some ⟨Pp, 0, none⟩)] w fun e w' => ∃ X F, e = .returned (.tuple #[.pointer (some ⟨X, 0, none⟩), .nilIface]) ∧ EN w' 1 X A B n 0 p (askV Pp) [] [] F ∧ FU w' F ∧ (∀ b, F b → w.heap.size ≤ b) ∧ Fr (fun b => b = A) w w' := by
  have hAl := lt_of_heap hd
  refine pOpen_any ?_
  refine (sOpen_ok (recs := []) p (by omega) (by omega) hd hr h0 (by omega) n8 n4 (layB_nil n).symm (by simp; omega) (fun r hr => absurd hr (by simp))
    (fun R _ W => RollAt W R w.heap.size ((n : Int) - 1) (.slice none 0 0) []) (fun R W hRw hroll hsz => ⟨hroll, World.ownsRow_nil _ _ _ _, by simp⟩)
    (fun R i W W' hRw hRP hf => hRP.fr hf (fun b hb h => ?_)) (fun R i r W hRw hr => by simp at hr)).mono ?_
  · rcases hb with rfl | hb | ⟨q, hq, _⟩
    · omega
    · cases hb
    · cases hq
  · rintro e w' ⟨X, rfl, V, R, J, cl, g1, g2, g3, g4, g5, g6, g7, g8, g9, g10⟩
    refine ⟨_, _, rfl, X, EngF X J R V (.slice none 0 0) [], rfl, ?_, ?_, ?_, g10⟩
    · refine ⟨⟨n8, n4, Int.le_refl _, recsOk_nil, by simp [needC], rfl, by simp⟩, J, R, V, w.heap.size, (n : Int) - 1, .slice none 0 0, [], false, cl, writes, ⟨by omega, by omega, h2, by omega⟩, ⟨g1, g5, ⟨g4.v, g4.d, g4.r, g4.j⟩⟩, rfl, by simp [needC], g10.size, fun b hb => hb⟩
    · exact es_fu (A := A) (B := B) (n := n) (calls := cl) (writes := writes) ⟨g1, g5, ⟨g4.v, g4.d, g4.r, g4.j⟩⟩
    · rintro b (rfl | rfl | rfl | rfl | hb | ⟨q, hq, _⟩)
      · omega
      · omega
      · omega
      · omega
      · cases hb
      · cases hq
end
end Go.Proofs.YteebjgfalllbjaaGreatDoor
namespace Go.Proofs.YteebjgfalllbjaaGreatDoor
open Go.RowKit
theorem err0 {w : World} {v : Value} (h : ErrAt w v 0) : v = .nilIface := by
  rcases h with ⟨rfl, _⟩ | ⟨_, _, _, _, h⟩
  · rfl
  · exact absurd rfl h
theorem scells_at (st : List SS) (i : Nat) (p : SS) (h : st[i]? = some p) (j : Nat) (v : Value) (hv : (stv p)[j]? = some v) : (scells st)[i * 2 + j]? = some v := by
  induction st generalizing i with
  | nil => simp at h
  | cons a st ih =>
    have hj : j < 2 := (List.getElem?_eq_some_iff.1 hv).1
    have e : scells (a :: st) = stv a ++ scells st := rfl
    have e2 : (stv a).length = 2 := rfl
    rw [e]
    cases i with
    | zero =>
      obtain rfl : a = p := by simpa using h
      rw [List.getElem?_append_left (by rw [e2]; omega), Nat.zero_mul, Nat.zero_add]
      exact hv
    | succ i =>
      rw [List.getElem?_append_right (by rw [e2]; omega), e2, show (i + 1) * 2 + j - 2 = i * 2 + j by omega]
      exact ih i (by simpa using h)
theorem own_rowsS {W : World} {b0 : Nat} {ao : Option Addr} {n cap : Nat} {st : List SS} (h : W.ownsRow b0 58 2 (.slice ao n cap) n (scells st)) : RowsOf W ao 2 (st.map stv) := by
  intro i r hr
  rw [List.getElem?_map] at hr
  obtain ⟨c, hc, rfl⟩ := Option.map_eq_some_iff.1 hr
  have hi := (List.getElem?_eq_some_iff.1 hc).1
  have hlen := h.1
  rcases h.2 with ⟨hv, hn⟩ | ⟨g, cap', cur, hv, _, hg, _, _, _, hx⟩
  · rw [scells_len, hn] at hlen; omega
  · cases hv
    refine ⟨g, 0, rfl, fun j v hj => ?_⟩
    refine (cell_of_row W g _ _ _ _ hg).trans ?_
    have h1 := scells_at st i c hc j v hj
    rw [← hx, List.getElem?_take] at h1
    split at h1
    · rw [Nat.zero_add]; simpa using h1
    · cases h1
theorem own_someS {W : World} {b0 : Nat} {ao : Option Addr} {n cap size : Nat} {t : TypeId} {xs : List Value} (h : W.ownsRow b0 t size (.slice ao n cap) n xs) (hn : 1 ≤ n) : ∃ g, ao = some ⟨g, 0, none⟩ := by
  rcases h.2 with ⟨_, h0⟩ | ⟨g, cap', cur, hv, _⟩
  · omega
  · cases hv; exact ⟨g, rfl⟩
theorem kst_ok {id n : Nat} {k : Int} (h1 : 1 ≤ n) (h6 : n ≤ 6) (hk1 : 1 ≤ k) (hk2 : k ≤ 1000) : sagaOk k (kst id n) = true := by
  refine decide_eq_true ⟨hk1, hk2, by rw [kst_len]; exact h1, by rw [kst_len]; exact h6, fun p hp => ?_⟩
  have := kst_8 id n p hp
  omega
/-- A disk with an empty journal and an engine on it. -/
def BegunQ (w : World) (n Pp : Nat) (pause : Int) (e : Ending) (w' : World) : Prop := ∃ X A B F, e = .returned (.tuple #[.pointer (some ⟨A, 0, none⟩), .pointer (some ⟨X, 0, none⟩)]) ∧ EN w' 1 X A B n 0 pause (askV Pp) [] [] F ∧ FU w' F ∧ (∀ b, F b → w.heap.size ≤ b) ∧ w.heap.size ≤ A ∧ w.heap.size ≤ B ∧ Fr (fun _ => False) w w'
/-- What a saga of one step makes of a partner that does all. -/
theorem one_tick {Pq b0 : Nat} (pause : Int) : tickL (ptn (ask_nil_ok (Pp := Pq) (b0 := b0))) 1 pause [newA 5 (kst 5 1)] ⟨[], [], 0⟩ = ([⟨5, kst 5 1, (3, 0), 0, 0⟩], ⟨[((newA 5 (kst 5 1)).asks, 0)], [(newA 5 (kst 5 1)).asks], 0⟩, [(5, 0)]) := by
  have ho : (newA 5 (kst 5 1)).open ∧ (newA 5 (kst 5 1)).due ≤ 1 := ⟨.inl rfl, by decide⟩
  have ha : (ptn (ask_nil_ok (Pp := Pq) (b0 := b0))).ask ⟨[], [], 0⟩ (newA 5 (kst 5 1)).asks = (0, ⟨[((newA 5 (kst 5 1)).asks, 0)], [(newA 5 (kst 5 1)).asks], 0⟩) := rfl
  have hm : (newA 5 (kst 5 1)).moves (0 : Nat) = true := by simp [AS.moves]
  have hg : (newA 5 (kst 5 1)).go (0 : Nat) = ⟨5, kst 5 1, (3, 0), 0, 0⟩ := by simp [AS.go, AS.next, newA, kst_len]
  simp only [tickL, tickOne, if_pos ho, ha, AS.after, hm, if_true, hg]
  rfl
set_option maxRecDepth 100000 in
set_option maxHeartbeats 4000000 in
theorem kBegun_ok (w : World) (n Pp : Nat) (pause : Int) (n8 : 8 ≤ n) (n4 : n ≤ 400) (hp1 : 1 ≤ pause) (hp2 : pause ≤ 64) : Calls Tryz.prog 20 #[.int .i64 n, .pointer (some ⟨Pp, 0, none⟩), .int .i64 pause] w fun e w' => BegunQ w n Pp pause e w' := by
  go_enter Tryz.func20, Tryz.ntmps20
  go_wp2_with fail
  refine (NewDisk_ok 20 w).mono ?_
  rintro e w1 ⟨A, B, rfl, hA, hB, hd, hr, hf1⟩
  have e20 : nblk 20 = 20 := by decide
  rw [e20] at hd hr
  go_wp2_with fail
  refine (NewPartner_rows (rl := []) (World.ownsRow_nil w1 0 _ _) (by decide)).mono ?_
  rintro e w2 ⟨Pq, lv, rfl, hPq, hpr, hlv, hf2⟩
  have hF2 : Fr (fun _ => False) w w2 := hf1.trans hf2 (fun _ _ h => h)
  have hd2 := hd.fr hf2 id
  have hr2 : RowsAt w2 B 20 _ := ⟨hf2.keep hr.1 id, hr.2⟩
  have hz1 := hf1.size
  have hz2 := hf2.size
  clear hd hr hf1 hf2 e20
  go_wp2_with fail
  refine (pFormat_ok hd2 hr2 (by omega) (by omega) (by omega) (by omega) (by decide) (by decide)).mono ?_
  rintro e w3 ⟨v3, rfl, hv3, bs3, hd3, hr3, rfl, hf3⟩
  obtain rfl := err0 hv3
  have nPA : Pq ≠ A := fun e => by have := hpr.p; rw [e] at this; have := this.symm.trans hd2; simp [dcells] at this
  have nPB : Pq ≠ B := fun e => by have := hpr.p; rw [e] at this; have := this.symm.trans hr2.1; simp at this
  have hF3 : Fr (fun _ => False) w w3 := hF2.trans hf3 (fun b _ h => by omega)
  have hfo : ∀ b, PartF Pq (.slice none 0 0) (.slice none 0 0) lv b → b ≠ A ∧ b ≠ B := fun b hb => by
    obtain ⟨c, t, hc, ht⟩ := hpr.ty hb
    unfold PT at ht
    refine ⟨fun e => ?_, fun e => ?_⟩
    · rw [e] at hc; have := hc.symm.trans hd2; simp [dcells] at this; rw [this.2] at ht; revert ht; decide
    · rw [e] at hc; have := hc.symm.trans hr2.1; simp at this; rw [this.2] at ht; revert ht; decide
  have hpr3 := hpr.fr hf3 (fun b hb h => by have := hfo b hb; omega)
  have hsz2 := hf3.size
  clear hd2 hr2 hf3 hv3 hF2
  go_wp2_with fail
  refine (open0 (Pp := Pq) 1 (by decide) (by decide) hd3 hr3 (by omega) (by decide) (by omega) (by decide) (by decide) (by decide)).mono ?_
  rintro e w4 ⟨X1, F1, rfl, hE4, hU4, hFn4, hf4⟩
  have hF4 : Fr (fun _ => False) w w4 := hF3.trans hf4 (fun b _ h => by omega)
  have hpr4 := hpr3.fr hf4 (fun b hb h => by have := hfo b hb; omega)
  have hsz3 := hF3.size
  have hsz34 := hf4.size
  clear hd3 hr3 hf4 hF3 hpr hpr3
  go_wp2_with fail
  refine (kSteps_ok w4 5 1 (by decide) (by decide)).mono ?_
  rintro e w5 ⟨ao, cap, rfl, hks⟩
  obtain ⟨g, rfl⟩ := own_someS hks.2 (Nat.le_refl _)
  have hE5 := hE4.fr hks.1 id id (fun _ _ => id)
  have hU5 : FU w5 F1 := fun b hb => by obtain ⟨c, t, hc, ht⟩ := hU4 b hb; exact ⟨c, t, hks.1.keep hc id, ht⟩
  have hpr5 := hpr4.fr hks.1 (fun _ _ => id)
  have hF5 := hF4.trans hks.1 (fun _ _ h => h)
  have hrows := own_rowsS hks.2
  have hsz4 := hks.1.size
  clear hks hE4 hU4 hpr4
  go_wp2_with fail
  have HS := hE5.sub (by decide) 5 (kst 5 1) cap hrows (fun _ => ⟨g, rfl⟩)
  rw [kst_len] at HS
  refine HS.mono ?_
  rintro e w6 ⟨v6, k6, L6, rs6, F6, rfl, hv6, hS6, hn6, hU6, hE6, hf6⟩
  obtain ⟨rfl, rfl, rfl⟩ : k6 = 0 ∧ L6 = [newA 5 (kst 5 1)] ∧ rs6 = [Rec.take 5 (kst 5 1)] := by
    rcases hS6 with ⟨h, _⟩ | ⟨_, a, ha, _⟩ | ⟨_, _, ⟨h1, h2, h3⟩ | ⟨_, h, _⟩⟩
    · rw [kst_ok (by decide) (by decide) (by decide) (by decide)] at h; cases h
    · cases ha
    · exact ⟨h1, h2, h3⟩
    · rw [kst_len] at h; simp at h
  obtain rfl := err0 hv6
  have hpF6 : ∀ b, PartF Pq (.slice none 0 0) (.slice none 0 0) lv b → ¬ (b = A ∨ b = B ∨ F1 b) := fun b hb h => by
    have h1 := hfo b hb
    rcases h with h | h | h
    · exact h1.1 h
    · exact h1.2 h
    · obtain ⟨c, t, hc, ht⟩ := hpr5.ty hb
      exact hU5.ne hc (by intro hu; unfold EngU at hu; unfold PT at ht; rcases ht with rfl | rfl | rfl | rfl <;> revert hu <;> decide) h
  have hpr6 := hpr5.fr hf6 hpF6
  have hF6 : Fr (fun _ => False) w w6 := hF5.trans hf6 (fun b hb h => by
    rcases h with h | h | h
    · omega
    · omega
    · have := hFn4 b h; have := hF4.size; omega)
  have hn6' : ∀ b, F6 b → w.heap.size ≤ b := fun b hb => by
    rcases hn6 b hb with h | h
    · have := hFn4 b h; have := hF4.size; omega
    · have := hF5.size; omega
  have hP6 : PrtI Pq w1.heap.size [] ⟨[], [], 0⟩ (PartF Pq (.slice none 0 0) (.slice none 0 0) lv) w6 := ⟨by have := hf6.size; omega, _, _, _, hpr6, fun _ => Iff.rfl⟩
  have HT := hE6.tick (ptn ask_nil_ok) (s0 := (⟨[], [], 0⟩ : PSt)) (by decide) (by decide) (by decide) (by decide) hP6 (by show max (max 0 0) 0 + 1 ≤ 1000000; decide)
  clear HS hS6 hv6 hf6 hpr5 hpr6 hE5 hU5 hF5 hrows hn6 hpF6
  go_wp2_with fail
  refine HT.mono ?_
  rintro e w7 ⟨rfl, F7, hn7, hU7, hE7, ⟨F0', hP7, hn07⟩, hf7⟩
  rw [show (0 : Int) + 1 = 1 from rfl, one_tick] at hE7 hP7
  have hF7 : Fr (fun _ => False) w w7 := hF6.trans hf7 (fun b hb h => by
    rcases h with h | h | h | h
    · omega
    · omega
    · have := hn6' b h; omega
    · rcases h with h | h | h | h
      · omega
      · cases h
      · cases h
      · have := hlv b h; omega)
  obtain ⟨_, lg7, ef7, l7, hpr7, _⟩ := hP7
  clear HT hE6 hf7 hF6 hP6 hn7 hn07
  go_wp2_with fail
  refine (hE7.sta 5).mono ?_
  rintro e w8 ⟨s8, v8, rfl, hf8, hc8⟩
  obtain ⟨rfl, hv8⟩ : s8 = ⟨5, 3, 0, 1, 0, 0⟩ ∧ ErrAt w8 v8 0 := by
    rcases hc8 with ⟨a, ha, _, rfl, h⟩ | ⟨h, _⟩
    · obtain rfl := List.mem_singleton.1 ha
      exact ⟨rfl, h⟩
    · exact absurd rfl (h _ (List.mem_singleton.2 rfl))
  obtain rfl := err0 hv8
  obtain ⟨ae, ce, rfl⟩ : ∃ ae ce, ef7 = .slice ae 1 ce := by
    rcases hpr7.eo.2 with ⟨_, h⟩ | ⟨g', cap', cur, h, _⟩
    · cases h
    · exact ⟨_, _, h⟩
  have hq8 : (w8.alloc (.cells #[.int .i64 5, .int .i64 3, .int .i64 0, .int .i64 1, .int .i64 0, .int .i64 0] 42)).cell? ⟨Pq, 1, none⟩ = some (.slice ae 1 ce) := (cell_of_row _ Pq 1 _ _ _ (((Fr.refl (fun _ => False) w8).alloc _).keep (hf8.keep hpr7.p id) id)).trans rfl
  have hF8 : Fr (fun _ => False) w w8 := hF7.trans hf8 (fun _ _ h => h)
  have hF9 : Fr (fun _ => False) w (w8.alloc (.cells #[.int .i64 5, .int .i64 3, .int .i64 0, .int .i64 1, .int .i64 0, .int .i64 0] 42)) := hF8.alloc _
  clear hc8 hv8 hf8 hF7 hE7 hU7 hpr7 hF8 hF4 hFn4 hfo hU6 hn6' hlv hPq
  unfold ST.cs
  go_wp2_with fail
  clear hq8
  generalize w8.alloc (.cells #[.int .i64 5, .int .i64 3, .int .i64 0, .int .i64 1, .int .i64 0, .int .i64 0] 42) = w9 at *
  refine (NewDisk_ok n w9).mono ?_
  rintro e w10 ⟨A2, B2, rfl, hA2, hB2, hd, hr, hf10⟩
  have en : nblk n = n := by unfold nblk; rw [if_neg (by omega)]; omega
  rw [en] at hd hr
  have hz9 := hF9.size
  have hF10 := hF9.trans hf10 (fun _ _ h => h)
  clear hf10
  go_wp2_with fail
  refine (pFormat_ok hd hr (by omega) (by omega) (by omega) (by omega) n8 n4).mono ?_
  rintro e w11 ⟨v11, rfl, hv11, bs11, hd11, hr11, rfl, hf11⟩
  obtain rfl := err0 hv11
  have hF11 : Fr (fun _ => False) w w11 := hF10.trans hf11 (fun b _ h => by omega)
  clear hf11 hd hr hF10
  go_wp2_with fail
  refine (open0 (Pp := Pp) pause hp1 hp2 hd11 hr11 (by omega) (by omega) (by omega) (by omega) n8 n4).mono ?_
  rintro e w12 ⟨X2, F2, rfl, hE12, hU12, hFn12, hf12⟩
  have HQ : Hid (BegunQ w n Pp pause (.returned (.tuple #[.pointer (some ⟨A2, 0, none⟩), .pointer (some ⟨X2, 0, none⟩)])) w12) := ⟨X2, A2, B2, F2, rfl, hE12, hU12, fun b hb => Nat.le_trans hF11.size (hFn12 b hb), by omega, by omega, hF11.trans hf12 (fun b _ h => by omega)⟩
  clear hE12 hU12 hFn12 hf12 hd11 hr11 hF11
  go_wp2
  go_ret2
  exact HQ.out
end Go.Proofs.YteebjgfalllbjaaGreatDoor
