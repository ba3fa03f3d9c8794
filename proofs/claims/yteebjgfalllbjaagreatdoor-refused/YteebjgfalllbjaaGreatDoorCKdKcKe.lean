import Derived.Test.YteebjgfalllbjaaGreatDoorCKbPaAs1
import Derived.Test.YteebjgfalllbjaaGreatDoorCTjTmKa
import Derived.Test.YteebjgfalllbjaaGreatDoorCAsWTlFm
import Derived.Test.YteebjgfalllbjaaGreatDoorCNsNtOwn
import Derived.Laws.IdiomStrings
import Derived.Laws.AppendOwnNone
namespace Go.Proofs.YteebjgfalllbjaaGreatDoor
open Go.RowKit
def NewPrtQ (w : World) (rl : List Int) (e : Ending) (w' : World) : Prop := ∃ Pp lv, e = .returned (.pointer (some ⟨Pp, 0, none⟩)) ∧ w.heap.size ≤ Pp ∧ PrtAt w' Pp w.heap.size (.slice none 0 0) (.slice none 0 0) lv [] [] rl 0 ∧ (∀ b, lv.ownBlock = some b → w.heap.size ≤ b) ∧ Fr (fun _ => False) w w'
set_option maxRecDepth 100000 in
set_option maxHeartbeats 1000000 in
/-- A new partner has a copy of the numbers by which it replies. -/
theorem NewPartner_rows {w : World} {b0 : Nat} {rv : Value} {rl : List Int} (ho : w.ownsRow b0 3 1 rv rl.length (rl.map fun x => Value.int .i64 x)) (hr : rl.length < 1000000) :
    Calls Tryz.prog 18 #[rv] w fun e w' => NewPrtQ w rl e w' := by
  obtain ⟨i0, hi, hz0, hz1, hz2⟩ := info_parts int_info
  have h1 : ∀ v ∈ rl.map (fun x => Value.int .i64 x), v.oneCell' = true := fun v hv => by
    obtain ⟨x, _, rfl⟩ := List.mem_map.1 hv
    rfl
  rcases ho.2 with ⟨rfl, h0⟩ | ⟨g, cap, cur, rfl, hb, hg, hnc, hcm, hcs, ht⟩
  · obtain rfl : rl = [] := List.eq_nil_of_length_eq_zero h0
    go_enter Tryz.func18, Tryz.ntmps18
    go_wp2
    go_ret
    exact ⟨_, .slice none 0 0, rfl, Nat.le_refl _, ⟨heap_alloc_at _ _, World.ownsRow_nil _ _ _ _, World.ownsRow_nil _ _ _ _, World.ownsRow_nil _ _ _ _⟩, (fun b hb => nomatch hb), (Fr.refl _ _).alloc _⟩
  · have hc := ho.cells (g := g) rfl
    have hlen := ho.1
    generalize hrxs : rl.map (fun x => Value.int .i64 x) = rxs at *
    generalize hrn : rl.length = r at *
    have HX : Hid (rl.map (fun x => Value.int .i64 x) = rxs ∧ rl.length = r) := ⟨hrxs, hrn⟩
    clear hrxs hrn
    go_enter Tryz.func18, Tryz.ntmps18
    go_wp2_with (first | (at_builtin; refine wpList_append_own w rfl (.const (.slice none 0 0)) (.tmp 3) 24 rfl w.heap.size 3 i0 (.int .i64 0) 1 8 Tryz.underlying24 hi hz0 hz1 hz2 rfl (by decide) (.slice none 0 0) 0 [] rfl (World.ownsRow_nil _ _ _ _) ⟨g, 0, none⟩ r cap rxs rfl ?_ hc h1 ?_ ?_ ?_ ?_; (omega); (unfold maxLen; omega); omega; exact Nat.le_refl _; intro v' w1 hown' hgrow _; obtain ⟨ao, nn, cc, rfl⟩ : ∃ ao nn cc, v' = .slice ao nn cc := by (rcases hown'.2 with ⟨rfl, _⟩ | ⟨_, _, _, rfl, _⟩ <;> exact ⟨_, _, _, rfl⟩)))
    go_ret
    have hown2 : w1.ownsRow w.heap.size 3 1 (.slice ao nn cc) rl.length (rl.map fun x => Value.int .i64 x) := by
      rw [HX.out.1, HX.out.2]
      simpa using hown'
    exact ⟨_, .slice ao nn cc, rfl, hgrow.size, ⟨heap_alloc_at _ _, World.ownsRow_nil _ _ _ _, World.ownsRow_nil _ _ _ _, hown2.alloc _⟩, fun b hb => (hown2.lt b hb).1, ((Fr.refl _ _).grown hgrow (fun _ _ h => by cases h)).alloc _⟩
section
variable {w : World} {Pp b0 : Nat}
/-- A partner's blocks, its log, what it did, how many it was asked for. -/
structure PSt where
  log : List (CL × Nat)
  eff : List CL
  at' : Nat
def PrtI (Pp b0 : Nat) (rl : List Int) (s : PSt) (F : Nat → Prop) (w : World) : Prop := b0 ≤ w.heap.size ∧ ∃ lg ef l, PrtAt w Pp b0 lg ef l s.log s.eff rl s.at' ∧ ∀ b, F b ↔ PartF Pp lg ef l b
theorem PrtAt.ty {lg ef l : Value} {log : List (CL × Nat)} {eff : List CL} {rl : List Int} {a : Int} (h : PrtAt w Pp b0 lg ef l log eff rl a) {b : Nat} (hb : PartF Pp lg ef l b) : ∃ c t, w.heap[b]? = some (.cells c t (0, 0)) ∧ PT t := by
  rcases hb with rfl | hb | hb | hb
  · exact ⟨_, _, h.p, .inl rfl⟩
  · obtain ⟨c, hc⟩ := own_ty h.lo hb
    exact ⟨_, _, hc, .inr (.inl rfl)⟩
  · obtain ⟨c, hc⟩ := own_ty h.eo hb
    exact ⟨_, _, hc, .inr (.inr (.inl rfl))⟩
  · obtain ⟨c, hc⟩ := own_ty h.la hb
    exact ⟨_, _, hc, .inr (.inr (.inr rfl))⟩
theorem PrtAt.fr {lg ef l : Value} {log : List (CL × Nat)} {eff : List CL} {rl : List Int} {a : Int} {S : Nat → Prop} {w' : World} (h : PrtAt w Pp b0 lg ef l log eff rl a) (hf : Fr S w w') (hS : ∀ b, PartF Pp lg ef l b → ¬ S b) : PrtAt w' Pp b0 lg ef l log eff rl a :=
  ⟨hf.keep h.p (hS _ (.inl rfl)), own_fr h.lo hf (fun b _ _ hb => hS b (.inr (.inl hb))), own_fr h.eo hf (fun b _ _ hb => hS b (.inr (.inr (.inl hb)))), own_fr h.la hf (fun b _ _ hb => hS b (.inr (.inr (.inr hb))))⟩
/-- The number by which a partner replies. -/
def kOf (rl : List Int) (a : Nat) : Int := if rl = [] then 0 else rl.getD (a % rl.length) 0 % 6
def nOf (rl : List Int) (a : Nat) : Nat := if rl = [] then a else a + 1
def pAsk (rl : List Int) (s : PSt) (c : CL) : Nat × PSt := (askR (kOf rl s.at') (s.eff.any (·.same c)) c.back, ⟨s.log ++ [(c, askR (kOf rl s.at') (s.eff.any (·.same c)) c.back)], askE (kOf rl s.at') (s.eff.any (·.same c)) s.eff c, nOf rl s.at'⟩)
theorem askR_le (k : Int) (d b : Bool) : askR k d b ≤ 2 := by
  unfold askR
  split <;> (split <;> try omega)
  split <;> (try omega)
  split <;> omega
theorem askE_le (k : Int) (d : Bool) (eff : List CL) (c : CL) : (askE k d eff c).length ≤ eff.length + 1 := by
  unfold askE
  split
  · omega
  · simp
/-- What Ask must answer. -/
def AskOk (Pp b0 : Nat) (rl : List Int) : Prop := ∀ (w : World) (lg ef l : Value) (log : List (CL × Nat)) (eff : List CL) (a : Nat) (c : CL), PrtAt w Pp b0 lg ef l log eff rl a → b0 ≤ w.heap.size → log.length ≤ 1000000 → eff.length ≤ 1000000 → a ≤ 1000000 →
  Calls Tryz.prog 47 #[.pointer (some ⟨Pp, 0, none⟩), .agg c.cs.toArray] w fun e w' => e = .returned (.int .i64 (askR (kOf rl a) (eff.any (·.same c)) c.back : Nat)) ∧ ∃ ef', AskQ w Pp b0 lg ef l log rl (nOf rl a : Nat) c (askR (kOf rl a) (eff.any (·.same c)) c.back) ef' (askE (kOf rl a) (eff.any (·.same c)) eff c) w'
theorem ask_nil_ok : AskOk Pp b0 [] := fun _ _ _ _ _ _ _ c h hb hl he _ => Ask_nil h hb hl he rfl c
def askV (Pp : Nat) : Value := .func (.func 47) #[.pointer (some ⟨Pp, 0, none⟩)] #[]
/-- A partner that is asked by its method Ask. -/
def ptn {Pp b0 : Nat} {rl : List Int} (H : AskOk Pp b0 rl) : Ptn (askV Pp) where
  σ := PSt
  PA := PrtI Pp b0 rl
  sz s := max (max s.log.length s.eff.length) s.at'
  ask := pAsk rl
  fr := by
    rintro S F w w' s ⟨hb, lg, ef, l, h, hF⟩ hf hS
    exact ⟨Nat.le_trans hb hf.size, lg, ef, l, h.fr hf (fun b hb => hS b ((hF b).2 hb)), hF⟩
  ty := by
    rintro F w s b ⟨hb, lg, ef, l, h, hF⟩ hFb
    exact h.ty ((hF b).1 hFb)
  le := fun s c => askR_le _ _ _
  szs := fun s c => by
    have h1 := askE_le (kOf rl s.at') (s.eff.any (·.same c)) s.eff c
    have h2 : nOf rl s.at' ≤ s.at' + 1 := by unfold nOf; split <;> omega
    show max (max (s.log ++ [(c, askR (kOf rl s.at') (s.eff.any (·.same c)) c.back)]).length (askE (kOf rl s.at') (s.eff.any (·.same c)) s.eff c).length) (nOf rl s.at') ≤ max (max s.log.length s.eff.length) s.at' + 1
    rw [List.length_append, List.length_singleton]
    omega
  rep := by
    rintro F w s X J R clock pause c ⟨hb, lg, ef, l, h, hF⟩ hsz he
    have hsz' : max (max s.log.length s.eff.length) s.at' < 1000000 := hsz
    have hFX : ¬ F X := fun hX => by
      obtain ⟨c', t, hc, ht⟩ := h.ty ((hF X).1 hX)
      have := hc.symm.trans he
      simp at this
      rw [this.2] at ht
      revert ht
      unfold PT
      decide
    refine (reply_ask c he (F := F) (Q := fun k W => k = ((pAsk rl s c).1 : Nat) ∧ ∃ F', PrtI Pp b0 rl (pAsk rl s c).2 F' W ∧ ∀ b, F' b → F b ∨ w.heap.size + 2 ≤ b) (fun W hf hs2 => ?_) hFX (fun b hb => ?_) ?_).mono ?_
    · have hW : PrtAt W Pp b0 lg ef l s.log s.eff rl s.at' := h.fr hf (fun _ _ h => h)
      refine (H W lg ef l s.log s.eff s.at' c hW (Nat.le_trans hb hf.size) (by omega) (by omega) (by omega)).mono ?_
      rintro e w' ⟨rfl, ef', lg', hp', hfr, hl1, hl2⟩
      refine ⟨_, rfl, hfr.mono (fun b _ h => (hF b).2 h), rfl, PartF Pp lg' ef' l, ⟨Nat.le_trans (Nat.le_trans hb hf.size) hfr.size, lg', ef', l, hp', fun b => Iff.rfl⟩, ?_⟩
      rintro b (h | h | h | h)
      · exact .inl ((hF b).2 (.inl h))
      · exact (hl1 b h).imp (fun h => (hF b).2 h) (fun h => by omega)
      · exact (hl2 b h).imp (fun h => (hF b).2 h) (fun h => by omega)
      · exact .inl ((hF b).2 (.inr (.inr (.inr h))))
    · obtain ⟨c', t, hc, _⟩ := h.ty ((hF b).1 hb)
      exact lt_of_heap hc
    · rintro k W W' ⟨hk, F', ⟨hb', lg', ef', l', h', hF'⟩, hg⟩ hfW
      refine ⟨hk, F', ⟨Nat.le_trans hb' hfW.size, lg', ef', l', h'.fr hfW (fun b hb e => ?_), hF'⟩, hg⟩
      rcases hg b ((hF' b).2 hb) with h5 | h5
      · obtain ⟨c', t, hc, _⟩ := h.ty ((hF b).1 h5)
        have := lt_of_heap hc
        omega
      · omega
    · rintro e w' ⟨k, rfl, hfr, rfl, F', hP, hg⟩
      exact ⟨rfl, hfr, F', hP, fun b hb => (hg b hb).imp id (fun h => by omega)⟩
end
end Go.Proofs.YteebjgfalllbjaaGreatDoor
namespace Go.Proofs.YteebjgfalllbjaaGreatDoor
open Go.RowKit
def I64 (z : Int) : Prop := -9223372036854775808 ≤ z ∧ z ≤ 9223372036854775807
theorem i64_wf {n : Int} (h : (Lit.int .i64 n).wf = true) : I64 n := by
  simp only [Lit.wf, Bool.and_eq_true, decide_eq_true_eq] at h
  exact h
/-- Which of n things a raw number speaks of. -/
def kpk (c n : Int) : Int := (if c < 0 then -(c + 1) else c) % n
theorem kpk_in (c n : Int) (hn : 0 < n) : 0 ≤ kpk c n ∧ kpk c n < n := ⟨Int.emod_nonneg _ (by omega), Int.emod_lt_of_pos _ hn⟩
theorem kPick_ok (c n : Int) (w : World) (h1 : -9223372036854775808 ≤ c) (h2 : c ≤ 9223372036854775807) (hn : 0 < n) (hn2 : n ≤ 1000000000000) :
    Calls Tryz.prog 19 #[.int .i64 c, .int .i64 n] w fun e w' => e = .returned (.int .i64 (kpk c n)) ∧ w' = w := by
  have hn0 : ¬ n = 0 := by omega
  by_cases hc : c < 0
  · have ht : kpk c n = -(c + 1).tmod n := by
      rw [← Int.neg_tmod, kpk, if_pos hc, Int.tmod_eq_emod_of_nonneg (by omega)]
    have HT : Hid (kpk c n = -(c + 1).tmod n) := ht
    clear ht
    go_enter Tryz.func19, Tryz.ntmps19
    go_wp2
    go_ret
    exact ⟨by rw [HT.out]; rfl, rfl⟩
  · have HT : Hid (kpk c n = c % n) := by show kpk c n = c % n; rw [kpk, if_neg hc]
    go_enter Tryz.func19, Tryz.ntmps19
    go_wp2
    go_ret
    exact ⟨by rw [HT.out]; rfl, rfl⟩
/-- How many steps a saga has. -/
def kmn (c id : Int) : Nat := 1 + (kpk c 1048576 / (1 + 5 * id) % 6).toNat
theorem kmn_in (c id : Int) : 1 ≤ kmn c id ∧ kmn c id ≤ 6 := by
  have h1 : kpk c 1048576 / (1 + 5 * id) % 6 < 6 := Int.emod_lt_of_pos _ (by decide)
  unfold kmn
  omega
theorem kMany_ok (c id : Int) (w : World) (h1 : -9223372036854775808 ≤ c) (h2 : c ≤ 9223372036854775807) (hi : 0 ≤ id) (hi2 : id ≤ 1000) :
    Calls Tryz.prog 27 #[.int .i64 c, .int .i64 id] w fun e w' => e = .returned (.int .i64 (kmn c id)) ∧ w' = w := by
  obtain ⟨p, hp⟩ : ∃ p, p = kpk c 1048576 := ⟨_, rfl⟩
  obtain ⟨p0, p1⟩ := kpk_in c 1048576 (by decide)
  rw [← hp] at p0 p1
  have h0 : 0 ≤ p / (1 + 5 * id) := Int.ediv_nonneg p0 (by omega)
  have h3 : p / (1 + 5 * id) < 1048576 := Int.lt_of_le_of_lt (Int.ediv_le_self _ p0) p1
  have HE : Hid ((kmn c id : Int) = 1 + p / (1 + 5 * id) % 6) := by
    show (kmn c id : Int) = _
    have h4 : 0 ≤ p / (1 + 5 * id) % 6 := Int.emod_nonneg _ (by decide)
    rw [kmn, ← hp]; push_cast; omega
  rw [HE.out]
  have hd : (p.tdiv (1 + 5 * id)).tmod 6 = p / (1 + 5 * id) % 6 := by rw [Int.tdiv_eq_ediv_of_nonneg p0, Int.tmod_eq_emod_of_nonneg h0]
  have hne : ¬ 1 + 5 * id = 0 := by omega
  have HC := (kPick_ok c 1048576 w h1 h2 (by decide) (by decide))
  rw [← hp] at HC
  clear hp HE
  go_enter Tryz.func27, Tryz.ntmps27
  go_wp2_with fail
  refine HC.mono ?_
  rintro e w' ⟨rfl, rfl⟩
  go_wp2
  go_ret
  exact ⟨by first | rfl | (rw [← hd]; rfl), rfl⟩
end Go.Proofs.YteebjgfalllbjaaGreatDoor
namespace Go.Proofs.YteebjgfalllbjaaGreatDoor
open Go.RowKit
/-- The texts of a saga's steps. -/
def kstr (a id i : Nat) : ByteArray := ⟨#[UInt8.ofNat a, UInt8.ofNat (97 + id), UInt8.ofNat (49 + i)]⟩
def kst (id n : Nat) : List SS := (List.range n).map fun i => (kstr 100 id i, kstr 117 id i)
theorem kst_len (id n : Nat) : (kst id n).length = n := by simp [kst]
theorem kst_succ (id n : Nat) : kst id (n + 1) = kst id n ++ [(kstr 100 id n, kstr 117 id n)] := by simp [kst, List.range_succ]
theorem kst_8 (id n : Nat) : ∀ p ∈ kst id n, p.1.size = 3 ∧ p.2.size = 3 := by
  intro p hp
  obtain ⟨i, _, rfl⟩ := List.mem_map.1 hp
  exact ⟨rfl, rfl⟩
theorem conv_kstr {W : World} {g : Nat} (a id i : Nat) (ha : a < 256) (hid : 97 + id < 256) (hi : 49 + i < 256) (hg : W.heap[g]? = some (.cells #[.int .u8 a, .int .u8 (97 + id), .int .u8 (49 + i)] 5 (0, 0))) :
    (convert 85 9 (.slice (some ⟨g, 0, none⟩) 3 3)).run Tryz.prog W = .ok (.string (kstr a id i)) W := by
  have h0 : W.cell? ⟨g, 0, none⟩ = some (.int .u8 a) := (cell_of_row W g 0 _ _ _ hg).trans rfl
  have h1 : W.cell? ⟨g, 1, none⟩ = some (.int .u8 (97 + id)) := (cell_of_row W g 1 _ _ _ hg).trans rfl
  have h2 : W.cell? ⟨g, 2, none⟩ = some (.int .u8 (49 + i)) := (cell_of_row W g 2 _ _ _ hg).trans rfl
  have hc := run_convert_bytes_back W 85 9 5 ⟨g, 0, none⟩ 3 [UInt8.ofNat a, UInt8.ofNat (97 + id), UInt8.ofNat (49 + i)] Tryz.underlying85 Tryz.underlying5 Tryz.underlying9 (fun j hj => by
      have hj3 : j < 3 := hj
      have e1 : a % 256 = a := Nat.mod_eq_of_lt ha
      have e2 : (97 + id) % 256 = 97 + id := Nat.mod_eq_of_lt hid
      have e3 : (49 + i) % 256 = 49 + i := Nat.mod_eq_of_lt hi
      match j, hj3 with
      | 0, _ => simpa [Addr.add, e1] using h0
      | 1, _ => simpa [Addr.add, e2] using h1
      | 2, _ => simpa [Addr.add, e3] using h2)
  exact hc
/-- Behind some steps. -/
def KsI (w : World) (id i : Nat) (lv : Value) (wr : World) : Prop := Fr (fun _ => False) w wr ∧ wr.ownsRow w.heap.size 58 2 lv i (scells (kst id i))
theorem ks_step {w wr w2 : World} {id i : Nat} {ax : Option Addr} {cx : Nat} {v2 : Value} {o1 o2 : Obj} (h : KsI w id i (.slice ax i cx) wr)
    (hown : w2.ownsRow w.heap.size 58 2 v2 (i + 1) (scells (kst id i) ++ [.string (kstr 100 id i), .string (kstr 117 id i)])) (hg : (((wr.alloc o1).alloc o2).alloc (.cells #[.string (kstr 100 id i), .string (kstr 117 id i)] 58)).grownBy w2 (Value.slice ax i cx).ownBlock) :
    KsI w id (i + 1) v2 w2 ∧ ∃ a2 c2, v2 = .slice a2 (i + 1) c2 := by
  refine ⟨⟨?_, ?_⟩, ?_⟩
  · refine (((h.1.alloc _).alloc _).alloc _).grown hg (fun k hk hb => ?_)
    have := (h.2.lt k hb).1
    omega
  · rw [kst_succ, scells_append]
    exact hown
  · rcases hown.2 with ⟨rfl, h0⟩ | ⟨g, cap, cur, rfl, _⟩
    · omega
    · exact ⟨_, _, rfl⟩
set_option maxRecDepth 100000 in
set_option maxHeartbeats 1000000 in
theorem kSteps_ok (w : World) (id n : Nat) (hid : id ≤ 20) (hn : n ≤ 20) : Calls Tryz.prog 22 #[.int .i64 id, .int .i64 n] w fun e w' => ∃ ao cap, e = .returned (.slice ao n cap) ∧ KsI w id n (.slice ao n cap) w' := by
  go_enter Tryz.func22, Tryz.ntmps22
  go_wp2
  go_loopw [5, 6] (fun lv c wr => ∃ (i : Nat) (ax : Option Addr) (cx : Nat), i ≤ n ∧ c = .int .i64 i ∧ lv = .slice ax i cx ∧ Hid (KsI w id i lv wr)) (fun _ c _ => n - (intOf c).toNat)
  case atStart => exact ⟨0, none, 0, Nat.zero_le _, rfl, rfl, Fr.refl _ _, World.ownsRow_nil _ _ _ _⟩
  case round =>
    obtain ⟨i, ax, cx, hi, rfl, rfl, HR⟩ := hrel
    by_cases hlt : i < n
    · have hlt' : (i : Int) < n := by omega
      have e1 : wrap64 (97 + (id : Int)) = 97 + id := by unfold wrap64; omega
      have e2 : (97 + (id : Int)) % 256 = 97 + id := by omega
      have e3 : wrap64 (49 + (i : Int)) = 49 + i := by unfold wrap64; omega
      have e4 : (49 + (i : Int)) % 256 = 49 + i := by omega
      have hc1 := conv_kstr (W := wr.alloc (.cells #[.int .u8 100, .int .u8 (97 + id), .int .u8 (49 + i)] 5)) (g := wr.heap.size) 100 id i (by decide) (by omega) (by omega) (heap_alloc_at _ _)
      have hc2 := conv_kstr (W := (wr.alloc (.cells #[.int .u8 100, .int .u8 (97 + id), .int .u8 (49 + i)] 5)).alloc (.cells #[.int .u8 117, .int .u8 (97 + id), .int .u8 (49 + i)] 5)) (g := wr.heap.size + 1) 117 id i (by decide) (by omega) (by omega) (by have := heap_alloc_at (wr.alloc (.cells #[.int .u8 100, .int .u8 (97 + id), .int .u8 (49 + i)] 5)) (.cells #[.int .u8 117, .int .u8 (97 + id), .int .u8 (49 + i)] 5); simpa using this)
      have HS : Hid (∀ w2 v2, w2.ownsRow w.heap.size 58 2 v2 (i + 1) (scells (kst id i) ++ [.string (kstr 100 id i), .string (kstr 117 id i)]) → (((wr.alloc (.cells #[.int .u8 100, .int .u8 (97 + id), .int .u8 (49 + i)] 5)).alloc (.cells #[.int .u8 117, .int .u8 (97 + id), .int .u8 (49 + i)] 5)).alloc (.cells #[.string (kstr 100 id i), .string (kstr 117 id i)] 58)).grownBy w2 (Value.slice ax i cx).ownBlock → KsI w id (i + 1) v2 w2 ∧ ∃ a2 c2, v2 = .slice a2 (i + 1) c2) := fun w2 v2 h1 h2 => ks_step HR.out h1 h2
      generalize kstr 100 id i = sa at *
      generalize kstr 117 id i = sb at *
      obtain ⟨inf, hi0, hz0, hz1, hz2⟩ := info_parts astep_info
      obtain ⟨W3, HW3⟩ : ∃ W3, Hid (W3 = ((wr.alloc (.cells #[.int .u8 100, .int .u8 (97 + id), .int .u8 (49 + i)] 5)).alloc (.cells #[.int .u8 117, .int .u8 (97 + id), .int .u8 (49 + i)] 5)).alloc (.cells #[.string sa, .string sb] 58)) := ⟨_, rfl⟩
      have HF : Hid (W3.ownsRow w.heap.size 58 2 (.slice ax i cx) i (scells (kst id i)) ∧ w.heap.size ≤ W3.heap.size ∧ (∀ j u, [Value.string sa, Value.string sb][j]? = some u → W3.cell? ((⟨wr.heap.size + 1 + 1, 0, none⟩ : Addr).add j) = some u)) := by
        refine ⟨by rw [HW3.out]; exact ((HR.out.2.alloc _).alloc _).alloc _, by rw [HW3.out]; have := HR.out.1.size; simp; omega, ?_⟩
        have : W3.heap[wr.heap.size + 1 + 1]? = some (.cells #[.string sa, .string sb] 58 (0, 0)) := ?_
        · exact World.news_of_block (w := W3) (B := wr.heap.size + 1 + 1) this
        rw [HW3.out]
        have := heap_alloc_at ((wr.alloc (.cells #[.int .u8 100, .int .u8 (97 + id), .int .u8 (49 + i)] 5)).alloc (.cells #[.int .u8 117, .int .u8 (97 + id), .int .u8 (49 + i)] 5)) (.cells #[.string sa, .string sb] 58)
        simpa using this
      go_wp2_with (first | (at_builtin; rw [← HW3.out]; refine wpList_append_own W3 rfl (.tmp 30) (.tmp 34) 38 rfl w.heap.size 58 inf _ 2 32 Tryz.underlying38 hi0 hz0 hz1 hz2 rfl (by decide) (.slice ax i cx) i (scells (kst id i)) rfl HF.out.1 ⟨wr.heap.size + 1 + 1, 0, none⟩ 1 1 [.string sa, .string sb] rfl rfl HF.out.2.2 (by simp [Value.oneCell']) ?_ ?_ HF.out.2.1 ?_; (unfold maxLen; omega); omega; intro v2 w2 hown2 hgrow2 _; rw [HW3.out] at hgrow2; obtain ⟨hPI, a2, cx2, rfl⟩ := HS.out w2 v2 hown2 hgrow2; have HP2 : Hid (KsI w id (i + 1) (.slice a2 (i + 1) cx2) w2) := hPI; clear hown2 hgrow2 hPI))
      go_roundw
      case rel => exact ⟨i + 1, a2, cx2, by omega, by go_num, rfl, HP2⟩
      case measure => simp [intOf]; omega
    · obtain rfl : i = n := by omega
      go_wp2
      go_ret
      exact ⟨_, _, rfl, HR.out⟩
end Go.Proofs.YteebjgfalllbjaaGreatDoor
