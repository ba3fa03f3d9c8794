import Derived.Test.YteebjgfalllbjaaGreatDoorCOwnWiOk
import Derived.Test.YteebjgfalllbjaaGreatDoorCTlLmLn
import Derived.Test.YteebjgfalllbjaaGreatDoorCWriteFlushRj
namespace Go.Proofs.YteebjgfalllbjaaGreatDoor
open Go.RowKit

def AS.zero (a : AS) : AS := ⟨a.id, a.st, a.S, 0, 0⟩
def AS.told (a : AS) : ST := ⟨a.id, a.S.1, a.S.2, a.st.length, a.tries, a.due⟩
def DK.shut (k : DK) : DK := ⟨k.A, k.B, k.Pp, k.n, k.nn, none, k.pause, k.clock, k.L, k.F, k.fl⟩
def DK.fmt (k : DK) : DK := ⟨k.A, k.B, k.Pp, k.n, false, none, 0, 0, [], k.F, k.fl⟩
def DK.flg (k : DK) (f : Bool) : DK := ⟨k.A, k.B, k.Pp, k.n, k.nn, k.x, k.pause, k.clock, k.L, k.F, f⟩
def DK.opened (k : DK) (x : Option Addr) (p : Int) (F : Nat → Prop) (f : Bool) : DK := ⟨k.A, k.B, k.Pp, k.n, false, x, p, 0, k.L.map AS.zero, F, f⟩
def DK.with (k : DK) (L : List AS) (F : Nat → Prop) : DK := ⟨k.A, k.B, k.Pp, k.n, k.nn, k.x, k.pause, k.clock, L, F, k.fl⟩
def DK.ticked (k : DK) (L : List AS) (F : Nat → Prop) : DK := ⟨k.A, k.B, k.Pp, k.n, k.nn, k.x, k.pause, k.clock + 1, L, F, k.fl⟩
/-- The engine's blocks are of its own types. -/
def FT (w : World) (lo : Nat) (F : Nat → Prop) : Prop := ∀ b, F b → lo ≤ b ∧ ∃ c t, w.heap[b]? = some (.cells c t (0, 0)) ∧ EngT t
/-- The sagas of a device are sagas, by rising ids. -/
def OkL (L : List AS) : Prop := L.Pairwise (fun a b => a.id < b.id) ∧ ∀ a ∈ L, a.S.1 ≠ 0 ∧ sagaOk a.id a.st = true
/-- A saga more. -/
def insA (a : AS) (L : List AS) : List AS := L.takeWhile (fun b => decide (b.id < a.id)) ++ a :: L.dropWhile (fun b => decide (b.id < a.id))
def StatA (L : List AS) (id : Int) (w : World) (e : Ending) (w' : World) : Prop := ∃ s v, e = .returned (.tuple #[.agg s.cs.toArray, v]) ∧ Fr (fun _ => False) w w' ∧ ((∃ a ∈ L, a.id = id ∧ s = a.told ∧ ErrAt w' v 0) ∨ ((∀ a ∈ L, a.id ≠ id) ∧ s = zST ∧ ErrAt w' v 9))
def needA (L : List AS) (k : Nat) : Nat := 4 + 2 * k + 2 + (L.map fun a => 2 * a.st.length + 2).sum
/-- What Submit answers, and what is there then. -/
def SubA (L : List AS) (id : Int) (st : List SS) (n : Nat) (k : Int) (L' : List AS) : Prop :=
  (sagaOk id st = false ∧ k = 1 ∧ L' = L) ∨ (sagaOk id st = true ∧ ∃ a ∈ L, a.id = id ∧ (k = if a.st = st then 0 else 2) ∧ L' = L) ∨
  (sagaOk id st = true ∧ (∀ a ∈ L, a.id ≠ id) ∧ ((k = 0 ∧ L' = insA ⟨id, st, (1, 1), 0, 0⟩ L) ∨ (k = 3 ∧ n < needA L st.length ∧ L' = L)))
end Go.Proofs.YteebjgfalllbjaaGreatDoor
namespace Go.Proofs.YteebjgfalllbjaaGreatDoor
open Go.RowKit
/-- A saga as it is known: that is sure. -/
def Settl (r r' : RS) : Prop := r'.id = r.id ∧ r'.sa = r.sa ∧ r'.sc = r.sc ∧ r'.st = r.st ∧ r'.S = r.S ∧ r'.tries = r.tries ∧ r'.due = r.due ∧ r'.may = [r.S] ∧ r'.mc = 1
def RelL (Q : RS → RS → Prop) (L L' : List RS) : Prop := L'.length = L.length ∧ ∀ (i : Nat) (r r' : RS), L[i]? = some r → L'[i]? = some r' → Q r r'
theorem RelL.snoc {Q : RS → RS → Prop} {L L' : List RS} {r r' : RS} (h : RelL Q L L') (hr : Q r r') : RelL Q (L ++ [r]) (L' ++ [r']) := by
  refine ⟨by simp [h.1], fun i a b ha hb => ?_⟩
  by_cases hi : i < L.length
  · rw [List.getElem?_append_left hi] at ha
    rw [List.getElem?_append_left (by rw [h.1]; exact hi)] at hb
    exact h.2 i a b ha hb
  · rw [List.getElem?_append_right (by omega)] at ha
    rw [List.getElem?_append_right (by rw [h.1]; omega), h.1] at hb
    by_cases h0 : i - L.length = 0
    · rw [h0] at ha hb; simp at ha hb; subst ha hb; exact hr
    · rw [List.getElem?_eq_none (by simp; omega)] at ha; cases ha
/-- How far the list of settled sagas is. -/
def ReI (w1 : World) (L : List RS) (i : Nat) (lv : Value) (wr : World) : Prop := ∃ L', RelL Settl (L.take i) L' ∧ wr.ownsRow w1.heap.size 223 7 lv i (rcells L') ∧ (∀ r ∈ L', MayAt wr r) ∧ Fr (fun _ => False) w1 wr
theorem re_step {w1 W : World} {L L' : List RS} {i : Nat} {r r' : RS} {v : Value} (hL : RelL Settl (L.take i) L') (hown : W.ownsRow w1.heap.size 223 7 v i (rcells L')) (hm : ∀ q ∈ L', MayAt W q) (hf : Fr (fun _ => False) w1 W) (hr : L[i]? = some r) (hF : Settl r r') (hM : MayAt W r')
    (w2 : World) (v2 : Value) (h2 : w2.ownsRow w1.heap.size 223 7 v2 (i + 1) (rcells L' ++ r'.cs)) (hg : W.grownBy w2 v.ownBlock) : ReI w1 L (i + 1) v2 w2 ∧ ∃ a2 c2, v2 = .slice a2 (i + 1) c2 := by
  obtain ⟨a2, c2, e2, _⟩ := own_shape h2
  have hfr : Fr (fun b => v.ownBlock = some b) W w2 := (Fr.refl _ _).grown hg (fun _ _ h => h)
  have hno : ∀ b c, W.heap[b]? = some (.cells c 220 (0, 0)) → ¬ v.ownBlock = some b := by
    intro b c hb e
    rcases hown.2 with ⟨rfl, _⟩ | ⟨g, cap, cur, rfl, _, hgg, _⟩
    · cases e
    · simp only [Value.ownBlock, Option.some.injEq] at e
      subst e
      rw [hgg] at hb; simp at hb
  refine ⟨⟨L' ++ [r'], ?_, ?_, ?_, ?_⟩, a2, c2, e2⟩
  · rw [List.take_add_one, hr]; exact hL.snoc hF
  · rw [rcells_append]; simpa [rcells] using h2
  · intro q hq
    rw [List.mem_append] at hq
    rcases hq with hq | hq
    · exact (hm q hq).fr hfr hno
    · simp at hq; subst hq; exact hM.fr hfr hno
  · exact hf.grown hg (fun k hk e => by have := (hown.lt k e).1; omega)
set_option maxRecDepth 100000 in
set_option maxHeartbeats 2000000 in
theorem settled_ok {w : World} {ao : Option Addr} {cap : Nat} {L : List RS} (hl : SagasAt w ao L) (hn : L.length ≤ 1000000) (hS : ∀ r ∈ L, r.S.1 ≠ 0) :
    Calls Tryz.prog 129 #[.slice ao L.length cap] w fun e w' => ∃ Lv L', e = .returned Lv ∧ RelL Settl L L' ∧ w'.ownsRow w.heap.size 223 7 Lv L.length (rcells L') ∧ (∀ r ∈ L', MayAt w' r) ∧ Fr (fun _ => False) w w' := by
  have HL : Hid (SagasAt w ao L) := hl
  have HSN : Hid (∀ r ∈ L, r.S.1 ≠ 0) := hS
  have HI : Hid (ReI w L 0 (.slice none 0 0) w) := ⟨[], ⟨by simp, fun i r r' h => by simp at h⟩, World.ownsRow_nil _ _ _ _, (fun r hr => absurd hr (by simp)), Fr.refl _ _⟩
  clear hl hS
  go_enter Tryz.func129, Tryz.ntmps129
  go_wp2
  go_loopw [3, 4] (fun lv c wr => ∃ (i : Nat) (ax : Option Addr) (cx : Nat), i ≤ L.length ∧ lv = .slice ax i cx ∧ c = .int .i64 i ∧ Hid (ReI w L i lv wr)) (fun _ c _ => L.length - (intOf c).toNat)
  case atStart => exact ⟨0, none, 0, Nat.zero_le _, rfl, rfl, HI⟩
  case round =>
    obtain ⟨i, ax, cx, hi, rfl, rfl, HR⟩ := hrel
    have hFr : Fr (fun _ => False) w wr := by obtain ⟨L', _, _, _, hf⟩ := HR.out; exact hf
    by_cases hlt : i < L.length
    · have hlt' : (i : Int) < L.length := by omega
      obtain ⟨r, hr⟩ : ∃ r, L[i]? = some r := ⟨_, List.getElem?_eq_getElem hlt⟩
      obtain ⟨g, off, rfl, hrg⟩ := HL.out.get hr
      obtain ⟨s0, s1, s2, s3, s4, s5, s6⟩ := seven_of (range_fr hrg hFr)
      have hS0 := HSN.out r (List.mem_of_getElem? hr)
      have HSS : Hid (L[i]? = some r) := hr
      clear hrg hr
      obtain ⟨r', HR'⟩ : ∃ r' : RS, Hid (r' = { r with ma := some ⟨wr.heap.size + 1, 0, none⟩, mc := 1, may := [r.S] }) := ⟨_, rfl⟩
      have hm9 : ((wr.alloc (.cells #[.int .i64 r.id, .slice r.sa r.st.length r.sc, .int .i64 r.S.1, .int .i64 r.S.2, .int .i64 r.tries, .int .i64 r.due, .slice (some ⟨wr.heap.size + 1, 0, none⟩) 1 1] 223)).alloc (.cells #[.int .i64 r.S.1, .int .i64 r.S.2] 220)).heap[wr.heap.size + 1]? = some (.cells #[.int .i64 r.S.1, .int .i64 r.S.2] 220 (0, 0)) := heap_alloc2_new wr _ _
      have hma : MayAt ((wr.alloc (.cells #[.int .i64 r.id, .slice r.sa r.st.length r.sc, .int .i64 r.S.1, .int .i64 r.S.2, .int .i64 r.tries, .int .i64 r.due, .slice (some ⟨wr.heap.size + 1, 0, none⟩) 1 1] 223)).alloc (.cells #[.int .i64 r.S.1, .int .i64 r.S.2] 220)) r' := by rw [HR'.out]; exact ⟨wr.heap.size + 1, rfl, hm9⟩
      have hse : Settl r r' := by rw [HR'.out]; exact ⟨rfl, rfl, rfl, rfl, rfl, rfl, rfl, rfl, rfl⟩
      have hcs : r'.cs = [.int .i64 r.id, .slice r.sa r.st.length r.sc, .int .i64 r.S.1, .int .i64 r.S.2, .int .i64 r.tries, .int .i64 r.due, .slice (some ⟨wr.heap.size + 1, 0, none⟩) 1 1] := by rw [HR'.out]; rfl
      have hf9 : Fr (fun _ => False) wr ((wr.alloc (.cells #[.int .i64 r.id, .slice r.sa r.st.length r.sc, .int .i64 r.S.1, .int .i64 r.S.2, .int .i64 r.tries, .int .i64 r.due, .slice (some ⟨wr.heap.size + 1, 0, none⟩) 1 1] 223)).alloc (.cells #[.int .i64 r.S.1, .int .i64 r.S.2] 220)) := ((Fr.refl _ _).alloc _).alloc _
      obtain ⟨L', hFL, hown, hmay, hfL⟩ := HR.out
      obtain ⟨inf, hi0, hz0, hz1, hz2⟩ := info_parts saga_info
      have HAP : Hid ((((wr.alloc (.cells #[.int .i64 r.id, .slice r.sa r.st.length r.sc, .int .i64 r.S.1, .int .i64 r.S.2, .int .i64 r.tries, .int .i64 r.due, .slice (some ⟨wr.heap.size + 1, 0, none⟩) 1 1] 223)).alloc (.cells #[.int .i64 r.S.1, .int .i64 r.S.2] 220)).alloc (.cells #[.int .i64 r.id, .slice r.sa r.st.length r.sc, .int .i64 r.S.1, .int .i64 r.S.2, .int .i64 r.tries, .int .i64 r.due, .slice (some ⟨wr.heap.size + 1, 0, none⟩) 1 1] 223)).ownsRow w.heap.size 223 7 (.slice ax i cx) i (rcells L') ∧ w.heap.size ≤ (((wr.alloc (.cells #[.int .i64 r.id, .slice r.sa r.st.length r.sc, .int .i64 r.S.1, .int .i64 r.S.2, .int .i64 r.tries, .int .i64 r.due, .slice (some ⟨wr.heap.size + 1, 0, none⟩) 1 1] 223)).alloc (.cells #[.int .i64 r.S.1, .int .i64 r.S.2] 220)).alloc (.cells #[.int .i64 r.id, .slice r.sa r.st.length r.sc, .int .i64 r.S.1, .int .i64 r.S.2, .int .i64 r.tries, .int .i64 r.due, .slice (some ⟨wr.heap.size + 1, 0, none⟩) 1 1] 223)).heap.size ∧ (∀ j u, r'.cs[j]? = some u → (((wr.alloc (.cells #[.int .i64 r.id, .slice r.sa r.st.length r.sc, .int .i64 r.S.1, .int .i64 r.S.2, .int .i64 r.tries, .int .i64 r.due, .slice (some ⟨wr.heap.size + 1, 0, none⟩) 1 1] 223)).alloc (.cells #[.int .i64 r.S.1, .int .i64 r.S.2] 220)).alloc (.cells #[.int .i64 r.id, .slice r.sa r.st.length r.sc, .int .i64 r.S.1, .int .i64 r.S.2, .int .i64 r.tries, .int .i64 r.due, .slice (some ⟨wr.heap.size + 1, 0, none⟩) 1 1] 223)).cell? ((⟨wr.heap.size + 1 + 1, 0, none⟩ : Addr).add j) = some u) ∧
          (∀ w2 v2, w2.ownsRow w.heap.size 223 7 v2 (i + 1) (rcells L' ++ r'.cs) → (((wr.alloc (.cells #[.int .i64 r.id, .slice r.sa r.st.length r.sc, .int .i64 r.S.1, .int .i64 r.S.2, .int .i64 r.tries, .int .i64 r.due, .slice (some ⟨wr.heap.size + 1, 0, none⟩) 1 1] 223)).alloc (.cells #[.int .i64 r.S.1, .int .i64 r.S.2] 220)).alloc (.cells #[.int .i64 r.id, .slice r.sa r.st.length r.sc, .int .i64 r.S.1, .int .i64 r.S.2, .int .i64 r.tries, .int .i64 r.due, .slice (some ⟨wr.heap.size + 1, 0, none⟩) 1 1] 223)).grownBy w2 (Value.slice ax i cx).ownBlock → ReI w L (i + 1) v2 w2 ∧ ∃ a2 c2, v2 = .slice a2 (i + 1) c2)) := by
        have hf9a : Fr (fun _ => False) wr (((wr.alloc (.cells #[.int .i64 r.id, .slice r.sa r.st.length r.sc, .int .i64 r.S.1, .int .i64 r.S.2, .int .i64 r.tries, .int .i64 r.due, .slice (some ⟨wr.heap.size + 1, 0, none⟩) 1 1] 223)).alloc (.cells #[.int .i64 r.S.1, .int .i64 r.S.2] 220)).alloc (.cells #[.int .i64 r.id, .slice r.sa r.st.length r.sc, .int .i64 r.S.1, .int .i64 r.S.2, .int .i64 r.tries, .int .i64 r.due, .slice (some ⟨wr.heap.size + 1, 0, none⟩) 1 1] 223)) := hf9.alloc _
        have ho := own_fr2 hown hf9a (fun _ _ h => h)
        have hfa := hfL.trans hf9a (fun _ _ h => h)
        refine ⟨ho, hfa.size, ?_, fun w2 v2 h2 hg => re_step hFL ho (fun q hq => (hmay q hq).fr hf9a (fun _ _ _ h => h)) hfa HSS.out hse (hma.fr ((Fr.refl (fun _ => False) _).alloc _) (fun _ _ _ h => h)) w2 v2 h2 hg⟩
        rw [hcs]
        have hx := heap_alloc_at ((wr.alloc (.cells #[.int .i64 r.id, .slice r.sa r.st.length r.sc, .int .i64 r.S.1, .int .i64 r.S.2, .int .i64 r.tries, .int .i64 r.due, .slice (some ⟨wr.heap.size + 1, 0, none⟩) 1 1] 223)).alloc (.cells #[.int .i64 r.S.1, .int .i64 r.S.2] 220)) (.cells #[.int .i64 r.id, .slice r.sa r.st.length r.sc, .int .i64 r.S.1, .int .i64 r.S.2, .int .i64 r.tries, .int .i64 r.due, .slice (some ⟨wr.heap.size + 1, 0, none⟩) 1 1] 223)
        rw [show ((wr.alloc (.cells #[.int .i64 r.id, .slice r.sa r.st.length r.sc, .int .i64 r.S.1, .int .i64 r.S.2, .int .i64 r.tries, .int .i64 r.due, .slice (some ⟨wr.heap.size + 1, 0, none⟩) 1 1] 223)).alloc (.cells #[.int .i64 r.S.1, .int .i64 r.S.2] 220)).heap.size = wr.heap.size + 1 + 1 from by simp] at hx
        exact World.news_of_block hx
      clear hFL hown hmay hfL hm9 hma hse hf9 HR'
      go_wp2_with (at_builtin; refine wpList_append_own (((wr.alloc (.cells #[.int .i64 r.id, .slice r.sa r.st.length r.sc, .int .i64 r.S.1, .int .i64 r.S.2, .int .i64 r.tries, .int .i64 r.due, .slice (some ⟨wr.heap.size + 1, 0, none⟩) 1 1] 223)).alloc (.cells #[.int .i64 r.S.1, .int .i64 r.S.2] 220)).alloc (.cells #[.int .i64 r.id, .slice r.sa r.st.length r.sc, .int .i64 r.S.1, .int .i64 r.S.2, .int .i64 r.tries, .int .i64 r.due, .slice (some ⟨wr.heap.size + 1, 0, none⟩) 1 1] 223)) rfl _ _ 107 rfl w.heap.size 223 inf _ 7 88 Tryz.underlying107 hi0 hz0 hz1 hz2 rfl (by decide) (.slice ax i cx) i (rcells L') rfl HAP.out.1 ⟨wr.heap.size + 1 + 1, 0, none⟩ 1 1 r'.cs rfl ?_ HAP.out.2.2.1 r'.one ?_ ?_ HAP.out.2.1 ?_; (rw [r'.len]); (unfold maxLen; omega); omega; intro v2 w2 hown2 hgrow2 _; obtain ⟨hPI, a2, cx2, rfl⟩ := HAP.out.2.2.2 w2 v2 hown2 hgrow2; have HP2 : Hid (ReI w L (i + 1) (.slice a2 (i + 1) cx2) w2) := hPI; clear hown2 hgrow2 hPI)
      go_roundw
      case rel => exact ⟨i + 1, a2, cx2, by omega, rfl, by go_num, HP2⟩
      case measure => simp [intOf]; omega
    · have hlt' : ¬ (i : Int) < L.length := by omega
      obtain rfl : i = L.length := by omega
      go_wp2
      go_ret
      obtain ⟨L', h1, h2, h3, h4⟩ := HR.out
      rw [List.take_length] at h1
      exact ⟨_, rfl, L', h1, h2, h3, h4⟩
end Go.Proofs.YteebjgfalllbjaaGreatDoor
namespace Go.Proofs.YteebjgfalllbjaaGreatDoor
open Go.RowKit
/-- Sagas of the document's answer at a tick: does one wait; does a reply move it; where it stands then. -/
def RS.waits (r : RS) (clock : Int) : Bool := decide (r.S.1 ≤ 2 ∧ r.due ≤ clock)
def RS.moves (r : RS) (reply : Int) : Bool := decide (reply = 0 ∨ (reply = 2 ∧ r.S.1 = 1))
def backS (s2 : Int) : SP := if s2 = 1 then (4, 0) else (2, s2 - 1)
def RS.next (r : RS) (reply : Int) : SP := if r.S.1 = 1 ∧ reply = 0 then (if r.S.2 = r.st.length then (3, 0) else (1, r.S.2 + 1)) else backS r.S.2
set_option maxRecDepth 100000 in
theorem Waits_ok (w : World) (r : RS) (clock : Int) : Calls Tryz.prog 130 #[.agg r.cs.toArray, .int .i64 clock] w fun e w' => e = .returned (.bool (r.waits clock)) ∧ Fr (fun _ => False) w w' := by
  obtain ⟨id, sa, sc, st, ⟨s1, s2⟩, tries, due, ma, mc, may⟩ := r
  have hf : Fr (fun _ => False) w (w.alloc (.cells #[.int .i64 id, .slice sa st.length sc, .int .i64 s1, .int .i64 s2, .int .i64 tries, .int .i64 due, .slice ma may.length mc] 223)) := (Fr.refl _ _).alloc _
  by_cases h1 : s1 ≤ 2
  · have ew : RS.waits ⟨id, sa, sc, st, (s1, s2), tries, due, ma, mc, may⟩ clock = decide (due ≤ clock) := by simp [RS.waits, h1]
    rw [ew]
    unfold RS.cs
    clear ew
    go_enter Tryz.func130, Tryz.ntmps130
    go_wp2
    go_ret
    exact ⟨rfl, hf⟩
  · have ew : RS.waits ⟨id, sa, sc, st, (s1, s2), tries, due, ma, mc, may⟩ clock = false := by simp [RS.waits, h1]
    rw [ew]
    unfold RS.cs
    clear ew
    go_enter Tryz.func130, Tryz.ntmps130
    go_wp2
    go_ret
    exact ⟨rfl, hf⟩
set_option maxRecDepth 100000 in
theorem rsMoves_ok (w : World) (r : RS) (reply : Int) : Calls Tryz.prog 158 #[.agg r.cs.toArray, .int .i64 reply] w fun e w' => e = .returned (.bool (r.moves reply)) ∧ Fr (fun _ => False) w w' := by
  obtain ⟨id, sa, sc, st, ⟨s1, s2⟩, tries, due, ma, mc, may⟩ := r
  have hf : Fr (fun _ => False) w (w.alloc (.cells #[.int .i64 id, .slice sa st.length sc, .int .i64 s1, .int .i64 s2, .int .i64 tries, .int .i64 due, .slice ma may.length mc] 223)) := (Fr.refl _ _).alloc _
  obtain ⟨m, hm⟩ : ∃ m, m = RS.moves ⟨id, sa, sc, st, (s1, s2), tries, due, ma, mc, may⟩ reply := ⟨_, rfl⟩
  rw [← hm]
  unfold RS.cs
  have Hm : Hid (m = RS.moves ⟨id, sa, sc, st, (s1, s2), tries, due, ma, mc, may⟩ reply) := hm
  clear hm
  by_cases h0 : reply = 0
  · subst h0
    go_enter Tryz.func158, Tryz.ntmps158
    go_wp2
    go_ret
    exact ⟨by rw [Hm.out]; simp [RS.moves], hf⟩
  · by_cases h2 : reply = 2
    · subst h2
      go_enter Tryz.func158, Tryz.ntmps158
      go_wp2
      go_ret
      exact ⟨by rw [Hm.out]; simp [RS.moves]; rfl, hf⟩
    · go_enter Tryz.func158, Tryz.ntmps158
      go_wp2
      go_ret
      exact ⟨by rw [Hm.out]; simp [RS.moves, h0, h2], hf⟩
theorem next_beq (id : Int) (sa : Option Addr) (sc : Nat) (st : List SS) (s1 s2 tries due : Int) (ma : Option Addr) (mc : Nat) (may : List SP) (reply : Int) : RS.next ⟨id, sa, sc, st, (s1, s2), tries, due, ma, mc, may⟩ reply = if ((s1 == 1) && (reply == 0)) = true then (if (s2 == (st.length : Int)) = true then (3, 0) else (1, s2 + 1)) else (if (s2 == 1) = true then (4, 0) else (2, s2 - 1)) := by simp [RS.next, backS]
set_option maxRecDepth 100000 in
theorem wrap64_id {x : Int} (h : -9223372036854775808 ≤ x ∧ x < 9223372036854775808) : wrap64 x = x := by unfold wrap64; omega
set_option maxRecDepth 100000 in
theorem rsNext_ok (w : World) (r : RS) (reply : Int) (h2 : 1 ≤ r.S.2) (h3 : r.S.2 ≤ 6) : Calls Tryz.prog 159 #[.agg r.cs.toArray, .int .i64 reply] w fun e w' => e = .returned (.agg #[.int .i64 (r.next reply).1, .int .i64 (r.next reply).2]) ∧ Fr (fun _ => False) w w' := by
  obtain ⟨id, sa, sc, st, ⟨s1, s2⟩, tries, due, ma, mc, may⟩ := r
  have hf : Fr (fun _ => False) w (w.alloc (.cells #[.int .i64 id, .slice sa st.length sc, .int .i64 s1, .int .i64 s2, .int .i64 tries, .int .i64 due, .slice ma may.length mc] 223)) := (Fr.refl _ _).alloc _
  obtain ⟨p, hp⟩ : ∃ p, p = RS.next ⟨id, sa, sc, st, (s1, s2), tries, due, ma, mc, may⟩ reply := ⟨_, rfl⟩
  rw [← hp]
  unfold RS.cs
  have Hp : Hid (p = RS.next ⟨id, sa, sc, st, (s1, s2), tries, due, ma, mc, may⟩ reply) := hp
  clear hp
  have FIN : ∀ (a b : Int) (tmps : Array Value), p = (a, b) → tmps.getD 4 undef = .pointer (some ⟨w.heap.size + 1, 0, none⟩) → (results Tryz.f159 tmps).run Tryz.prog ((w.alloc (.cells #[.int .i64 id, .slice sa st.length sc, .int .i64 s1, .int .i64 s2, .int .i64 tries, .int .i64 due, .slice ma may.length mc] 223)).alloc (.cells #[.int .i64 a, .int .i64 b] 220)) = .ok (.agg #[.int .i64 p.1, .int .i64 p.2]) ((w.alloc (.cells #[.int .i64 id, .slice sa st.length sc, .int .i64 s1, .int .i64 s2, .int .i64 tries, .int .i64 due, .slice ma may.length mc] 223)).alloc (.cells #[.int .i64 a, .int .i64 b] 220)) := fun a b tmps hp h4 => by
    rw [hp]
    refine results_cell_row Tryz.results159 tmps _ (w.heap.size + 1) 220 #[.int .i64 a, .int .i64 b] (0, 0) _ h4 ?_ Tryz.underlying220 rfl (by kernel_rfl)
    have := heap_alloc_at (w.alloc (.cells #[.int .i64 id, .slice sa st.length sc, .int .i64 s1, .int .i64 s2, .int .i64 tries, .int .i64 due, .slice ma may.length mc] 223)) (.cells #[.int .i64 a, .int .i64 b] 220)
    simpa using this
  have E1 : Hid (wrap64 (s2 + 1) = s2 + 1) := wrap64_id (by have : s2 ≤ 6 := h3; have : 1 ≤ s2 := h2; omega)
  have E2 : Hid (wrap64 (s2 - 1) = s2 - 1) := wrap64_id (by have : s2 ≤ 6 := h3; have : 1 ≤ s2 := h2; omega)
  go_enter Tryz.func159, Tryz.ntmps159
  go_wp2
  all_goals
    refine bodyPost_ret (FIN _ _ _ ?_ rfl) rfl ⟨rfl, hf.alloc _⟩
    rw [Hp.out]
    first | rw [E1.out, next_beq] | rw [E2.out, next_beq] | rw [next_beq]
    clear FIN hf Hp E1 E2
    simp only [*, Bool.and_true, Bool.and_false, Bool.false_and, Bool.false_eq_true, ite_true, ite_false]
end Go.Proofs.YteebjgfalllbjaaGreatDoor
