import Derived.Test.YteebjgfalllbjaaGreatDoorCFrRfRg
import Derived.Laws.AppendOwnNone
import Derived.Test.YteebjgfalllbjaaGreatDoorProg
import Derived.WalkSpells
import Derived.WalkLawsBesides
namespace Go.Proofs.YteebjgfalllbjaaGreatDoor
open Go.RowKit

theorem own_shape {w : World} {base e size n : Nat} {v : Value} {xs : List Value} (h : w.ownsRow base e size v n xs) : ∃ ao cap, v = .slice ao n cap ∧ (ao = none → n = 0 ∧ cap = 0) ∧ ∀ ad, ao = some ad → ad.off = 0 ∧ ad.spot = none := by
  rcases h.2 with ⟨rfl, rfl⟩ | ⟨g, cap, cur, rfl, _⟩
  · exact ⟨none, 0, rfl, fun _ => ⟨rfl, rfl⟩, fun ad h => by cases h⟩
  · refine ⟨some ⟨g, 0, none⟩, cap, rfl, (fun h => by cases h), (fun ad h => by cases h; exact ⟨rfl, rfl⟩)⟩
theorem own_fr2 {S : Nat → Prop} {w w' : World} {base e size n : Nat} {v : Value} {xs : List Value} (h : w.ownsRow base e size v n xs) (hf : Fr S w w') (hS : ∀ b, base ≤ b → ¬ S b) : w'.ownsRow base e size v n xs := by
  refine ⟨h.1, ?_⟩
  rcases h.2 with hn | ⟨g, cap, cur, rfl, hb, hg, rest⟩
  · exact .inl hn
  · exact .inr ⟨g, cap, cur, rfl, hb, hf.keep hg (hS g hb), rest⟩
theorem own_base2 {w : World} {b b' e size n : Nat} {v : Value} {xs : List Value} (h : w.ownsRow b e size v n xs) (hb : b' ≤ b) : w.ownsRow b' e size v n xs := by
  refine ⟨h.1, ?_⟩
  rcases h.2 with hn | ⟨g, cap, cur, hv, hg, rest⟩
  · exact .inl hn
  · exact .inr ⟨g, cap, cur, hv, by omega, rest⟩
/-- A row's cells, cut into pieces of one size. -/
theorem pieces_at (size : Nat) : ∀ (l : List (List Value)), (∀ x ∈ l, x.length = size) → ∀ (i : Nat) (cs : List Value), l[i]? = some cs → ∀ j v, cs[j]? = some v → l.flatten[i * size + j]? = some v
  | [], _, i, cs, h, _, _, _ => by simp at h
  | x :: r, hx, 0, cs, h, j, v, hv => by
    simp at h; subst h
    rw [Nat.zero_mul, Nat.zero_add, List.flatten_cons, List.getElem?_append_left (List.getElem?_eq_some_iff.1 hv).1]; exact hv
  | x :: r, hx, i + 1, cs, h, j, v, hv => by
    have hl := hx x (by simp)
    rw [List.flatten_cons, List.getElem?_append_right (by rw [hl]; have : size ≤ (i + 1) * size := Nat.le_mul_of_pos_left _ (by omega); omega), hl]
    have : (i + 1) * size + j - size = i * size + j := by rw [Nat.add_mul]; omega
    rw [this]
    exact pieces_at size r (fun y hy => hx y (by simp [hy])) i cs (by simpa using h) j v hv
theorem rows_of_own {w : World} {base e size n : Nat} {ao : Option Addr} {cap : Nat} {l : List (List Value)} (h : w.ownsRow base e size (.slice ao n cap) n l.flatten) (hl : ∀ x ∈ l, x.length = size) (hn : l.length ≤ n) : RowsOf w ao size l := by
  intro i cs hi
  have hin : i < l.length := (List.getElem?_eq_some_iff.1 hi).1
  obtain ⟨g, cap', hv, _, _⟩ := h.form (by omega)
  simp only [Value.slice.injEq, true_and] at hv
  obtain ⟨rfl, rfl⟩ := hv
  refine ⟨g, 0, rfl, fun j v hv => ?_⟩
  have := h.cells (g := g) rfl (i * size + j) v (pieces_at size l hl i cs hi j v hv)
  rw [Addr.add_mid, ← Nat.add_assoc] at this
  exact this
section
variable {P : Program} {w : World} {ops : Array Oper} {rest : List Oper} {o : Oper} {a : Act} {Q : Exit → Act → World → Prop}
/-- append of a slice, nil or not, to a row that is the call's own. -/
theorem wpList_append_rows (hgd : o.guard = none) (s x : Operand) (t : TypeId)
    (ho : o.op = .call { callee := .builtin .append, args := #[s, x], argTypes := #[t, t] })
    (base : Nat) (e : TypeId) (i : TypeInfo) (z : Value) (size bytes : Nat) (ht : P.underlying t = some (.slice e)) (hi : P.info? e = some i) (hz : i.zero = some z)
    (hsize : i.size = size) (hby : i.bytes = bytes) (hzs : z.cells.size = size) (hsz : 0 < size)
    (v : Value) (n : Nat) (xs : List Value) (hs : a.eval s = v) (hown : w.ownsRow base e size v n xs)
    (xa : Option Addr) (m c : Nat) (news : List Value) (hx : a.eval x = .slice xa m c) (hxa : xa = none → m = 0 ∧ c = 0) (hl : news.length = m * size) (hnews : ∀ ad, xa = some ad → ∀ j u, news[j]? = some u → w.cell? (ad.add j) = some u) (h1 : ∀ u ∈ news, u.oneCell' = true)
    (h63 : n + m ≤ maxLen) (hbytes : (n + m) * bytes ≤ 140737488355328) (hbase : base ≤ w.heap.size)
    (h : ∀ v' w', w'.ownsRow base e size v' (n + m) (xs ++ news) → w.grownBy w' v.ownBlock → wpList P ops Q rest (a.put o.dst v') w') :
    wpList P ops Q (o :: rest) a w := by
  cases xa with
  | none =>
    obtain ⟨rfl, rfl⟩ := hxa rfl
    have hnil : news = [] := List.eq_nil_of_length_eq_zero (by simpa using hl)
    subst hnil
    refine wpList_append_own_none hgd s x t ho base e i size ht hi v n xs hs hown hx ?_
    exact h v w (by simpa using hown) ⟨rfl, rfl, rfl, Nat.le_refl _, fun _ _ _ => rfl⟩
  | some ad =>
    exact wpList_append_own w hgd s x t ho base e i z size bytes ht hi hz hsize hby hzs hsz v n xs hs hown ad m c news hx hl (hnews ad rfl) h1 h63 hbytes hbase (fun v' w' h2 h3 _ => h v' w' h2 h3)
end

/-- How many blocks the document asks for. -/
def roomNeed (L : List RS) (k : Nat) : Nat := 4 + 2 * k + 2 + (L.map fun r => 2 * r.st.length + 2).sum
set_option maxRecDepth 100000 in
set_option maxHeartbeats 1000000 in
theorem rRoom_ok {w : World} {ao : Option Addr} {cap : Nat} {L : List RS} (hl : RowsOf w ao 7 (L.map RS.cs)) (hn : L.length ≤ 1000000) (hs : ∀ r ∈ L, r.st.length ≤ 1000000) (pa cl : Int) (f : Bool) (n k : Nat) (hk : k ≤ 1000000) :
    Calls Tryz.prog 128 #[.agg #[.int .i64 pa, .int .i64 cl, .bool f, .slice ao L.length cap], .int .i64 n, .int .i64 k] w fun e w' => e = .returned (.bool (decide (roomNeed L k ≤ n))) ∧ Fr (fun _ => False) w w' := by
  have HL : Hid (RowsOf w ao 7 (L.map RS.cs)) := hl
  have HS : Hid (∀ r ∈ L, r.st.length ≤ 1000000) := hs
  have HW : Hid (Fr (fun _ => False) w (w.alloc (.cells #[.int .i64 pa, .int .i64 cl, .bool f, .slice ao L.length cap] 109))) := (Fr.refl _ _).alloc _
  clear hl hs
  go_enter Tryz.func128, Tryz.ntmps128
  go_wp2
  go_loopw [7, 8] (fun q c wr => ∃ (i m : Nat), i ≤ L.length ∧ m ≤ 3000000 + i * 3000000 ∧ q = .int .i64 m ∧ c = .int .i64 i ∧ Hid (Fr (fun _ => False) (w.alloc (.cells #[.int .i64 pa, .int .i64 cl, .bool f, .slice ao L.length cap] 109)) wr) ∧ Hid (m = roomNeed (L.take i) k)) (fun _ c _ => L.length - (intOf c).toNat)
  case atStart => exact ⟨0, 4 + 2 * k + 2, Nat.zero_le _, by omega, by go_num, rfl, Fr.refl _ _, (by simp [roomNeed] : 4 + 2 * k + 2 = roomNeed (L.take 0) k)⟩
  case round =>
    obtain ⟨i, m, hi, hm, rfl, rfl, HR, HT⟩ := hrel
    have hb := HR.out.keep (heap_alloc_at w _) (fun h => h)
    have b3 : wr.cell? ⟨w.heap.size, 3, none⟩ = some (.slice ao L.length cap) := by rw [cell_of_row wr w.heap.size 3 _ _ _ hb]; rfl
    clear hb
    by_cases hlt : i < L.length
    · have hlt' : (i : Int) < L.length := by omega
      obtain ⟨r, hr⟩ : ∃ r, L[i]? = some r := ⟨_, List.getElem?_eq_getElem hlt⟩
      obtain ⟨g, off, rfl, hrg⟩ := HL.out i r.cs (by simp [hr])
      have c1 : wr.cell? ⟨g, off + i * 7 + 1, none⟩ = some (.slice r.sa r.st.length r.sc) := HR.out.cell (HW.out.cell (hrg 1 _ rfl) (fun h => h)) (fun h => h)
      clear hrg
      have hrl := HS.out r (List.mem_of_getElem? hr)
      have HN : Hid (m + 2 * r.st.length + 2 = roomNeed (L.take (i + 1)) k) := by
        show m + 2 * r.st.length + 2 = roomNeed (L.take (i + 1)) k
        rw [List.take_add_one, hr, HT.out]
        simp [roomNeed]; omega
      clear hr
      go_wp2
      go_roundw
      case rel => exact ⟨i + 1, m + 2 * r.st.length + 2, by omega, by omega, by go_num, by go_num, HR, HN⟩
      case measure => simp [intOf]; omega
    · have hlt' : ¬ (i : Int) < L.length := by omega
      obtain rfl : i = L.length := by omega
      go_wp2
      go_ret
      have e0 := HT.out
      rw [List.take_length] at e0
      refine ⟨?_, HW.out.trans HR.out (fun _ _ h => h)⟩
      rw [← e0]
      simp
end Go.Proofs.YteebjgfalllbjaaGreatDoor
namespace Go.Proofs.YteebjgfalllbjaaGreatDoor
open Go.RowKit

/-- What Submit says, but for room and the device. -/
def subsOf (f ok t same : Bool) : Int × Bool := if f then (4, false) else if !ok then (1, false) else if !t then (0, true) else if same then (0, false) else (2, false)
def SubQ (L : List RS) (f : Bool) (id : Int) (st : List SS) (w : World) (e : Ending) (w' : World) : Prop := ∃ k t, FindP L id k t ∧ (∀ same, (∀ r, L[k]? = some r → same = decide (r.st = st)) → e = .returned (.tuple #[.int .i64 (subsOf f (sagaOk id st) t same).1, .bool (subsOf f (sagaOk id st) t same).2])) ∧ Fr (fun _ => False) w w'
theorem findP_ex (L : List RS) (id : Int) : ∃ k t, FindP L id k t := by
  induction L with
  | nil => exact ⟨0, false, Nat.le_refl _, (fun j r h => absurd h (by omega)), (fun r h => by simp at h), by simp⟩
  | cons a l ih =>
    by_cases h : id ≤ a.id
    · exact ⟨0, decide (a.id = id), Nat.zero_le _, (fun j r h => absurd h (by omega)), (fun r hr => by simp at hr; subst hr; exact h), by simp⟩
    · obtain ⟨k, t, h1, h2, h3, h4⟩ := ih
      refine ⟨k + 1, t, by simpa using h1, ?_, by simpa using h3, by simpa using h4⟩
      intro j r hj hr
      cases j with
      | zero => simp at hr; subst hr; omega
      | succ j => exact h2 j r (by omega) (by simpa using hr)
set_option maxRecDepth 100000 in
set_option maxHeartbeats 1000000 in
theorem rSubmits_ok {w : World} {ao bo : Option Addr} {cap cb : Nat} {L : List RS} {st : List SS} (hl : SagasAt w ao L) (hn : L.length ≤ 1000000) (hst : RowsOf w bo 2 (st.map stv)) (pa cl : Int) (f : Bool) (id : Int) :
    Calls Tryz.prog 125 #[.agg #[.int .i64 pa, .int .i64 cl, .bool f, .slice ao L.length cap], .int .i64 id, .slice bo st.length cb] w fun e w' => SubQ L f id st w e w' := by
  have HW : Fr (fun _ => False) w (w.alloc (.cells #[.int .i64 pa, .int .i64 cl, .bool f, .slice ao L.length cap] 109)) := (Fr.refl _ _).alloc _
  have hB := heap_alloc_at w (.cells #[.int .i64 pa, .int .i64 cl, .bool f, .slice ao L.length cap] 109)
  go_enter Tryz.func125, Tryz.ntmps125
  go_wp2_with fail
  refine (rWhole_ok (hst.frz HW) id).mono ?_
  rintro e w1 ⟨rfl, hf1⟩
  have hF1 := HW.trans hf1 (fun _ _ h => h)
  have hB1 := hf1.keep hB (fun h => h)
  have b0 : w1.cell? ⟨w.heap.size, 0, none⟩ = some (.int .i64 pa) := by rw [cell_of_row w1 w.heap.size 0 _ _ _ hB1]; rfl
  have b1 : w1.cell? ⟨w.heap.size, 1, none⟩ = some (.int .i64 cl) := by rw [cell_of_row w1 w.heap.size 1 _ _ _ hB1]; rfl
  have b2 : w1.cell? ⟨w.heap.size, 2, none⟩ = some (.bool f) := by rw [cell_of_row w1 w.heap.size 2 _ _ _ hB1]; rfl
  have b3 : w1.cell? ⟨w.heap.size, 3, none⟩ = some (.slice ao L.length cap) := by rw [cell_of_row w1 w.heap.size 3 _ _ _ hB1]; rfl
  obtain ⟨ok, hok⟩ : ∃ ok, sagaOk id st = ok := ⟨_, rfl⟩
  rw [hok]
  have HOK : Hid (sagaOk id st = ok) := hok
  have HF1 : Hid (Fr (fun _ => False) w w1) := hF1
  have HL : Hid (SagasAt w ao L) := hl
  have HST : Hid (RowsOf w bo 2 (st.map stv)) := hst
  have HB1 : Hid (w1.heap[w.heap.size]? = some (.cells #[.int .i64 pa, .int .i64 cl, .bool f, .slice ao L.length cap] 109 (0, 0))) := hB1
  clear HW hB hf1 hF1 hok hl hst hB1
  cases f
  · cases ok
    · go_wp2
      go_ret2
      obtain ⟨k, t, hp⟩ := findP_ex L id
      exact ⟨k, t, hp, fun same _ => by rw [HOK.out]; rfl, HF1.out⟩
    · go_wp2_with fail
      refine (rFind_ok ((HL.out.r).frz HF1.out) hn pa cl false id).mono ?_
      rintro e w2 ⟨k, t, rfl, hp, hf2⟩
      have HF2 : Hid (Fr (fun _ => False) w w2) := HF1.out.trans hf2 (fun _ _ h => h)
      have HP : Hid (FindP L id k t) := hp
      have hB2 := hf2.keep HB1.out (fun h => h)
      have d3 : w2.cell? ⟨w.heap.size, 3, none⟩ = some (.slice ao L.length cap) := by rw [cell_of_row w2 w.heap.size 3 _ _ _ hB2]; rfl
      clear b0 b1 b2 b3 hp hf2 hB2
      cases t
      · go_wp2
        go_ret2
        exact ⟨k, false, HP.out, fun same _ => by rw [HOK.out]; rfl, HF2.out⟩
      · obtain ⟨r, hr, hid⟩ := HP.out.2.2.2.1 rfl
        obtain ⟨g, off, rfl, hrg⟩ := (HL.out.frz HF2.out).get hr
        have c1 : w2.cell? ⟨g, off + k * 7 + 1, none⟩ = some (.slice r.sa r.st.length r.sc) := hrg 1 _ rfl
        have hkl : k < L.length := (List.getElem?_eq_some_iff.1 hr).1
        have hkl' : (k : Int) < L.length := by omega
        have hrm := List.mem_of_getElem? hr
        have HR : Hid (L[k]? = some r) := hr
        clear hrg hr hid
        go_wp2_with fail
        refine (rSame_ok (((HL.out.s r hrm)).frz HF2.out) (HST.out.frz HF2.out) (HL.out.n r hrm)).mono ?_
        rintro e w3 ⟨rfl, hf3⟩
        have HF3 : Hid (Fr (fun _ => False) w w3) := HF2.out.trans hf3 (fun _ _ h => h)
        obtain ⟨sm, hsm⟩ : ∃ sm, decide (r.st = st) = sm := ⟨_, rfl⟩
        rw [hsm]
        have HSM : Hid (decide (r.st = st) = sm) := hsm
        clear hsm hf3 c1 d3 hrm
        have fin : ∀ same, (∀ r, L[k]? = some r → same = decide (r.st = st)) → same = sm := fun same hs => by rw [hs r HR.out, HSM.out]
        have FIN : Hid (∀ same, (∀ r, L[k]? = some r → same = decide (r.st = st)) → same = sm) := fin
        clear fin
        cases sm
        · go_wp2
          go_ret2
          exact ⟨k, true, HP.out, fun same hs => by rw [FIN.out same hs, HOK.out]; rfl, HF3.out⟩
        · go_wp2
          go_ret2
          exact ⟨k, true, HP.out, fun same hs => by rw [FIN.out same hs, HOK.out]; rfl, HF3.out⟩
  · go_wp2
    go_ret2
    obtain ⟨k, t, hp⟩ := findP_ex L id
    exact ⟨k, t, hp, fun same _ => rfl, HF1.out⟩
end Go.Proofs.YteebjgfalllbjaaGreatDoor
namespace Go.Proofs.YteebjgfalllbjaaGreatDoor
open Go.RowKit

/-- The cells of a disk in memory. -/
def dcells (B n : Nat) (cache : Value) (calls writes : Int) : Array Value :=
  #[.slice (some ⟨B, 0, none⟩) n n, cache, .int .i64 calls, .int .i64 writes, .int .i64 0, .int .i64 (-1), .int .i64 0, .int .i64 0]
/-- A disk lies at block A: its blocks at B, n of them. -/
def DiskAt (w : World) (A B n : Nat) (cache : Value) (calls writes : Int) : Prop :=
  w.heap[A]? = some (.cells (dcells B n cache calls writes) 96 (0, 0))

section
variable {w : World} {A B n : Nat} {cache : Value} {calls writes : Int}
theorem DiskAt.c0 (h : DiskAt w A B n cache calls writes) : w.cell? ⟨A, 0, none⟩ = some (.slice (some ⟨B, 0, none⟩) n n) := by rw [cell_of_row w A 0 _ _ _ h]; rfl
theorem DiskAt.c1 (h : DiskAt w A B n cache calls writes) : w.cell? ⟨A, 1, none⟩ = some cache := by rw [cell_of_row w A 1 _ _ _ h]; rfl
theorem DiskAt.c2 (h : DiskAt w A B n cache calls writes) : w.cell? ⟨A, 2, none⟩ = some (.int .i64 calls) := by rw [cell_of_row w A 2 _ _ _ h]; rfl
theorem DiskAt.c3 (h : DiskAt w A B n cache calls writes) : w.cell? ⟨A, 3, none⟩ = some (.int .i64 writes) := by rw [cell_of_row w A 3 _ _ _ h]; rfl
theorem DiskAt.c4 (h : DiskAt w A B n cache calls writes) : w.cell? ⟨A, 4, none⟩ = some (.int .i64 0) := by rw [cell_of_row w A 4 _ _ _ h]; rfl
theorem DiskAt.c5 (h : DiskAt w A B n cache calls writes) : w.cell? ⟨A, 5, none⟩ = some (.int .i64 (-1)) := by rw [cell_of_row w A 5 _ _ _ h]; rfl
theorem DiskAt.c6 (h : DiskAt w A B n cache calls writes) : w.cell? ⟨A, 6, none⟩ = some (.int .i64 0) := by rw [cell_of_row w A 6 _ _ _ h]; rfl
theorem DiskAt.c7 (h : DiskAt w A B n cache calls writes) : w.cell? ⟨A, 7, none⟩ = some (.int .i64 0) := by rw [cell_of_row w A 7 _ _ _ h]; rfl
theorem DiskAt.fz (h : DiskAt w A B n cache calls writes) (j : Nat) : w.frozen? ⟨A, j, none⟩ = false := frozen_of_row w A j _ _ h
theorem DiskAt.lt (h : DiskAt w A B n cache calls writes) : A < w.heap.size := lt_of_heap h
theorem DiskAt.set1 (h : DiskAt w A B n cache calls writes) (v : Value) : DiskAt (w.setCell ⟨A, 1, none⟩ v) A B n v calls writes := heap_setCell_at w A 1 _ _ v h
theorem DiskAt.set2 (h : DiskAt w A B n cache calls writes) (v : Int) : DiskAt (w.setCell ⟨A, 2, none⟩ (.int .i64 v)) A B n cache v writes := heap_setCell_at w A 2 _ _ _ h
theorem DiskAt.set3 (h : DiskAt w A B n cache calls writes) (v : Int) : DiskAt (w.setCell ⟨A, 3, none⟩ (.int .i64 v)) A B n cache calls v := heap_setCell_at w A 3 _ _ _ h
theorem DiskAt.drew (h : DiskAt w A B n cache calls writes) : DiskAt w.drew A B n cache calls writes := h
theorem DiskAt.alloc (h : DiskAt w A B n cache calls writes) (o : Obj) : DiskAt (w.alloc o) A B n cache calls writes := by
  unfold DiskAt; rw [heap_alloc_lt w o A h.lt]; exact h
theorem DiskAt.setCell (h : DiskAt w A B n cache calls writes) (p : Addr) (v : Value) (hp : A ≠ p.block) : DiskAt (w.setCell p v) A B n cache calls writes := by
  unfold DiskAt; rw [heap_setCell_ne w p A v hp]; exact h
theorem DiskAt.fr {S : Nat → Prop} {w' : World} (h : DiskAt w A B n cache calls writes) (hf : Fr S w w') (hn : ¬ S A) : DiskAt w' A B n cache calls writes := hf.keep h hn
end

theorem fails_ok {w : World} {A B n : Nat} {cache : Value} {calls writes : Int} (h : DiskAt w A B n cache calls writes) (h0 : 0 ≤ calls) (h1 : calls < 1000000000) :
    Calls Tryz.prog 208 #[.pointer (some ⟨A, 0, none⟩)] w fun e w' => e = .returned (.bool false) ∧ DiskAt w' A B n cache (calls + 1) writes ∧ Fr (· = A) w w' ∧ w'.heap.size = w.heap.size := by
  have hq := h.set2 (calls + 1)
  have c2 := h.c2
  have c5 := h.c5
  have c6 := h.c6
  have c7 := h.c7
  have f2 := h.fz 2
  have hd : decide (calls < 0) = false := by simp; omega
  clear h
  go_enter Tryz.func208, Tryz.ntmps208
  go_wp2
  go_ret
  exact ⟨rfl, hq, Fr.set1 _ _ _ _, by simp⟩

theorem none_ok {w : World} {A B n : Nat} {cache : Value} {calls writes : Int} (h : DiskAt w A B n cache calls writes) (i : Int) (h0 : 0 ≤ i) (h1 : i < n) :
    Calls Tryz.prog 209 #[.pointer (some ⟨A, 0, none⟩), .int .i64 i] w fun e w' => e = .returned (.bool false) ∧ w' = w := by
  have c0 := h.c0
  have hd : decide (i < 0) = false := by simp; omega
  have hd2 : decide ((n : Int) ≤ i) = false := by simp; omega
  clear h
  go_enter Tryz.func209, Tryz.ntmps209
  go_wp2
  go_ret
  exact ⟨rfl, rfl⟩

theorem dTold_ok {w : World} {A B n : Nat} {cache : Value} {calls writes : Int} (h : DiskAt w A B n cache calls writes) :
    Calls Tryz.prog 37 #[.pointer (some ⟨A, 0, none⟩)] w fun e w' => e = .returned (.int .i64 0) ∧ w' = w := by
  have c4 := h.c4
  clear h
  go_enter Tryz.func37, Tryz.ntmps37
  go_wp2
  go_ret
  exact ⟨rfl, rfl⟩
theorem Writes_ok {w : World} {A B n : Nat} {cache : Value} {calls writes : Int} (h : DiskAt w A B n cache calls writes) :
    Calls Tryz.prog 36 #[.pointer (some ⟨A, 0, none⟩)] w fun e w' => e = .returned (.int .i64 writes) ∧ w' = w := by
  have c3 := h.c3
  clear h
  go_enter Tryz.func36, Tryz.ntmps36
  go_wp2
  go_ret
  exact ⟨rfl, rfl⟩
theorem Pending_ok {w : World} {A B n : Nat} {calls writes : Int} (h : DiskAt w A B n (.slice none 0 0) calls writes) :
    Calls Tryz.prog 34 #[.pointer (some ⟨A, 0, none⟩)] w fun e w' => e = .returned (.int .i64 0) ∧ w' = w := by
  have c1 := h.c1
  clear h
  go_enter Tryz.func34, Tryz.ntmps34
  go_wp2
  go_ret
  exact ⟨rfl, rfl⟩
theorem dBlocks_ok {w : World} {A B n : Nat} {cache : Value} {calls writes : Int} (h : DiskAt w A B n cache calls writes) :
    Calls Tryz.prog 204 #[.pointer (some ⟨A, 0, none⟩)] w fun e w' => e = .returned (.int .i64 n) ∧ w' = w := by
  have c0 := h.c0
  clear h
  go_enter Tryz.func204, Tryz.ntmps204
  go_wp2
  go_ret
  exact ⟨rfl, rfl⟩
end Go.Proofs.YteebjgfalllbjaaGreatDoor
