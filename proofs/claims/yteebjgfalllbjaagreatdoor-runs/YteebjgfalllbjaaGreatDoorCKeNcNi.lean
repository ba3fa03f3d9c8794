import Derived.Test.YteebjgfalllbjaaGreatDoorCTlLmLn
import Derived.Test.YteebjgfalllbjaaGreatDoorCNsNtRo
import Derived.Laws.IdiomStrings
import Derived.Laws.AppendOwnNone
import Derived.Test.YteebjgfalllbjaaGreatDoorCKbNaNb
import Derived.Test.YteebjgfalllbjaaGreatDoorCPaAs1Kd
import Derived.Test.YteebjgfalllbjaaGreatDoorCWhJrFm
import Derived.Laws.MakeOwn
import Derived.Test.YteebjgfalllbjaaGreatDoorCNfNhGd
namespace Go.Proofs.YteebjgfalllbjaaGreatDoor
open Go.RowKit
/-- The texts of a saga's steps. -/
def kstr (a id i : Nat) : ByteArray := ⟨#[UInt8.ofNat a, UInt8.ofNat (97 + id), UInt8.ofNat (49 + i)]⟩
def kst (id n : Nat) : List SS := (List.range n).map fun i => (kstr 100 id i, kstr 117 id i)
end Go.Proofs.YteebjgfalllbjaaGreatDoor
namespace Go.Proofs.YteebjgfalllbjaaGreatDoor
open Go.RowKit
/-- The roll while a journal of such records is read. -/
def RP2 (rs : List Rec) (n s0 R i : Nat) (W : World) : Prop := ∃ ev es, RollAt W R s0 ((n : Int) - 1 - needC (rs.take i)) ev es ∧ es.map (·.2) = recL (rs.take i) ∧ (∀ b, RollF R ev es b → b = R ∨ R + 7 ≤ b) ∧ R + 7 ≤ W.heap.size
theorem rp2_0 {rs : List Rec} {n s0 R : Nat} {W : World} (hroll : W.heap[R]? = some (.cells #[.slice none 0 0, .int .i64 ((n : Int) - 1)] 176 (0, 0))) (hsz : R + 7 ≤ W.heap.size) : RP2 rs n s0 R 0 W := by
  refine ⟨.slice none 0 0, [], ⟨?_, World.ownsRow_nil _ _ _ _, by simp⟩, by simp [recL], ?_, hsz⟩
  · simpa [needC] using hroll
  · rintro b (h | h | ⟨q, hq, _⟩)
    · exact .inl h
    · cases h
    · cases hq
theorem recs_take {rs : List Rec} (h : RecsOk rs) (i : Nat) : RecsOk (rs.take i) := by
  intro j r hj
  have hl := (List.getElem?_eq_some_iff.1 hj).1
  rw [List.length_take] at hl
  rw [List.getElem?_take_of_lt (by omega)] at hj
  have := h j r hj
  rwa [List.take_take, show min j i = j from by omega]
theorem needC_take {rs : List Rec} (i : Nat) : needC (rs.take i) ≤ needC rs := by
  rw [needC, needC, ← List.take_append_drop i rs, List.map_append, List.sum_append_nat, List.take_append_drop]
  omega
theorem take_snoc {α : Type} {rs : List α} {i : Nat} {p : α} (hp : rs[i]? = some p) : rs.take (i + 1) = rs.take i ++ [p] := by rw [List.take_add_one, hp]; rfl
theorem hand2 {rs : List Rec} {n s0 R i : Nat} {r : List Value} {W : World} (n8 : 8 ≤ n) (hn4 : n ≤ 400) (hnd : needC rs ≤ n - 1) (hok : RecsOk rs) (hsR : s0 ≤ R) (hr : (rs.map Rec.bytes)[i]? = some r) (hRP : RP2 rs n s0 R i W)
    (h3 : W.heap[R + 2]? = some (.cells #[.func (.func 63) #[.pointer (some ⟨R, 0, none⟩)] #[]] 127 (0, 0))) (h4 : W.heap[R + 3]? = some (.cells #[.func (.func 76) #[.pointer (some ⟨R, 0, none⟩)] #[]] 162 (0, 0))) :
    Calls Tryz.prog 115 #[.agg r.toArray, .pointer (some ⟨R + 2, 0, none⟩), .pointer (some ⟨R + 3, 0, none⟩)] W fun e w' => e = .returned (.bool true) ∧ RP2 rs n s0 R (i + 1) w' ∧ Fr (fun b => b = R ∨ R + 7 ≤ b) W w' := by
  rw [List.getElem?_map] at hr
  obtain ⟨p, hp, rfl⟩ := Option.map_eq_some_iff.1 hr
  obtain ⟨ev, es, hra, hm, hF, hsz⟩ := hRP
  have hpo := hok i p hp
  have hg := recG (recs_take hok i)
  have hts := take_snoc hp
  have hnt := needC_take (rs := rs) (i + 1)
  rw [hts, needC_snoc] at hnt
  have hes : es.length = (recL (rs.take i)).length := by rw [← hm, List.length_map]
  have hln := hg.ln
  have hso := sorted_of hm hg.so
  have hFo : ∀ b, ev.ownBlock = some b → b = R ∨ R + 7 ≤ b := fun b hb => hF b (.inr (.inl hb))
  cases p with
  | take id st =>
    obtain ⟨hokp, hno⟩ := hpo
    obtain ⟨_, _, _, h6, h8⟩ := saga_of id st hokp
    have hnoid : ∀ q ∈ es, q.2.id ≠ (id : Int) := fun q hq => hno q.2 (mem_of_map hm hq)
    refine (Find11_ok (Q := fun w'' => RP2 rs n s0 R (i + 1) w'' ∧ Fr (fun b => b = R ∨ R + 7 ≤ b) W w'') id st hokp h3 h4 (fun w' hf' => ?_)).mono (fun e w' h => h)
    have hr' := hra.frz hf'
    obtain ⟨t1, t2, t3⟩ := roll_types hr'
    have hsz' := hf'.size
    have hnd2 : needC (rs.take i) + 2 * st.length ≤ needC rs := hnt
    refine (Take_ok hr' hso (by omega) (id : Int) st h6 hnoid (by omega) (by omega) (by omega) t1 t2 t3).mono ?_
    rintro e w'' ⟨g, ev', rfl, hrT, hgT, hfT, hob⟩
    refine ⟨rfl, ⟨ev', insE (g, newA id st) es, ?_, ?_, ?_, by have := hfT.size; omega⟩, ?_⟩
    · have e2 : (n : Int) - 1 - (needC (rs.take (i + 1)) : Nat) = (n : Int) - 1 - (needC (rs.take i) : Nat) - 2 * st.length := by
        rw [hts, needC_snoc]
        show (n : Int) - 1 - ((needC (rs.take i) + 2 * st.length : Nat) : Int) = _
        push_cast; omega
      rw [e2]
      exact hrT
    · rw [insE_map, hm, hts, recL_snoc]
      rfl
    · rintro b (h | h | ⟨q, hq, rfl⟩)
      · exact .inl h
      · rcases hob b h with h | h
        · exact hFo b h
        · exact .inr (by omega)
      · have hmem : q = (g, newA id st) ∨ q ∈ es := by
          simp only [insE, List.mem_append, List.mem_cons] at hq
          rcases hq with h1 | h1 | h1
          · exact .inr (List.takeWhile_subset _ h1)
          · exact .inl h1
          · exact .inr (List.dropWhile_subset _ h1)
        rcases hmem with rfl | hqe
        · exact .inr (by show R + 7 ≤ g; omega)
        · exact hF _ (.inr (.inr ⟨q, hqe, rfl⟩))
    · exact (hf'.mono (fun _ _ h => h.elim)).trans hfT (fun b _ h => by
        rcases h with h | h
        · exact .inl h
        · exact hFo b h)
  | move id m =>
    obtain ⟨hm2, hid, a, ha, hai, hao, ham⟩ := hpo
    refine (Find11M_ok (Q := fun w'' => RP2 rs n s0 R (i + 1) w'' ∧ Fr (fun b => b = R ∨ R + 7 ≤ b) W w'') id m hid hm2 h3 h4 (fun w' hf' => ?_)).mono (fun e w' h => h)
    have hr' := hra.frz hf'
    have hsz' := hf'.size
    rw [← hm] at ha
    obtain ⟨q, hq, rfl⟩ := List.mem_map.1 ha
    rw [← hai]
    refine (rMove_ok hr' hso (by omega) (ck := 0) (fun z hz => (hg.ok z.2 (mem_of_map hm hz)).1) hq (m : Int) hao ham).mono ?_
    rintro e w'' ⟨rfl, hrT, hfT⟩
    have hqF := hF q.1 (.inr (.inr ⟨q, hq, rfl⟩))
    refine ⟨rfl, ⟨ev, mapE es q.2.id (·.go m), ?_, ?_, ?_, by have := hfT.size; omega⟩, ?_⟩
    · have e2 : needC (rs.take (i + 1)) = needC (rs.take i) := by rw [hts, needC_snoc]; rfl
      rw [e2]
      exact hrT
    · rw [mapE_snd, hm, hts, recL_snoc, hai]
      rfl
    · rintro b (h | h | ⟨z, hz, rfl⟩)
      · exact .inl h
      · exact hFo b h
      · have h1 : z.1 ∈ (mapE es q.2.id (·.go m)).map (·.1) := List.mem_map.2 ⟨z, hz, rfl⟩
        rw [mapE_fst] at h1
        obtain ⟨y, hy, hy2⟩ := List.mem_map.1 h1
        exact hF _ (.inr (.inr ⟨y, hy, hy2.symm⟩))
    · exact (hf'.mono (fun _ _ h => h.elim)).trans hfT (fun b _ h => by rw [h]; exact hqF)
section
variable {w : World} {A B n Pp : Nat} {calls writes : Int}
/-- Open of a journal of such records. -/
theorem sOpenN {cfn : Fn} {ca cc : Array Value} {rs : List Rec} {s : Nat} (p : Int) (hp1 : 1 ≤ p) (hp2 : p ≤ 64) (hd : DiskAt w A B n (.slice none 0 0) calls writes) (hr : RowsAt w B n (layB n (rs.map Rec.bytes))) (h0 : 0 ≤ calls) (h1 : calls ≤ 1000 * (s : Int)) (h2 : 0 ≤ writes) (h3 : writes ≤ 1000 * (s : Int)) (hs : s < 80000) (n8 : 8 ≤ n) (n4 : n ≤ 400) (hok : RecsOk rs) (hnd : needC rs ≤ n - 1) :
    Calls Tryz.prog 46 #[.iface 31 (.pointer (some ⟨A, 0, none⟩)), .int .i64 p, .func cfn ca cc] w fun e w' => ∃ X F, e = .returned (.tuple #[.pointer (some ⟨X, 0, none⟩), .nilIface]) ∧ EN w' (s + 1) X A B n 0 p (.func cfn ca cc) (recL rs) rs F ∧ FU w' F ∧ (∀ b, F b → w.heap.size ≤ b) ∧ (∃ cl, DiskAt w' A B n (.slice none 0 0) cl writes) ∧ Fr (fun b => b = A) w w' := by
  have hAl := lt_of_heap hd
  have hg := recG hok
  have hlf := hg.lf
  refine (sOpen_ok (recs := rs.map Rec.bytes) p (by omega) (by omega) hd hr h0 (by omega) n8 n4 rfl (by rw [List.length_map]; omega) (recs_bytes hok)
    (fun R i W => RP2 rs n w.heap.size R i W) (fun R W hRw hroll hsz => rp2_0 hroll hsz)
    (fun R i W W' hRw hRP hf => by
      obtain ⟨ev, es, q1, q2, q3, q4⟩ := hRP
      refine ⟨ev, es, q1.fr hf (fun b hb h => ?_), q2, q3, Nat.le_trans q4 hf.size⟩
      rcases q3 b hb with e | e <;> rcases h with h | h <;> omega)
    (fun R i r W hRw hr hRP h3 h4 => hand2 n8 n4 hnd hok hRw hr hRP h3 h4)).mono ?_
  rintro e w' ⟨X, rfl, V, R, J, cl, g1, g2, g3, g4, g5, g6, g7, g8, g9, g10⟩
  obtain ⟨ev, es, q1, q2, q3, q4⟩ := g5
  rw [List.length_map] at q1 q2
  rw [List.take_length] at q1 q2
  have HE : ES w' X J R V A B n w.heap.size (rs.length + 1) ((n : Int) - 1 - needC rs) 0 p cl writes ev (.func cfn ca cc) es false (layB n (rs.map Rec.bytes)) := ⟨g1, q1, ⟨g4.v, g4.d, g4.r, by have := g4.j; rwa [List.length_map] at this⟩⟩
  refine ⟨X, EngF X J R V ev es, rfl, ?_, es_fu HE, ?_, ⟨cl, g4.d⟩, g10⟩
  · refine ⟨⟨n8, n4, Int.le_refl _, hok, hnd, ?_, ?_⟩, J, R, V, w.heap.size, (n : Int) - 1 - needC rs, ev, es, false, cl, writes, ⟨by omega, by push_cast; omega, h2, by push_cast; omega⟩, HE, q2, rfl, g10.size, fun b hb => hb⟩
    · calc (recL rs).map AS.zero = (recL rs).map id := List.map_congr_left fun a ha => (hg.ok a ha).2.2
        _ = recL rs := by simp
    · intro a ha
      have := (hg.ok a ha).1
      exact ⟨this.t0, this.t1⟩
  · rintro b (rfl | rfl | rfl | hb)
    · omega
    · omega
    · omega
    · rcases q3 b hb with h | h <;> omega
theorem openN {rs : List Rec} {s : Nat} (p : Int) (hp1 : 1 ≤ p) (hp2 : p ≤ 64) (hd : DiskAt w A B n (.slice none 0 0) calls writes) (hr : RowsAt w B n (layB n (rs.map Rec.bytes))) (h0 : 0 ≤ calls) (h1 : calls ≤ 1000 * (s : Int)) (h2 : 0 ≤ writes) (h3 : writes ≤ 1000 * (s : Int)) (hs : s < 80000) (n8 : 8 ≤ n) (n4 : n ≤ 400) (hok : RecsOk rs) (hnd : needC rs ≤ n - 1) :
    Calls Tryz.prog 33 #[.pointer (some ⟨A, 0, none⟩), .int .i64 p, .pointer (some ⟨Pp, 0, none⟩)] w fun e w' => ∃ X F, e = .returned (.tuple #[.pointer (some ⟨X, 0, none⟩), .nilIface]) ∧ EN w' (s + 1) X A B n 0 p (askV Pp) (recL rs) rs F ∧ FU w' F ∧ (∀ b, F b → w.heap.size ≤ b) ∧ (∃ cl, DiskAt w' A B n (.slice none 0 0) cl writes) ∧ Fr (fun b => b = A) w w' :=
  pOpen_any ((sOpenN p hp1 hp2 hd hr h0 h1 h2 h3 hs n8 n4 hok hnd).mono fun _ _ ⟨X, F, he, h⟩ => ⟨_, _, he, X, F, he, h⟩)
/-- plain.Fails hands on what sagas.Open answers. -/
theorem pFails_any {p : Int} {Q : Ending → World → Prop} (h : Calls Tryz.prog 46 #[.iface 31 (.pointer (some ⟨A, 0, none⟩)), .int .i64 p, .func (.func 120) #[] #[]] w fun e w' => ∃ x v, e = .returned (.tuple #[x, v]) ∧ Q e w') :
    Calls Tryz.prog 83 #[.pointer (some ⟨A, 0, none⟩), .int .i64 p] w Q := by
  have hmf : ∀ (fn : Fn) (first cap : Array Value) (w : World), (Instr.makeFunc fn first cap).run Tryz.prog w = .ok (.func fn first cap) w := fun _ _ _ _ => rfl
  go_enter Tryz.func83, Tryz.ntmps83
  go_wp2_with fail
  refine h.mono ?_
  rintro e w' ⟨x, v, rfl, hQ⟩
  go_wp2
  exact hQ
def failV : Value := .func (.func 120) #[] #[]
theorem failsN {rs : List Rec} {s : Nat} (p : Int) (hp1 : 1 ≤ p) (hp2 : p ≤ 64) (hd : DiskAt w A B n (.slice none 0 0) calls writes) (hr : RowsAt w B n (layB n (rs.map Rec.bytes))) (h0 : 0 ≤ calls) (h1 : calls ≤ 1000 * (s : Int)) (h2 : 0 ≤ writes) (h3 : writes ≤ 1000 * (s : Int)) (hs : s < 80000) (n8 : 8 ≤ n) (n4 : n ≤ 400) (hok : RecsOk rs) (hnd : needC rs ≤ n - 1) :
    Calls Tryz.prog 83 #[.pointer (some ⟨A, 0, none⟩), .int .i64 p] w fun e w' => ∃ X F, e = .returned (.tuple #[.pointer (some ⟨X, 0, none⟩), .nilIface]) ∧ EN w' (s + 1) X A B n 0 p failV (recL rs) rs F ∧ FU w' F ∧ (∀ b, F b → w.heap.size ≤ b) ∧ (∃ cl, DiskAt w' A B n (.slice none 0 0) cl writes) ∧ Fr (fun b => b = A) w w' :=
  pFails_any ((sOpenN p hp1 hp2 hd hr h0 h1 h2 h3 hs n8 n4 hok hnd).mono fun _ _ ⟨X, F, he, h⟩ => ⟨_, _, he, X, F, he, h⟩)
end
/-- A partner that fails whatever it is asked for. -/
def ptnF : Ptn failV where
  σ := Unit
  PA := fun _ F _ => ∀ b, ¬ F b
  sz := fun _ => 0
  ask := fun _ _ => (1, ())
  fr := fun h _ _ => h
  ty := fun h hb => absurd hb (h _)
  le := fun _ _ => by decide
  szs := fun _ _ => by decide
  rep := by
    intro F w s X J R clock pause c h _ he
    refine (reply_fails c he).mono ?_
    rintro e w' ⟨rfl, hf⟩
    exact ⟨rfl, hf.mono (fun _ _ h => h.elim), fun _ => False, fun _ h => h, fun _ h => h.elim⟩
end Go.Proofs.YteebjgfalllbjaaGreatDoor
namespace Go.Proofs.YteebjgfalllbjaaGreatDoor
open Go.RowKit
theorem moves_one (a : AS) : ¬ a.moves 1 = true := by simp [AS.moves]
/-- A tick whose partner fails. -/
theorem tick_folF (ck pause : Int) (L : List AS) (s : ptnF.σ) : FolF ck pause L (tickL ptnF ck pause L s).1 ∧ (tickL ptnF ck pause L s).2.2 = [] := by
  unfold FolF
  induction L generalizing s with
  | nil => exact ⟨rfl, rfl⟩
  | cons a l ih =>
    have h1 : (tickOne ptnF ck pause a s).1 = (if a.dueB ck = true then a.vain ck pause else a) ∧ (tickOne ptnF ck pause a s).2.2 = [] := by
      unfold tickOne
      by_cases hd : a.open ∧ a.due ≤ ck
      · rw [if_pos hd, if_pos (show a.dueB ck = true from decide_eq_true hd)]
        have hm : ¬ a.moves ((ptnF.ask s a.asks).1 : Nat) = true := moves_one a
        exact ⟨by simp only [AS.after, if_neg hm], by simp only [if_neg hm]⟩
      · rw [if_neg hd, if_neg (show ¬ a.dueB ck = true from by simpa [AS.dueB] using hd)]
        exact ⟨rfl, rfl⟩
    obtain ⟨h2, h3⟩ := ih (tickOne ptnF ck pause a s).2.1
    refine ⟨?_, ?_⟩
    · show (tickOne ptnF ck pause a s).1 :: (tickL ptnF ck pause l (tickOne ptnF ck pause a s).2.1).1 = _
      rw [h1.1, h2]; rfl
    · show (tickOne ptnF ck pause a s).2.2 ++ (tickL ptnF ck pause l (tickOne ptnF ck pause a s).2.1).2.2 = []
      rw [h1.2, h3]; rfl
end Go.Proofs.YteebjgfalllbjaaGreatDoor
