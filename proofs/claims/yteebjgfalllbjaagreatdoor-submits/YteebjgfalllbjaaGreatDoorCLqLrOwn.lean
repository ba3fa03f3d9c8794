import Derived.Test.YteebjgfalllbjaaGreatDoorCLmLnLp
import Derived.Laws.AppendOwnNone
namespace Go.Proofs.YteebjgfalllbjaaGreatDoor
open Go.RowKit

def inB (n : Nat) : Bool := decide (8 ≤ n ∧ n ≤ 400)
theorem fits_ok {w : World} {D A Pp n : Nat} {nn : Bool} {x Lv : Value} {pause clock : Int} (h : LawAt w D A Pp n nn x pause clock Lv) : Calls Tryz.prog 81 #[.pointer (some ⟨D, 0, none⟩)] w fun e w' => e = .returned (.bool (inB n)) ∧ w' = w := by
  have c2 := h.c2
  by_cases h8 : 8 ≤ n
  · have h8' : decide ((8 : Int) ≤ n) = true := by simp; omega
    by_cases h4 : n ≤ 400
    · have hi : inB n = true := by simp [inB, h8, h4]
      have h4' : decide ((n : Int) ≤ 400) = true := by simp; omega
      rw [hi]
      clear hi
      go_enter Tryz.func81, Tryz.ntmps81
      go_wp2
      go_ret
      exact ⟨rfl, rfl⟩
    · have hi : inB n = false := by simp [inB, h4]
      have h4' : decide ((n : Int) ≤ 400) = false := by simp; omega
      rw [hi]
      clear hi
      go_enter Tryz.func81, Tryz.ntmps81
      go_wp2
      go_ret
      exact ⟨rfl, rfl⟩
  · have h8' : decide ((8 : Int) ≤ n) = false := by simp; omega
    have hi : inB n = false := by simp [inB, h8]
    rw [hi]
    clear hi
    go_enter Tryz.func81, Tryz.ntmps81
    go_wp2
    go_ret
    exact ⟨rfl, rfl⟩

/-- What Format does to the rest, by its answer. -/
def FmtQ (Post : World → Prop) (S : Nat → Prop) (n : Nat) (w : World) (e : Ending) (w' : World) : Prop := ∃ v, e = .returned v ∧ ErrAt w' v (if inB n then 0 else 7) ∧ Post w' ∧ Fr S w w'
def FormQ (Post : World → Prop) (D A Pp n : Nat) (nn : Bool) (pause clock : Int) (Lv : Value) (w : World) (e : Ending) (w' : World) : Prop :=
  e = .returned (.bool true) ∧ ∃ wS, Post wS ∧ Fr (· = D) wS w' ∧ ((inB n = true ∧ LawAt w' D A Pp n false (.pointer none) 0 0 (.slice none 0 0)) ∨ (inB n = false ∧ LawAt w' D A Pp n nn (.pointer none) pause clock Lv)) ∧ w.heap.size ≤ wS.heap.size
set_option maxRecDepth 100000 in
set_option maxHeartbeats 2000000 in
theorem formatted_gen {Post : World → Prop} {S : Nat → Prop} {w : World} {D A B n Pp : Nat} {nn : Bool} {x : Value} {pause clock calls writes : Int} {cache Lv : Value}
    (h : LawAt w D A Pp n nn x pause clock Lv) (hdk : DiskAt w A B n cache calls writes) (hDA : A ≠ D) (hG : GOk w) (hgD : 0 ≠ D) (hgS : ¬ S 0) (hSD : ¬ S D)
    (hF : ∀ w1, Fr (· = D) w w1 → Calls Tryz.prog 40 #[.pointer (some ⟨A, 0, none⟩)] w1 fun e w' => FmtQ Post S n w1 e w') :
    Calls Tryz.prog 52 #[.pointer (some ⟨D, 0, none⟩)] w fun e w' => FormQ Post D A Pp n nn pause clock Lv w e w' := by
  have h1 := h.set5 (.pointer none)
  have hF1 : Fr (· = D) w (w.setCell ⟨D, 5, none⟩ (.pointer none)) := Fr.set1 _ _ _ _
  have hdk1 := hdk.setCell ⟨D, 5, none⟩ (.pointer none) hDA
  have c5 := h.c5
  have f5 := h.fz 5
  obtain ⟨W, HW⟩ : ∃ W, Hid (W = w.setCell ⟨D, 5, none⟩ (.pointer none)) := ⟨_, rfl⟩
  rw [← HW.out] at h1 hF1 hdk1
  have h5 : (Instr.storeAt 32 (.pointer (some ⟨D, 5, none⟩)) (.pointer none)).run Tryz.prog w = .ok () W := by rw [HW.out]; exact run_storeAt_one c5 f5 (by kernel_rfl) rfl
  have hG1 := hG.fr hF1 hgD
  have HF1 : Hid (Fr (· = D) w W) := hF1
  have H1 : Hid (LawAt W D A Pp n nn (.pointer none) pause clock Lv) := h1
  have c0 := h1.c0
  clear h hdk c5 f5 HW hF1
  go_enter Tryz.func52, Tryz.ntmps52
  go_wp2_with (refine wpList_store 32 (w' := W) _ _ rfl rfl ?_ ?_; exact h5)
  refine (dTold_ok hdk1).mono ?_
  rintro e w1 ⟨rfl, hw⟩
  rw [hw]
  clear hw
  go_wp2_with fail
  refine (hF W HF1.out).mono ?_
  rintro e w2 ⟨v, rfl, hv, hpost, hf2⟩
  obtain ⟨kk, hkk⟩ : ∃ kk : Int, (if inB n then 0 else 7) = kk := ⟨_, rfl⟩
  rw [hkk] at hv
  have HKK : Hid ((if inB n then 0 else 7) = kk) := hkk
  clear hkk
  have h2 := H1.out.fr hf2 hSD
  have hG2 := hG1.fr hf2 hgS
  have hv1 := hv.one
  have HP : Hid (Post w2 ∧ w.heap.size ≤ w2.heap.size) := ⟨hpost, Nat.le_trans HF1.out.size hf2.size⟩
  clear c0 h1 hG1 hdk1 hf2 hpost hF h5 H1
  go_wp2_with fail
  refine (Told_any hv hG2).mono ?_
  rintro e w3 ⟨rfl, hf3⟩
  have h3 := h2.fr hf3 (fun h => h)
  have HF3 : Hid (Fr (· = D) w2 w3) := hf3.mono (fun _ _ h => h.elim)
  clear hv h2 hG2 hf3
  go_wp2_with fail
  refine (num_ok kk _).mono ?_
  rintro e w4 ⟨rfl, hw⟩
  rw [hw]
  clear hw
  go_wp2_with fail
  refine (fits_ok h3).mono ?_
  rintro e w5 ⟨rfl, hw⟩
  rw [hw]
  clear hw
  have c3 := h3.c3
  have c4 := h3.c4
  have c6 := h3.c6
  have c7 := h3.c7
  have c8 := h3.c8
  have c9 := h3.c9
  have fz : ∀ j, w3.frozen? ⟨D, j, none⟩ = false := h3.fz
  have H3 : Hid (LawAt w3 D A Pp n nn (.pointer none) pause clock Lv) := h3
  clear h3
  have HKK2 := HKK.out
  clear HKK
  cases hi : inB n
  · rw [hi] at HKK2
    obtain rfl : kk = 7 := by simpa using HKK2.symm
    have HI : Hid (inB n = false) := hi
    clear hi HKK2
    go_wp2
    go_ret
    exact ⟨rfl, w2, HP.out.1, HF3.out, .inr ⟨HI.out, H3.out⟩, HP.out.2⟩
  · rw [hi] at HKK2
    obtain rfl : kk = 0 := by simpa using HKK2.symm
    have HI : Hid (inB n = true) := hi
    clear hi HKK2
    go_wp2
    go_ret
    have e3 := H3.out.set3 false
    have e4 := e3.set4
    have e6 := e4.set6 0
    have e7 := e6.set7 0
    have e8 := e7.set8
    have e9 := e8.set9 (.slice none 0 0)
    exact ⟨rfl, w2, HP.out.1, FrD.set (FrD.set (FrD.set (FrD.set (FrD.set (FrD.set HF3.out))))), .inl ⟨HI.out, e9⟩, HP.out.2⟩
end Go.Proofs.YteebjgfalllbjaaGreatDoor
namespace Go.Proofs.YteebjgfalllbjaaGreatDoor
open Go.RowKit

/-- Which number Open answers with. -/
def openK (p : Int) (n : Nat) (nn : Bool) : Int := if p < 1 ∨ 64 < p then 8 else if inB n = false then 7 else if nn then 6 else 0
def OpenQ (Post : Option Addr → Int → World → Prop) (S : Nat → Prop) (A B n : Nat) (nn : Bool) (p writes : Int) (w : World) (e : Ending) (w' : World) : Prop :=
  ∃ xo v k, e = .returned (.tuple #[.pointer xo, v]) ∧ ErrAt w' v k ∧ k = openK p n nn ∧ (xo = none ↔ k ≠ 0) ∧ (∃ calls, DiskAt w' A B n (.slice none 0 0) calls writes) ∧ Post xo k w' ∧ Fr S w w'
def OpndQ (Post : Option Addr → Int → World → Prop) (L : List RS) (D A Pp n : Nat) (nn : Bool) (pause0 clock : Int) (Lv : Value) (p : Int) (w : World) (e : Ending) (w' : World) : Prop :=
  e = .returned (.bool true) ∧ ∃ wS xo, Post xo (openK p n nn) wS ∧ Fr (· = D) wS w' ∧ w.heap.size ≤ wS.heap.size ∧
    ((openK p n nn ≠ 0 ∧ LawAt w' D A Pp n nn (.pointer none) pause0 clock Lv) ∨ (openK p n nn = 0 ∧ ∃ Lv' L', LawAt w' D A Pp n false (.pointer xo) p 0 Lv' ∧ FoundL L L' ∧ w'.ownsRow w.heap.size 223 7 Lv' L.length (rcells L') ∧ (∀ r ∈ L', MayAt w' r)))
set_option maxRecDepth 100000 in
set_option maxHeartbeats 4000000 in
theorem opened_gen {Post : Option Addr → Int → World → Prop} {S : Nat → Prop} {w : World} {D A B n Pp b : Nat} {nn : Bool} {x : Value} {pause0 clock calls writes : Int} {ao : Option Addr} {cap : Nat} {L : List RS} {lo : Option Addr} {lm lcap : Nat} {pe pl pa : Value}
    (h : LawAt w D A Pp n nn x pause0 clock (.slice ao L.length cap)) (hdk : DiskAt w A B n (.slice none 0 0) calls writes) (hP : w.heap[Pp]? = some (.cells #[.slice lo lm lcap, pe, pl, pa] 48 (0, 0)))
    (hl : LAt w b (.slice ao L.length cap) L) (hn : L.length ≤ 100000) (hS0 : ∀ r ∈ L, r.S.1 ≠ 0) (hDA : A ≠ D) (hG : GOk w) (hgD : 0 ≠ D) (hgS : ¬ S 0)
    (hMine : ∀ b c t, w.heap[b]? = some (.cells c t (0, 0)) → Mine t → ¬ S b) (hSlt : ∀ b, S b → b < w.heap.size) (p : Int)
    (hO : ∀ w1, Fr (· = D) w w1 → Calls Tryz.prog 33 #[.pointer (some ⟨A, 0, none⟩), .int .i64 p, .pointer (some ⟨Pp, 0, none⟩)] w1 fun e w' => OpenQ Post S A B n nn p writes w1 e w')
    (hA : ∀ wS w1 xo, Post xo 0 wS → Fr (fun _ => False) wS w1 → Calls Tryz.prog 35 #[.pointer xo, .int .i64 1048576] w1 fun e w' => AllQ (L.map RS.fresh) w1 e w') :
    Calls Tryz.prog 53 #[.pointer (some ⟨D, 0, none⟩), .int .i64 p] w fun e w' => OpndQ Post L D A Pp n nn pause0 clock (.slice ao L.length cap) p w e w' := by
  have hSD : ¬ S D := hMine _ _ _ h (.inl rfl)
  have hSP : ¬ S Pp := hMine _ _ _ hP (.inr (.inl rfl))
  have hDP : Pp ≠ D := fun e => by subst e; have := hP.symm.trans h; simp at this
  have h1 := h.set5 (.pointer none)
  have hF1 : Fr (· = D) w (w.setCell ⟨D, 5, none⟩ (.pointer none)) := Fr.set1 _ _ _ _
  have hdk1 := hdk.setCell ⟨D, 5, none⟩ (.pointer none) hDA
  have c5 := h.c5
  have f5 := h.fz 5
  obtain ⟨W, HW⟩ : ∃ W, Hid (W = w.setCell ⟨D, 5, none⟩ (.pointer none)) := ⟨_, rfl⟩
  rw [← HW.out] at h1 hF1 hdk1
  have h5 : (Instr.storeAt 32 (.pointer (some ⟨D, 5, none⟩)) (.pointer none)).run Tryz.prog w = .ok () W := by rw [HW.out]; exact run_storeAt_one c5 f5 (by kernel_rfl) rfl
  have hG1 := hG.fr hF1 hgD
  have hP1 : W.heap[Pp]? = some (.cells #[.slice lo lm lcap, pe, pl, pa] 48 (0, 0)) := hF1.keep hP hDP
  have HF1 : Hid (Fr (· = D) w W) := hF1
  have HLL : Hid (LAt W b (.slice ao L.length cap) L) := hl.fr hF1 (fun b c t hb ht e => by subst e; rw [h] at hb; rcases ht with h | h | h <;> subst h <;> simp at hb)
  have HM : Hid (∀ b c t, W.heap[b]? = some (.cells c t (0, 0)) → t = 223 ∨ t = 165 ∨ t = 220 → ¬ S b) := fun b c t hb ht hSb => by
    have hbD : ¬ b = D := fun e => by subst e; rw [h1] at hb; rcases ht with h | h | h <;> subst h <;> simp at hb
    rw [hF1.block b (hSlt b hSb) hbD] at hb
    exact hMine b c t hb (by rcases ht with h | h | h <;> subst h <;> simp [Mine]) hSb
  have HS0 : Hid (∀ r ∈ L, r.S.1 ≠ 0) := hS0
  have HAA := hA
  have c0 := h1.c0
  have c1 := h1.c1
  have cp0 : W.cell? ⟨Pp, 0, none⟩ = some (.slice lo lm lcap) := (cell_of_row W Pp 0 _ _ _ hP1).trans rfl
  clear h hdk c5 f5 HW hF1 hl hP hMine hS0 hA hSlt
  go_enter Tryz.func53, Tryz.ntmps53
  go_wp2_with (refine wpList_store 32 (w' := W) _ _ rfl rfl ?_ ?_; exact h5)
  refine (dTold_ok hdk1).mono ?_
  rintro e w1 ⟨rfl, hw⟩
  rw [hw]
  clear hw
  go_wp2_with fail
  refine (Writes_ok hdk1).mono ?_
  rintro e w1a ⟨rfl, hw⟩
  rw [hw]
  clear hw
  go_wp2_with fail
  refine (Pending_ok hdk1).mono ?_
  rintro e w1b ⟨rfl, hw⟩
  rw [hw]
  clear hw
  go_wp2_with fail
  have hlift : Tryz.prog.follows .mixedOrders = true := by kernel_rfl
  obtain ⟨W2, HW2⟩ : ∃ W2, Hid (W2 = W.drew) := ⟨_, rfl⟩
  have hLW : LawAt W2 D A Pp n nn (.pointer none) pause0 clock (.slice ao L.length cap) := by rw [HW2.out]; exact h1
  have hGW : GOk W2 := by rw [HW2.out]; exact hG1
  have hPW : W2.heap[Pp]? = some (.cells #[.slice lo lm lcap, pe, pl, pa] 48 (0, 0)) := by rw [HW2.out]; exact hP1
  have HF2 : Hid (Fr (· = D) w W2) := by rw [HW2.out]; exact HF1.out.drew
  have HL2 : Hid (LAt W2 b (.slice ao L.length cap) L) := by rw [HW2.out]; exact HLL.out.frz (Fr.refl _ _).drew
  have HM2 : Hid (∀ b c t, W2.heap[b]? = some (.cells c t (0, 0)) → t = 223 ∨ t = 165 ∨ t = 220 → ¬ S b) := by rw [HW2.out]; exact HM.out
  clear c0 c1 cp0 hP1 h1 hG1 hdk1 h5 HLL HM
  let S0 : World → Prop := fun w' => w'.cell? ⟨D, 0, none⟩ = some (.pointer (some ⟨A, 0, none⟩)) ∧ w'.cell? ⟨D, 1, none⟩ = some (.pointer (some ⟨Pp, 0, none⟩))
  have hS : S0 W2 := ⟨hLW.c0, hLW.c1⟩
  refine wp_region_held (S := S0) hlift ?_
  change wpAnyH _ _ _ _ S0 _ _ _ (World.drew _)
  rw [show W.drew = W2 from HW2.out.symm]
  refine wpAnyH_take (S := S0) (i := 0) (oi := ⟨some 42, .move (.tmp 0), _, _, _, none⟩) (v := .pointer (some ⟨D, 0, none⟩)) rfl (by kernel_rfl) (by kernel_rfl) (by kernel_rfl) (fun _ _ _ h => h) (Or.inl ⟨rfl, fun _ _ => rfl⟩) hS ?_
  simp only [Act.put, List.setIfInBounds_toArray, List.set_cons_zero, List.set_cons_succ]
  refine wpAnyH_take (S := S0) (i := 1) (oi := ⟨some 43, .nilCheck (.tmp 42), _, _, _, none⟩) (v := .pointer (some ⟨D, 0, none⟩)) rfl (by kernel_rfl) (by kernel_rfl) (by kernel_rfl) (fun _ _ _ h => h) (Or.inl ⟨rfl, fun _ _ => rfl⟩) hS ?_
  simp only [Act.put, List.setIfInBounds_toArray, List.set_cons_zero, List.set_cons_succ]
  refine wpAnyH_take (S := S0) (i := 2) (oi := ⟨some 44, .fieldAddr 111 (.tmp 43) 0, _, _, _, none⟩) (v := .pointer (some ⟨D, 0, none⟩)) rfl (by kernel_rfl) (by kernel_rfl) (by kernel_rfl) (fun _ _ _ h => h) (Or.inl ⟨rfl, fun _ _ => by kernel_rfl⟩) hS ?_
  simp only [Act.put, List.setIfInBounds_toArray, List.set_cons_zero, List.set_cons_succ]
  refine wpAnyH_take (S := S0) (i := 3) (oi := ⟨some 45, .load 31 (.tmp 44), _, _, _, none⟩) (v := .pointer (some ⟨A, 0, none⟩)) rfl (by kernel_rfl) (by kernel_rfl) (by kernel_rfl) (fun _ _ _ h => h) (Or.inl ⟨rfl, fun w' hs => exec_load 31 (.tmp 44) rfl ⟨D, 0, none⟩ rfl (run_loadAt_one hs.1 Tryz.underlying31 rfl)⟩) hS ?_
  simp only [Act.put, List.setIfInBounds_toArray, List.set_cons_zero, List.set_cons_succ]
  refine wpAnyH_take (S := S0) (i := 4) (oi := ⟨some 46, .move (.tmp 1), _, _, _, none⟩) (v := .int .i64 p) rfl (by kernel_rfl) (by kernel_rfl) (by kernel_rfl) (fun _ _ _ h => h) (Or.inl ⟨rfl, fun _ _ => rfl⟩) hS ?_
  simp only [Act.put, List.setIfInBounds_toArray, List.set_cons_zero, List.set_cons_succ]
  refine wpAnyH_take (S := S0) (i := 5) (oi := ⟨some 47, .move (.tmp 0), _, _, _, none⟩) (v := .pointer (some ⟨D, 0, none⟩)) rfl (by kernel_rfl) (by kernel_rfl) (by kernel_rfl) (fun _ _ _ h => h) (Or.inl ⟨rfl, fun _ _ => rfl⟩) hS ?_
  simp only [Act.put, List.setIfInBounds_toArray, List.set_cons_zero, List.set_cons_succ]
  refine wpAnyH_take (S := S0) (i := 6) (oi := ⟨some 48, .nilCheck (.tmp 47), _, _, _, none⟩) (v := .pointer (some ⟨D, 0, none⟩)) rfl (by kernel_rfl) (by kernel_rfl) (by kernel_rfl) (fun _ _ _ h => h) (Or.inl ⟨rfl, fun _ _ => rfl⟩) hS ?_
  simp only [Act.put, List.setIfInBounds_toArray, List.set_cons_zero, List.set_cons_succ]
  refine wpAnyH_take (S := S0) (i := 7) (oi := ⟨some 49, .fieldAddr 111 (.tmp 48) 1, _, _, _, none⟩) (v := .pointer (some ⟨D, 1, none⟩)) rfl (by kernel_rfl) (by kernel_rfl) (by kernel_rfl) (fun _ _ _ h => h) (Or.inl ⟨rfl, fun _ _ => by kernel_rfl⟩) hS ?_
  simp only [Act.put, List.setIfInBounds_toArray, List.set_cons_zero, List.set_cons_succ]
  refine wpAnyH_take (S := S0) (i := 8) (oi := ⟨some 50, .load 28 (.tmp 49), _, _, _, none⟩) (v := .pointer (some ⟨Pp, 0, none⟩)) rfl (by kernel_rfl) (by kernel_rfl) (by kernel_rfl) (fun _ _ _ h => h) (Or.inl ⟨rfl, fun w' hs => exec_load 28 (.tmp 49) rfl ⟨D, 1, none⟩ rfl (run_loadAt_one hs.2 Tryz.underlying28 rfl)⟩) hS ?_
  simp only [Act.put, List.setIfInBounds_toArray, List.set_cons_zero, List.set_cons_succ]
  refine wpAnyH_all (rs := [9]) (by kernel_rfl) (by simp) ?_
  intro i9 hi9
  obtain rfl : i9 = 9 := by simpa using hi9
  refine wpOp_call (o := ⟨some 51, .call { callee := .value (.func 33), args := #[.tmp 45, .tmp 46, .tmp 50], argTypes := _ }, _, _, _, none⟩) (f := 33) (args := #[.pointer (some ⟨A, 0, none⟩), .int .i64 p, .pointer (some ⟨Pp, 0, none⟩)]) rfl rfl (by kernel_rfl) ?_
  refine (hO W2 HF2.out).mono ?_
  rintro e w2 ⟨xo, v, kk, rfl, hv, hkk, hxo, hd2, hpost, hf2⟩
  have h2 := hLW.fr hf2 hSD
  have hG2 := hGW.fr hf2 hgS
  have hv1 := hv.one
  have hP2 := hf2.keep hPW hSP
  have hSS : S0 w2 := ⟨h2.c0, h2.c1⟩
  refine ⟨_, rfl, hSS, ?_⟩
  simp only [Act.put, List.setIfInBounds_toArray, List.set_cons_zero, List.set_cons_succ]
  refine wpAnyH_take (S := S0) (i := 10) (oi := ⟨some 41, .move (.tmp 51), _, _, _, none⟩) (v := .tuple #[.pointer xo, v]) rfl (by kernel_rfl) (by kernel_rfl) (by kernel_rfl) (fun _ _ _ h => h) (Or.inl ⟨rfl, fun _ _ => rfl⟩) hSS ?_
  simp only [Act.put, List.setIfInBounds_toArray, List.set_cons_zero, List.set_cons_succ]
  refine wpAnyH_take (S := S0) (i := 11) (oi := ⟨some 52, .extract (.tmp 41) 0, _, _, _, none⟩) (v := .pointer xo) rfl (by kernel_rfl) (by kernel_rfl) (by kernel_rfl) (fun _ _ _ h => h) (Or.inl ⟨rfl, fun _ _ => rfl⟩) hSS ?_
  simp only [Act.put, List.setIfInBounds_toArray, List.set_cons_zero, List.set_cons_succ]
  refine wpAnyH_take (S := S0) (i := 12) (oi := ⟨some 53, .extract (.tmp 41) 1, _, _, _, none⟩) (v := v) rfl (by kernel_rfl) (by kernel_rfl) (by kernel_rfl) (fun _ _ _ h => h) (Or.inl ⟨rfl, fun _ _ => rfl⟩) hSS ?_
  simp only [Act.put, List.setIfInBounds_toArray, List.set_cons_zero, List.set_cons_succ]
  refine wpAnyH_take (S := S0) (i := 13) (oi := ⟨some 9, .assign (.tmp 52), _, _, _, none⟩) (v := .pointer xo) rfl (by kernel_rfl) (by kernel_rfl) (by kernel_rfl) (fun _ _ _ h => h) (Or.inl ⟨rfl, fun _ _ => rfl⟩) hSS ?_
  simp only [Act.put, List.setIfInBounds_toArray, List.set_cons_zero, List.set_cons_succ]
  refine wpAnyH_take (S := S0) (i := 14) (oi := ⟨some 10, .assign (.tmp 53), _, _, _, none⟩) (v := v) rfl (by kernel_rfl) (by kernel_rfl) (by kernel_rfl) (fun _ _ _ h => h) (Or.inl ⟨rfl, fun _ _ => rfl⟩) hSS ?_
  simp only [Act.put, List.setIfInBounds_toArray, List.set_cons_zero, List.set_cons_succ]
  refine wpAnyH_done (by kernel_rfl) ?_ _
  have HP : Hid (Post xo kk w2 ∧ w.heap.size ≤ w2.heap.size) := ⟨hpost, Nat.le_trans HF2.out.size hf2.size⟩
  have HLE : Hid (LAt w2 b (.slice ao L.length cap) L) := HL2.out.fr hf2 HM2.out
  have HKK : Hid (kk = openK p n nn ∧ (xo = none ↔ kk ≠ 0)) := ⟨hkk, hxo⟩
  obtain ⟨calls2, hd2⟩ := hd2
  clear hS hSS hLW hGW hPW hO hpost hf2 HL2 HM2 hkk hxo
  go_wp2_with fail
  refine (Told_any hv hG2).mono ?_
  rintro e w3 ⟨rfl, hf3⟩
  have h3 := h2.fr hf3 (fun h => h)
  have hd3 := hd2.fr hf3 (fun h => h)
  have HF3 : Hid (Fr (fun _ => False) w2 w3) := hf3
  have hP3 := hf3.keep hP2 (fun h => h)
  clear hv h2 hG2 hf3 hd2 hP2
  go_wp2_with fail
  refine (num_ok kk _).mono ?_
  rintro e w4 ⟨rfl, hw⟩
  rw [hw]
  clear hw
  go_wp2_with fail
  refine (fits_ok h3).mono ?_
  rintro e w5 ⟨rfl, hw⟩
  rw [hw]
  clear hw
  have c0 := h3.c0
  have c1 := h3.c1
  have c3 := h3.c3
  have cp0 : w3.cell? ⟨Pp, 0, none⟩ = some (.slice lo lm lcap) := (cell_of_row w3 Pp 0 _ _ _ hP3).trans rfl
  have H3 : Hid (LawAt w3 D A Pp n nn (.pointer none) pause0 clock (.slice ao L.length cap) ∧ DiskAt w3 A B n (.slice none 0 0) calls2 writes) := ⟨h3, hd3⟩
  go_wp2_with fail
  refine (Writes_ok hd3).mono ?_
  rintro e w6 ⟨rfl, hw⟩
  rw [hw]
  clear hw
  go_wp2_with fail
  refine (Pending_ok hd3).mono ?_
  rintro e w7 ⟨rfl, hw⟩
  rw [hw]
  clear hw
  clear h3 hP3
  have hkk := HKK.out.1
  by_cases hp : p < 1 ∨ 64 < p
  · have hk8 : kk = 8 := by rw [hkk]; simp [openK, hp]
    obtain rfl : xo = none := HKK.out.2.2 (by omega)
    have HEQ : Hid (8 = openK p n nn) := by show 8 = openK p n nn; rw [← hkk, hk8]
    subst hk8
    clear hkk HAA
    rcases hp with hp | hp
    · go_wp2
      go_ret
      exact ⟨rfl, w2, none, by rw [← HEQ.out]; exact HP.out.1, HF3.out.mono (fun _ _ h => h.elim), HP.out.2, .inl ⟨by rw [← HEQ.out]; decide, H3.out.1⟩⟩
    · have hp' : decide (p < 1) = false := by simp; omega
      go_wp2
      go_ret
      exact ⟨rfl, w2, none, by rw [← HEQ.out]; exact HP.out.1, HF3.out.mono (fun _ _ h => h.elim), HP.out.2, .inl ⟨by rw [← HEQ.out]; decide, H3.out.1⟩⟩
  · have hp' : decide (p < 1) = false := by simp; omega
    have hp2 : decide (64 < p) = false := by simp; omega
    have hp3 : ¬ p < 1 := by omega
    have hp4 : ¬ 64 < p := by omega
    cases hi : inB n
    · have hk7 : kk = 7 := by rw [hkk]; simp [openK, hp, hi]
      obtain rfl : xo = none := HKK.out.2.2 (by omega)
      have HEQ : Hid (7 = openK p n nn) := by show 7 = openK p n nn; rw [← hkk, hk7]
      subst hk7
      clear hkk HAA hi hp
      go_wp2
      go_ret
      exact ⟨rfl, w2, none, by rw [← HEQ.out]; exact HP.out.1, HF3.out.mono (fun _ _ h => h.elim), HP.out.2, .inl ⟨by rw [← HEQ.out]; decide, H3.out.1⟩⟩
    · cases nn
      · have hk0 : kk = 0 := by rw [hkk]; simp [openK, hp, hi]
        obtain ⟨xa, rfl⟩ : ∃ a, xo = some a := by
          cases hx : xo with
          | none => exact absurd hk0 (HKK.out.2.1 hx)
          | some a => exact ⟨a, rfl⟩
        have HEQ : Hid (0 = openK p n false) := by show 0 = openK p n false; rw [← hkk, hk0]
        subst hk0
        clear hkk hi hp
        go_wp2_with fail
        refine (dTold_ok hd3).mono ?_
        rintro e w8 ⟨rfl, hw⟩
        rw [hw]
        clear hw
        have hff := found_ok (xp := some xa) H3.out.1 H3.out.2 (HLE.out.frz HF3.out).sagas (by omega) (fun r hr => ⟨HS0.out r hr, by rw [(HLE.out.m r hr).2.1]; simp, by rw [(HLE.out.m r hr).2.1]; simp⟩) hDA.symm p (HAA w2 w3 (some xa) HP.out.1 HF3.out)
        clear hd3 c0 c1 c3 cp0 HAA
        go_wp2_with fail
        refine hff.mono ?_
        rintro e w9 ⟨rfl, Lv', L', g1, g2, g3, g4, g5⟩
        have HG : Hid (LawAt w9 D A Pp n false (.pointer (some xa)) p 0 Lv' ∧ FoundL L L' ∧ w9.ownsRow w.heap.size 223 7 Lv' L.length (rcells L') ∧ (∀ r ∈ L', MayAt w9 r) ∧ Fr (· = D) w2 w9) := ⟨g1, g2, own_base2 g3 (Nat.le_trans HP.out.2 HF3.out.size), g4, (HF3.out.mono (fun _ _ h => h.elim)).trans g5 (fun _ _ h => h)⟩
        clear g1 g2 g3 g4 g5 hff
        go_wp2
        go_ret
        exact ⟨rfl, w2, some xa, by rw [← HEQ.out]; exact HP.out.1, HG.out.2.2.2.2, HP.out.2, .inr ⟨HEQ.out.symm, Lv', L', HG.out.1, HG.out.2.1, HG.out.2.2.1, HG.out.2.2.2.1⟩⟩
      · have hk6 : kk = 6 := by rw [hkk]; simp [openK, hp, hi]
        obtain rfl : xo = none := HKK.out.2.2 (by omega)
        have HEQ : Hid (6 = openK p n true) := by show 6 = openK p n true; rw [← hkk, hk6]
        subst hk6
        clear hkk HAA hi hp
        go_wp2_with fail
        refine (dTold_ok hd3).mono ?_
        rintro e w8 ⟨rfl, hw⟩
        rw [hw]
        clear hw
        go_wp2
        go_ret
        exact ⟨rfl, w2, none, by rw [← HEQ.out]; exact HP.out.1, HF3.out.mono (fun _ _ h => h.elim), HP.out.2, .inl ⟨by rw [← HEQ.out]; decide, H3.out.1⟩⟩
end Go.Proofs.YteebjgfalllbjaaGreatDoor
namespace Go.Proofs.YteebjgfalllbjaaGreatDoor
open Go.RowKit

theorem pick_ok (c n : Int) (w : World) (h1 : -9223372036854775808 ≤ c) (h2 : c ≤ 9223372036854775807) (hn : 0 < n) (hn2 : n ≤ 1000000) :
    Calls Tryz.prog 50 #[.int .i64 c, .int .i64 n] w fun e w' => (∃ r : Int, e = .returned (.int .i64 r) ∧ 0 ≤ r ∧ r < n) ∧ w' = w := by
  have hn0 : ¬ n = 0 := by omega
  by_cases hc : c < 0
  · have ht : 0 ≤ (-(c + 1)).tmod n ∧ (-(c + 1)).tmod n < n := ⟨Int.tmod_nonneg n (by omega), Int.tmod_lt_of_pos _ hn⟩
    have HT : Hid (0 ≤ (-(c + 1)).tmod n ∧ (-(c + 1)).tmod n < n) := ht
    clear ht
    go_enter Tryz.func50, Tryz.ntmps50
    go_wp2
    go_ret
    refine ⟨⟨-(c + 1).tmod n, rfl, ?_⟩, rfl⟩
    have := HT.out
    rw [Int.neg_tmod] at this
    exact this
  · have ht : 0 ≤ c % n ∧ c % n < n := ⟨Int.emod_nonneg _ hn0, Int.emod_lt_of_pos _ hn⟩
    go_enter Tryz.func50, Tryz.ntmps50
    go_wp2
    go_ret
    exact ⟨⟨c % n, rfl, ht⟩, rfl⟩
theorem near_ok (c : Int) (w : World) (h1 : -9223372036854775808 ≤ c) (h2 : c ≤ 9223372036854775807) :
    Calls Tryz.prog 51 #[.int .i64 c] w fun e w' => (∃ r : Int, e = .returned (.int .i64 r)) ∧ w' = w := by
  go_enter Tryz.func51, Tryz.ntmps51
  go_wp2_with fail
  refine (pick_ok c 600 w h1 h2 (by decide) (by decide)).mono ?_
  rintro e w' ⟨⟨r, rfl, _, _⟩, rfl⟩
  go_wp2
  go_ret
  exact ⟨⟨r, rfl⟩, rfl⟩
/-- How many blocks a number asks for. -/
def nblk (a : Int) : Nat := if a < 0 then 0 else (a % 1000).toNat
theorem nblk_lt (a : Int) : nblk a < 1000 := by unfold nblk; split <;> omega
theorem blocks_ok (a : Int) (w : World) : Calls Tryz.prog 79 #[.int .i64 a] w fun e w' => e = .returned (.int .i64 (nblk a)) ∧ w' = w := by
  by_cases h : a < 0
  · have e0 : nblk a = 0 := by simp [nblk, h]
    rw [e0]
    clear e0
    go_enter Tryz.func79, Tryz.ntmps79
    go_wp2
    go_ret
    exact ⟨rfl, rfl⟩
  · have e0 : ((nblk a : Nat) : Int) = a % 1000 := by simp [nblk, h]; omega
    rw [e0]
    clear e0
    go_enter Tryz.func79, Tryz.ntmps79
    go_wp2
    go_ret
    exact ⟨rfl, rfl⟩
theorem arr_info : (Tryz.prog.info? 97).map (fun i => (i.zero, i.size, i.bytes)) = some (some (.agg z128), 128, 128) := by kernel_rfl
theorem made_get (n j : Nat) (h : j < n) : (madeCells z128 n)[j]? = some (.int .u8 0) := by
  have hm : j % 128 < 128 := Nat.mod_lt _ (by decide)
  have hz : z128[j % 128]! = .int .u8 0 := by
    rw [getElem!_pos z128 (j % 128) (by rw [z128_size]; exact hm)]; simp [z128]
  simp [madeCells, h, z128_size, hz]
theorem made_bs (n : Nat) : (madeCells z128 n).toList = List.replicate n (.int .u8 0) := by
  apply List.ext_getElem?
  intro i
  by_cases h : i < n
  · rw [List.getElem?_replicate, if_pos h, Array.getElem?_toList]; exact made_get n i h
  · rw [List.getElem?_replicate, if_neg h, List.getElem?_eq_none (by rw [Array.length_toList, size_madeCells]; omega)]
/-- A row that owns all it has is known whole. -/
theorem own_whole {w : World} {base e size g n : Nat} {xs : List Value} (h : w.ownsRow base e size (.slice (some ⟨g, 0, none⟩) n n) n xs) : w.heap[g]? = some (.cells xs.toArray e (0, 0)) := by
  rcases h.2 with ⟨hv, _⟩ | ⟨g', cap, cur, hv, hb, hg, _, _, hc, ht⟩
  · cases hv
  · simp only [Value.slice.injEq, Option.some.injEq, Addr.mk.injEq, and_true, true_and] at hv
    obtain ⟨rfl, rfl⟩ := hv
    rw [hg]
    have : cur = xs.toArray := by rw [← ht, List.take_of_length_le (by simp; omega)]
    rw [this]
def NewDiskPost (w : World) (a : Int) (e : Ending) (w' : World) : Prop := ∃ A B, e = .returned (.pointer (some ⟨A, 0, none⟩)) ∧ w.heap.size ≤ A ∧ w.heap.size ≤ B ∧
    DiskAt w' A B (nblk a) (.slice none 0 0) 0 0 ∧ RowsAt w' B (nblk a) (List.replicate (nblk a * 128) (.int .u8 0)) ∧ Fr (fun _ => False) w w'
set_option maxRecDepth 100000 in
set_option maxHeartbeats 1000000 in
theorem NewDisk_ok (a : Int) (w : World) : Calls Tryz.prog 39 #[.int .i64 a] w fun e w' => NewDiskPost w a e w' := by
  have hl := nblk_lt a
  obtain ⟨i0, hi, hz0, hz1, hz2⟩ := info_parts arr_info
  have key : ∀ w1 : World, w1.ownsRow w.heap.size 97 128 (.slice (some ⟨w.heap.size, 0, none⟩) (nblk a) (nblk a)) (nblk a) (madeCells z128 (nblk a * 128)).toList → w.grownBy w1 none →
      w.heap.size ≤ w1.heap.size ∧ DiskAt (w1.alloc (.cells (dcells w.heap.size (nblk a) (.slice none 0 0) 0 0) 96)) w1.heap.size w.heap.size (nblk a) (.slice none 0 0) 0 0 ∧ RowsAt (w1.alloc (.cells (dcells w.heap.size (nblk a) (.slice none 0 0) 0 0) 96)) w.heap.size (nblk a) (List.replicate (nblk a * 128) (.int .u8 0)) ∧ Fr (fun _ => False) w (w1.alloc (.cells (dcells w.heap.size (nblk a) (.slice none 0 0) 0 0) 96)) := by
    intro w1 ho hg
    have hw := own_whole ho
    rw [made_bs] at hw
    have hlt := lt_of_heap hw
    refine ⟨hg.size, heap_alloc_at _ _, ⟨by rw [heap_alloc_lt _ _ _ hlt]; exact hw, by simp, fun v hv => by rw [List.mem_replicate] at hv; rw [hv.2]; rfl⟩, ((Fr.refl _ _).grown hg (fun _ _ h => by cases h)).alloc _⟩
  have HK := key
  clear key
  by_cases h : a < 0
  · have e0 : nblk a = 0 := by simp [nblk, h]
    have E0 : Hid (nblk a = 0) := e0
    clear e0
    go_enter Tryz.func39, Tryz.ntmps39
    go_wp2_with (first | (at_make; refine wpList_make_full w rfl (.tmp 6) (.tmp 6) 93 rfl w.heap.size 97 i0 (.agg z128) 128 Tryz.underlying93 hi hz0 hz1 .i64 .i64 0 0 0 rfl rfl rfl rfl ?_ ?_ ?_ ?_; (rw [hz2]; decide); (unfold maxLen; decide); exact Nat.le_refl _; intro w1 ho hg))
    go_ret
    unfold NewDiskPost
    rw [show ((nblk a : Nat)) = 0 from E0.out] at HK ⊢
    obtain ⟨k1, k2, k3, k4⟩ := HK w1 ho hg
    exact ⟨_, _, rfl, k1, Nat.le_refl _, k2, k3, k4⟩
  · have e0 : a % 1000 = ((nblk a : Nat) : Int) := by simp [nblk, h]; omega
    have E0 : Hid (a % 1000 = ((nblk a : Nat) : Int)) := e0
    clear e0
    go_enter Tryz.func39, Tryz.ntmps39
    go_wp2_with (first | (at_make; refine wpList_make_full w rfl (.tmp 6) (.tmp 6) 93 rfl w.heap.size 97 i0 (.agg z128) 128 Tryz.underlying93 hi hz0 hz1 .i64 .i64 (a % 1000) (a % 1000) (nblk a) rfl rfl E0.out E0.out ?_ ?_ ?_ ?_; (rw [hz2]; omega); (unfold maxLen; omega); exact Nat.le_refl _; intro w1 ho hg))
    go_ret
    obtain ⟨k1, k2, k3, k4⟩ := HK w1 ho hg
    exact ⟨_, _, rfl, k1, Nat.le_refl _, k2, k3, k4⟩

/-- The numbers that a partner replies by are copied. -/
theorem int_info : (Tryz.prog.info? 3).map (fun i => (i.zero, i.size, i.bytes)) = some (some (.int .i64 0), 1, 8) := by kernel_rfl
def NewPartPost (w : World) (e : Ending) (w' : World) : Prop := ∃ Pp lv, e = .returned (.pointer (some ⟨Pp, 0, none⟩)) ∧ w.heap.size ≤ Pp ∧ PartAt w' Pp lv ∧ Fr (fun _ => False) w w'
set_option maxRecDepth 100000 in
set_option maxHeartbeats 1000000 in
theorem NewPartner_ok {w : World} {b0 r : Nat} {rv : Value} {rxs : List Value} (ho : w.ownsRow b0 3 1 rv r rxs) (h1 : ∀ v ∈ rxs, v.oneCell' = true) (hr : r < 1000000) :
    Calls Tryz.prog 18 #[rv] w fun e w' => NewPartPost w e w' := by
  obtain ⟨i0, hi, hz0, hz1, hz2⟩ := info_parts int_info
  rcases ho.2 with ⟨rfl, rfl⟩ | ⟨g, cap, cur, rfl, hb, hg, hnc, hcm, hcs, ht⟩
  · go_enter Tryz.func18, Tryz.ntmps18
    go_wp2
    go_ret
    exact ⟨_, _, rfl, Nat.le_refl _, heap_alloc_at _ _, (Fr.refl _ _).alloc _⟩
  · have hc := ho.cells (g := g) rfl
    go_enter Tryz.func18, Tryz.ntmps18
    go_wp2_with (first | (at_builtin; refine wpList_append_own w rfl (.const (.slice none 0 0)) (.tmp 3) 24 rfl w.heap.size 3 i0 (.int .i64 0) 1 8 Tryz.underlying24 hi hz0 hz1 hz2 rfl (by decide) (.slice none 0 0) 0 [] rfl (World.ownsRow_nil _ _ _ _) ⟨g, 0, none⟩ r cap rxs rfl ?_ hc h1 ?_ ?_ ?_ ?_; (have := ho.1; omega); (unfold maxLen; omega); omega; exact Nat.le_refl _; intro v' w1 hown' hgrow _; obtain ⟨ao, nn, cc, rfl⟩ : ∃ ao nn cc, v' = .slice ao nn cc := by (rcases hown'.2 with ⟨rfl, _⟩ | ⟨_, _, _, rfl, _⟩ <;> exact ⟨_, _, _, rfl⟩)))
    go_ret
    exact ⟨_, _, rfl, hgrow.size, heap_alloc_at _ _, ((Fr.refl _ _).grown hgrow (fun _ _ h => by cases h)).alloc _⟩
end Go.Proofs.YteebjgfalllbjaaGreatDoor
