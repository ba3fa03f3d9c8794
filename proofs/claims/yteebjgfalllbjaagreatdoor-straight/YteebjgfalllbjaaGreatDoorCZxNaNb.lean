import Derived.Test.YteebjgfalllbjaaGreatDoorCZwZoZt
import Derived.Test.YteebjgfalllbjaaGreatDoorCZuZqZr
import Derived.Test.YteebjgfalllbjaaGreatDoorCEaTnKb
import Derived.Test.YteebjgfalllbjaaGreatDoorCRg2FeAd
namespace Go.Proofs.YteebjgfalllbjaaGreatDoor
open Go.RowKit
structure Bd (k : Nat) (s : DS) : Prop where
 c0 : 0 ≤ s.d.calls
 c1 : s.d.calls ≤ 1000 * (k : Int)
 w0 : 0 ≤ s.d.writes
 w1 : s.d.writes ≤ 1000 * (k : Int)
 t0 : 0 ≤ s.d.told
 t1 : s.d.told ≤ 1000 * (k : Int)
 e : s.ents.length ≤ 2 * k
theorem Bd.q {k : Nat} {s : DS} (h : Bd k s) (hk : k < 80000) : s.d.Q := by
 obtain ⟨a, b, c, d, e, f, g⟩ := h
 exact ⟨a, by omega, c, by omega, e, by omega⟩
theorem Bd.moved {k : Nat} {s s' : DS} {j : Int} (h : Bd k s) (hm : Moved j s.d s'.d) (hj : j ≤ 1000) (he : s'.ents.length ≤ s.ents.length + 2) : Bd (k + 1) s' := by
 obtain ⟨a, b, c, d, e, f, g⟩ := h
 obtain ⟨a1, a2, a3, a4, a5, a6, _⟩ := hm
 exact ⟨by omega, by push_cast; omega, by omega, by push_cast; omega, by omega, by push_cast; omega, by omega⟩
theorem Bd.mono {k l : Nat} {s : DS} (h : Bd k s) (hl : k ≤ l) : Bd l s := by
 obtain ⟨a, b, c, d, e, f, g⟩ := h
 exact ⟨a, by omega, c, by omega, e, by omega, by omega⟩
def DG (w : World) (k A B n : Nat) (s : DS) (C : Nat → Prop) : Prop := Bd k s ∧ ∃ base cache, DSAt w A B n base cache s ∧ (∀ b, cache.ownBlock = some b → C b) ∧ 0 < base ∧ base ≤ A ∧ base ≤ B
structure EGw (w : World) (X J R V A B n base dbase : Nat) (room clock pause : Int) (ev cv cache : Value) (es : List (Nat × AS)) (sb : Bool) (s : DS) (L : List AS) (rs : List Rec) (F : Nat → Prop) : Prop where
 eng : EngAt w X J R clock pause cv
 roll : RollAt w R base room ev es
 jn : JnG w J V A B n dbase cache s ((rs.length + 1 : Nat) : Int) sb
 hi : Hi dbase A B J
 m : es.map (·.2) = L
 rm : room = (n : Int) - 1 - needC rs
 b : base ≤ w.heap.size
 f : ∀ c, EngF X J R V ev es c → F c
def EG (w : World) (k X A B n : Nat) (clock pause : Int) (cv : Value) (L : List AS) (rs : List Rec) (s : DS) (C F : Nat → Prop) : Prop :=
 ENp n clock L rs ∧ Bd k s ∧ JD n s (rs.map Rec.bytes) ∧ ∃ J R V base dbase room ev cache es sb, (sb = true → JSet n s (rs.map Rec.bytes)) ∧ EGw w X J R V A B n base dbase room clock pause ev cv cache es sb s L rs F ∧ ∀ b, cache.ownBlock = some b → C b
def ED (w : World) (X n : Nat) (clock pause : Int) (cv : Value) (L : List AS) (rs : List Rec) (F : Nat → Prop) : Prop :=
 ENp n clock L rs ∧ ∃ J R base room ev es, EngB w X J R true clock pause cv ∧ RollAt w R base room ev es ∧ es.map (·.2) = L ∧ F X ∧ ∀ b, RollF R ev es b → F b
section
variable {w w' : World} {k X J R V A B n base dbase : Nat} {room clock pause : Int} {ev cv cache : Value} {es : List (Nat × AS)} {sb : Bool} {s : DS} {L : List AS} {rs : List Rec} {C F : Nat → Prop}
theorem EGw.dis (h : EGw w X J R V A B n base dbase room clock pause ev cv cache es sb s L rs F) : ∀ b, RollF R ev es b → ¬ JnF A B J cache b ∧ b ≠ V ∧ b ≠ X := by
 intro b hb
 obtain ⟨c, t, hc, ht⟩ := roll_f h.roll hb
 refine ⟨?_, fun e => ?_, fun e => ?_⟩
 ·rintro (hd | e)
  ·exact h.jn.d.not hc (by rcases ht with rfl | rfl | rfl <;> decide) hd
  ·subst e; have := hc.symm.trans h.jn.j; simp at this; rw [this.2] at ht; revert ht; decide
 ·subst e; have := hc.symm.trans h.jn.v; simp at this; rw [this.2] at ht; revert ht; decide
 ·subst e; have := hc.symm.trans h.eng; simp at this; rw [this.2] at ht; revert ht; decide
theorem EGw.fu (g : EGw w X J R V A B n base dbase room clock pause ev cv cache es sb s L rs F) : FU w (EngF X J R V ev es) := by
 rintro b (rfl | rfl | rfl | hb)
 ·exact ⟨_, _, g.eng, .inl rfl⟩
 ·exact ⟨_, _, g.jn.j, .inr (.inl rfl)⟩
 ·exact ⟨_, _, g.jn.v, .inr (.inr (.inl rfl))⟩
 ·obtain ⟨c, t, hc, ht⟩ := roll_f g.roll hb
  refine ⟨c, t, hc, ?_⟩
  rcases ht with rfl | rfl | rfl
  ·exact .inr (.inr (.inr (.inl rfl)))
  ·exact .inr (.inr (.inr (.inr (.inl rfl))))
  ·exact .inr (.inr (.inr (.inr (.inr rfl))))
theorem EGw.frz (g : EGw w X J R V A B n base dbase room clock pause ev cv cache es sb s L rs F) (hf : Fr (fun _ => False) w w') : EGw w' X J R V A B n base dbase room clock pause ev cv cache es sb s L rs F :=
 ⟨hf.keep g.eng (fun h => h), g.roll.frz hf, g.jn.frz hf, g.hi, g.m, g.rm, Nat.le_trans g.b hf.size, g.f⟩
theorem EGw.fr {S : Nat → Prop} (g : EGw w X J R V A B n base dbase room clock pause ev cv cache es sb s L rs F) (hf : Fr S w w') (hA : ¬ S A) (hB : ¬ S B) (hC : ∀ b, cache.ownBlock = some b → ¬ S b) (hF : ∀ b, EngF X J R V ev es b → ¬ S b) : EGw w' X J R V A B n base dbase room clock pause ev cv cache es sb s L rs F :=
 ⟨hf.keep g.eng (hF _ (.inl rfl)), g.roll.fr hf (fun _ hb => hF _ (.inr (.inr (.inr hb)))), g.jn.fr hf (fun b hb => by
  rcases hb with ((rfl | rfl | hb) | rfl) | rfl
  ·exact hA
  ·exact hB
  ·exact hC b hb
  ·exact hF _ (.inr (.inl rfl))
  ·exact hF _ (.inr (.inr (.inl rfl)))), g.hi, g.m, g.rm, Nat.le_trans g.b hf.size, g.f⟩
theorem EG.fr {S : Nat → Prop} (h : EG w k X A B n clock pause cv L rs s C F) (hf : Fr S w w') (hA : ¬ S A) (hB : ¬ S B) (hC : ∀ b, C b → ¬ S b) (hF : ∀ b, F b → ¬ S b) : EG w' k X A B n clock pause cv L rs s C F := by
 obtain ⟨hp, hb, hj, J, R, V, base, dbase, room, ev, cache, es, sb, hs, g, hc⟩ := h
 exact ⟨hp, hb, hj, J, R, V, base, dbase, room, ev, cache, es, sb, hs, g.fr hf hA hB (fun b hb => hC b (hc b hb)) (fun b hb => hF b (g.f b hb)), hc⟩
theorem EG.disk (h : EG w k X A B n clock pause cv L rs s C F) : DG w k A B n s C := by
 obtain ⟨hp, hb, hj, J, R, V, base, dbase, room, ev, cache, es, sb, hs, g, hc⟩ := h
 exact ⟨hb, dbase, cache, g.jn.d, hc, g.hi.1, g.hi.2.1, g.hi.2.2.1⟩
theorem DG.fr {S : Nat → Prop} (h : DG w k A B n s C) (hf : Fr S w w') (hA : ¬ S A) (hB : ¬ S B) (hC : ∀ b, C b → ¬ S b) : DG w' k A B n s C := by
 obtain ⟨hb, base, cache, hd, hc, h1, h2, h3⟩ := h
 refine ⟨hb, base, cache, hd.fr hf ?_, hc, h1, h2, h3⟩
 rintro b (rfl | rfl | h)
 ·exact hA
 ·exact hB
 ·exact hC b (hc b h)
theorem EG.sta (h : EG w k X A B n clock pause cv L rs s C F) (id : Int) : Calls Tryz.prog 24 #[.pointer (some ⟨X, 0, none⟩), .int .i64 id] w fun e w' => StatA L id w e w' := by
 obtain ⟨hp, hb, hj, J, R, V, base, dbase, room, ev, cache, es, sb, hs, g, hc⟩ := h
 have hlen : es.length = L.length := by rw [← g.m, List.length_map]
 have hl := hp.len
 have := eStatus_ok g.eng g.roll (sorted_of g.m hp.so) (by omega) (fun p hp' => (hp.mem (mem_of_map g.m hp')).1.l6) id
 rwa [g.m] at this
end
section
variable {w : World} {Q : Value → World → Prop}
set_option maxRecDepth 100000 in
theorem eSubmit_tr {X n m : Nat} {ao : Option Addr} {id : Int} (h : Calls Tryz.prog 42 #[.pointer (some ⟨X, 0, none⟩), .int .i64 id, .slice ao n m] w fun e w' => ∃ v, e = .returned v ∧ (v = .nilIface ∨ ∃ g, v = trV g) ∧ Q v w') :
  Calls Tryz.prog 21 #[.pointer (some ⟨X, 0, none⟩), .int .i64 id, .slice ao n m] w fun e w' => (e = .returned .nilIface ∧ Q .nilIface w') ∨ (∃ g w1 f t, e = .returned (.iface 117 (.pointer (some ⟨f, 0, none⟩))) ∧ w'.heap[f]? = some (.cells #[.string t, trV g] 119 (0, 0)) ∧ Q (trV g) w1 ∧ Fr (fun _ => False) w1 w') := by
 go_enter Tryz.func21, Tryz.ntmps21
 go_wp2_with fail
 refine h.mono ?_
 rintro e w2 ⟨v, rfl, hv, hQ⟩
 rcases hv with rfl | ⟨g, rfl⟩
 ·go_wp2_with fail
  refine (wrapped_nil _ _).mono ?_
  rintro e w3 ⟨rfl, rfl⟩
  have HQ : Hid (Q .nilIface w3) := hQ
  clear hQ
  go_wp2
  go_ret
  exact .inl ⟨rfl, HQ.out⟩
 ·have HQ : Hid (Q (trV g) w2) := hQ
  clear hQ
  unfold trV
  go_wp2_with fail
  refine (wrapped_tr _ g _).mono ?_
  rintro e w3 ⟨rfl, rfl⟩
  go_wp2
  go_ret
  exact .inr ⟨g, w2, _, _, rfl, heap_alloc_at _ _, HQ.out, (Fr.refl _ _).alloc _⟩
set_option maxRecDepth 100000 in
theorem eTick_tr {X : Nat} (h : Calls Tryz.prog 43 #[.pointer (some ⟨X, 0, none⟩)] w fun e w' => ∃ v, e = .returned v ∧ (v = .nilIface ∨ ∃ g, v = trV g) ∧ Q v w') :
  Calls Tryz.prog 23 #[.pointer (some ⟨X, 0, none⟩)] w fun e w' => (e = .returned .nilIface ∧ Q .nilIface w') ∨ (∃ g w1 f t, e = .returned (.iface 117 (.pointer (some ⟨f, 0, none⟩))) ∧ w'.heap[f]? = some (.cells #[.string t, trV g] 119 (0, 0)) ∧ Q (trV g) w1 ∧ Fr (fun _ => False) w1 w') := by
 go_enter Tryz.func23, Tryz.ntmps23
 go_wp2_with fail
 refine h.mono ?_
 rintro e w2 ⟨v, rfl, hv, hQ⟩
 rcases hv with rfl | ⟨g, rfl⟩
 ·go_wp2_with fail
  refine (wrapped_nil _ _).mono ?_
  rintro e w3 ⟨rfl, rfl⟩
  have HQ : Hid (Q .nilIface w3) := hQ
  clear hQ
  go_wp2
  go_ret
  exact .inl ⟨rfl, HQ.out⟩
 ·have HQ : Hid (Q (trV g) w2) := hQ
  clear hQ
  unfold trV
  go_wp2_with fail
  refine (wrapped_tr _ g _).mono ?_
  rintro e w3 ⟨rfl, rfl⟩
  go_wp2
  go_ret
  exact .inr ⟨g, w2, _, _, rfl, heap_alloc_at _ _, HQ.out, (Fr.refl _ _).alloc _⟩
end
end Go.Proofs.YteebjgfalllbjaaGreatDoor
namespace Go.Proofs.YteebjgfalllbjaaGreatDoor
open Go.RowKit
theorem move_size : (Tryz.prog.info? 196).map (·.size) = some 2 := by kernel_rfl
theorem run_store2 {w : World} {g : Nat} {cs r : List Value} {t : TypeId} (hg : w.heap[g]? = some (.cells cs.toArray t (0, 0))) (hc : cs.length = 2) (hl : r.length = 2) (h1 : ∀ v ∈ r, v.oneCell' = true) : (Instr.storeAt 196 (.pointer (some ⟨g, 0, none⟩)) (.agg r.toArray)).run Tryz.prog w = .ok () (w.setRow g r.toArray) := by
 have := run_storeAt_row (P := Tryz.prog) (o := 0) (ty := 196) (vs := r) hg (by omega) h1 (by rw [move_size, hl])
 rwa [show splice cs 0 r = r from by simp [splice, hl, hc]] at this
theorem run_build_move (id r : Int) (w : World) : (Instr.build 196 #[(0, .int .i64 id), (1, .int .i64 r)]).run Tryz.prog w = .ok (.agg #[.int .i64 id, .int .i64 r]) w := by kernel_rfl
theorem exec_buildM {ρ : Operand → Value} {o : Oper} {x y : Operand} {u v z : Value} {w w' : World} (ho : o.op = .build 196 #[(0, x), (1, y)]) (hx : ρ x = u) (hy : ρ y = v) (hr : (Instr.build 196 #[(0, u), (1, v)]).run Tryz.prog w = .ok z w') : (execOp ρ o).run Tryz.prog w = .ok (.value z) w' := by
 simp [execOp, ho, hx, hy, hr]
theorem exec_alloc_move (ρ : Operand → Value) (o : Oper) (ho : o.op = .alloc 196) (w : World) : (execOp ρ o).run Tryz.prog w = .ok (.value (.pointer (some ⟨w.heap.size, 0, none⟩))) (w.alloc (.cells ([.int .i64 0, .int .i64 0] : List Value).toArray 196)) := by
 simp only [execOp, ho]
 kernel_rfl
theorem loadBody {w : World} {g : Nat} {bd : List Value} {t : TypeId} (h : w.heap[g]? = some (.cells bd.toArray t (0, 0))) (hl : bd.length = 124) : (Instr.loadAt 182 (.pointer (some ⟨g, 0, none⟩))).run Tryz.prog w = .ok (.agg bd.toArray) w :=
 run_loadAt_mid w g 0 182 bd _ (fun j v hv => (cell_of_row w g (0 + j) _ _ _ h).trans (by simpa using hv)) Tryz.underlying182 rfl (by rw [body_size, hl])
theorem loadBlk {w : World} {g : Nat} {bd : List Value} {t : TypeId} (h : w.heap[g]? = some (.cells bd.toArray t (0, 0))) (hl : bd.length = 128) : (Instr.loadAt 130 (.pointer (some ⟨g, 0, none⟩))).run Tryz.prog w = .ok (.agg bd.toArray) w :=
 run_loadAt_mid w g 0 130 bd _ (fun j v hv => (cell_of_row w g (0 + j) _ _ _ h).trans (by simpa using hv)) Tryz.underlying130 rfl (by rw [block_size, hl])
theorem exec_cu8i {ρ : Operand → Value} {o : Oper} {x : Operand} {r : Nat} (ho : o.op = .convert 5 3 x) (hx : ρ x = .int .u8 r) (hr : r ≤ 2) (w : World) : (execOp ρ o).run Tryz.prog w = .ok (.value (.int .i64 r)) w := by
 simp only [execOp, ho, hx]
 obtain h | h | h : r = 0 ∨ r = 1 ∨ r = 2 := by omega
 all_goals subst h; kernel_rfl
set_option maxRecDepth 100000 in
set_option maxHeartbeats 4000000 in
theorem readMove_ok (w : World) (id r : Nat) (hid : id ≤ 1000) (hr : r ≤ 2) : Calls Tryz.prog 154 #[.agg (mvB id r).toArray] w fun e w' => e = .returned (.tuple #[.agg #[.int .i64 id, .int .i64 r], .bool true]) ∧ Fr (fun _ => False) w w' := by
 have hlift : Tryz.prog.follows .mixedOrders = true := by kernel_rfl
 have hbl := bodyM_len id r
 have hb1 : ∀ v ∈ bodyS id r [] 0, v.oneCell' = true := bodyS_one _ _ _ _
 have hll : (mvB id r).length = 128 := ldB_len 3 _ hbl 4 (by omega)
 have hl1 : ∀ v ∈ mvB id r, v.oneCell' = true := ldB_one 3 _ hb1 4
 have HMB : ∀ w', Calls Tryz.prog 151 #[.agg #[.int .i64 id, .int .i64 r]] w' fun e w'' => e = .returned (.agg (mvB id r).toArray) ∧ Fr (fun _ => False) w' w'' := fun w' => mBlock_ok w' id r hid hr
 have HG : ∀ w', Calls Tryz.prog 165 #[.agg (bodyS id r [] 0).toArray] w' fun e w'' => e = .returned (.int .i64 id) ∧ Fr (fun _ => False) w' w'' := fun w' => getId_ok w' id hid _
 have hb2 : (bodyS id r [] 0).toArray[2]? = some (.int .u8 r) := by rw [bodyS_nil]; rfl
 obtain ⟨blk, HB⟩ : ∃ blk, Hid (blk = mvB id r) := ⟨_, rfl⟩
 obtain ⟨bd, HD⟩ : ∃ bd, Hid (bd = bodyS id r [] 0) := ⟨_, rfl⟩
 have HRD : Hid (rdB blk 4 = bd) := by unfold Hid; rw [HB.out, HD.out]; exact rdB_ldB 3 _ hbl
 have hneq : ∀ w', (binOp .neq 130 (.agg blk.toArray) (.agg blk.toArray)).run Tryz.prog w' = .ok (.bool false) w' := by
  intro w'
  rw [run_neq_struct, equal_self 9998 blk.toArray w' (by rw [HB.out]; exact ldB_ints 3 _ hbl (bodyS_ints _ _ _ _))]
  rfl
 rw [← HB.out] at hll hl1 HMB ⊢
 rw [← HD.out] at hbl hb1 HG hb2
 obtain ⟨W, HW⟩ : ∃ W, Hid (W = (w.alloc (.cells blk.toArray 130)).alloc (.cells #[.int .i64 0, .int .i64 0] 196)) := ⟨_, rfl⟩
 have hF : Fr (fun _ => False) w W := by rw [HW.out]; exact ((Fr.refl _ _).alloc _).alloc _
 have r0 : W.heap[w.heap.size]? = some (.cells blk.toArray 130 (0, 0)) := by rw [HW.out, heap_alloc_lt _ _ _ (by simp)]; exact heap_alloc_at _ _
 have r1 : W.heap[w.heap.size + 1]? = some (.cells #[.int .i64 0, .int .i64 0] 196 (0, 0)) := by rw [HW.out]; exact heap_alloc2_new w _ _
 have hM : ((w.alloc (.cells blk.toArray 130)).alloc (.cells #[.int .i64 0, .int .i64 0] 196)).rangeAt w.heap.size 0 blk := by rw [← HW.out]; exact fun j v hv => (cell_of_row W _ (0 + j) _ _ _ r0).trans (by simpa using hv)
 go_enter Tryz.func154, Tryz.ntmps154
 go_wp2_with (first | (refine wpList_load_mid rfl 130 _ rfl w.heap.size 0 ?_ _ _ hM Tryz.underlying130 rfl ?_ ?_; rfl; (rw [block_size, hll])))
 rw [← HW.out]
 refine (rcread_ok W blk hll hl1).mono ?_
 rintro e w2 ⟨rfl, hf2⟩
 rw [HRD.out]
 have r02 := hf2.keep r0 (fun h => h)
 have r12 := hf2.keep r1 (fun h => h)
 have hF2 : Fr (fun _ => False) w w2 := hF.trans hf2 (fun _ _ h => h)
 clear HW hM r0 r1 hF hf2
 have hzr := heap_alloc_at w2 (.cells Tryz.zeroCells182 182)
 rw [zeroB_eq] at hzr
 have hst := run_store_body hzr (by simp) hbl hb1
 have hr3 := setRow_heap (w2.alloc (.cells (List.replicate 124 zv).toArray 182)) w2.heap.size _ bd.toArray 182 (0, 0) hzr
 have hf3 : Fr (fun _ => False) w2 ((w2.alloc (.cells (List.replicate 124 zv).toArray 182)).setRow w2.heap.size bd.toArray) := Fr.setRow (S := fun _ => False) ((Fr.refl _ _).alloc _) _ (fun h => by omega) _
 obtain ⟨W3, HW3⟩ : ∃ W3, Hid (W3 = (w2.alloc (.cells (List.replicate 124 zv).toArray 182)).setRow w2.heap.size bd.toArray) := ⟨_, rfl⟩
 rw [← HW3.out] at hst hr3 hf3
 rw [← zeroB_eq] at hst
 have r03 := hf3.keep r02 (fun h => h)
 have r13 := hf3.keep r12 (fun h => h)
 have hF3 : Fr (fun _ => False) w W3 := hF2.trans hf3 (fun _ _ h => h)
 have hlt2 : w.heap.size + 1 < w2.heap.size := lt_of_heap r12
 clear HW3 r02 r12 hF2 hzr hf3
 go_wp2_with (first | (refine wpList_store 182 (w' := W3) _ _ rfl rfl ?_ ?_; exact hst))
 clear hst
 obtain ⟨U, HU⟩ : ∃ U, Hid (U = W3.drew) := ⟨_, rfl⟩
 have hfU : Fr (fun _ => False) W3 U := by rw [HU.out]; exact (Fr.refl _ _).drew
 let S2 : World → Prop := fun w' => w'.heap[w2.heap.size]? = some (.cells bd.toArray 182 (0, 0))
 have hS : S2 U := hfU.keep hr3 (fun h => h)
 refine wp_region_held (S := S2) hlift ?_
 change wpAnyH _ _ _ _ S2 _ _ _ (World.drew _)
 rw [← HU.out]
 clear HU
 refine tkY (S := S2) (i := 0) (oi := ⟨some 8, .load 182 (.tmp 4), _, _, _, none⟩) (v := .agg bd.toArray) rfl (Or.inl ⟨rfl, fun w' hs => exec_load 182 (.tmp 4) rfl ⟨w2.heap.size, 0, none⟩ rfl (loadBody hs hbl)⟩) hS ?_
 simp only [Act.put, lsE, lsZ, lsS]
 refine tkY (S := S2) (i := 2) (oi := ⟨some 10, .indexAddr 182 (.tmp 4) (.const (.int .i64 2)), _, _, _, none⟩) (v := .pointer (some ⟨w2.heap.size, 2, none⟩)) rfl (Or.inl ⟨rfl, fun w' _ => exec_indexAddr 182 _ _ rfl rfl rfl (index_body _ 2 (by omega) w')⟩) hS ?_
 simp only [Act.put, lsE, lsZ, lsS]
 refine tkY (S := S2) (i := 3) (oi := ⟨some 11, .load 5 (.tmp 10), _, _, _, none⟩) (v := .int .u8 r) rfl (Or.inl ⟨rfl, fun w' hs => exec_load 5 (.tmp 10) rfl ⟨w2.heap.size, 2, none⟩ rfl (run_loadAt_one ((cell_of_row w' _ _ _ _ _ hs).trans hb2) Tryz.underlying5 rfl)⟩) hS ?_
 simp only [Act.put, lsE, lsZ, lsS]
 refine tkY (S := S2) (i := 4) (oi := ⟨some 12, .convert 5 3 (.tmp 11), _, _, _, none⟩) (v := .int .i64 r) rfl (Or.inl ⟨rfl, fun w' _ => exec_cu8i rfl rfl hr w'⟩) hS ?_
 simp only [Act.put, lsE, lsZ, lsS]
 refine wpAnyH_all (rs := [1, 6]) (by kernel_rfl) (by simp) ?_
 intro iz hiz
 have hzz : iz = 1 ∨ iz = 6 := by simpa using hiz
 rcases hzz with rfl | rfl
 ·refine wpOp_call (o := ⟨some 9, .call { callee := .value (.func 165), args := #[(.tmp 8)], argTypes := _ }, _, _, _, none⟩) (f := 165) (args := #[.agg bd.toArray]) rfl rfl (by kernel_rfl) ?_
  refine (HG U).mono ?_
  rintro e w5 ⟨rfl, hf5⟩
  have hS5 : S2 w5 := hf5.keep hS (fun h => h)
  refine ⟨_, rfl, hS5, ?_⟩
  simp only [Act.put, lsE, lsZ, lsS]
  refine tkY (S := S2) (i := 5) (oi := ⟨some 13, .build 196 #[(0, .tmp 9), (1, .tmp 12)], _, _, _, none⟩) (v := .agg #[.int .i64 id, .int .i64 r]) rfl (Or.inl ⟨rfl, fun w' _ => exec_buildM rfl rfl rfl (run_build_move id r w')⟩) hS5 ?_
  simp only [Act.put, lsE, lsZ, lsS]
  refine wpAnyH_all (rs := [6]) (by kernel_rfl) (by simp) ?_
  intro i6 hi6
  obtain rfl : i6 = 6 := by simpa using hi6
  have hm5 := heap_alloc_at w5 (.cells ([.int .i64 0, .int .i64 0] : List Value).toArray 196)
  have hFm : Fr (fun _ => False) W3 (w5.alloc (.cells ([.int .i64 0, .int .i64 0] : List Value).toArray 196)) := (hfU.trans hf5 (fun _ _ h => h)).alloc _
  have hSm : S2 (w5.alloc (.cells ([.int .i64 0, .int .i64 0] : List Value).toArray 196)) := ((Fr.refl (fun _ => False) w5).alloc _).keep hS5 (fun h => h)
  have hgl := (hfU.trans hf5 (fun _ _ h => h)).size
  have hgne : w2.heap.size ≠ w5.heap.size := by have := lt_of_heap hr3; omega
  refine wpOp_value (o := ⟨some 5, .alloc 196, _, _, _, none⟩) (v := .pointer (some ⟨w5.heap.size, 0, none⟩)) (w' := w5.alloc (.cells ([.int .i64 0, .int .i64 0] : List Value).toArray 196)) rfl rfl (exec_alloc_move _ _ rfl _) ⟨hSm, ?_⟩
  simp only [Act.put, lsE, lsZ, lsS]
  obtain ⟨W5, HW5⟩ : ∃ W5, Hid (W5 = w5.alloc (.cells ([.int .i64 0, .int .i64 0] : List Value).toArray 196)) := ⟨_, rfl⟩
  rw [← HW5.out] at hm5 hFm hSm ⊢
  have hwl3 := hF3.size
  have hr1l := lt_of_heap r13
  clear HW5 hf5 hS5
  generalize w5.heap.size = g5 at *
  refine wpAnyH_all (rs := [7]) (by kernel_rfl) (by simp) ?_
  intro i7 hi7
  obtain rfl : i7 = 7 := by simpa using hi7
  have hst := run_store2 (r := [.int .i64 id, .int .i64 r]) hm5 rfl rfl (by intro v hv; simp at hv; rcases hv with rfl | rfl <;> rfl)
  have hM := setRow_heap W5 g5 _ ([.int .i64 id, .int .i64 r] : List Value).toArray 196 (0, 0) hm5
  have hfM : Fr (fun b => b = g5) W5 (W5.setRow g5 ([.int .i64 id, .int .i64 r] : List Value).toArray) := Fr.setRow (S := fun b => b = g5) (Fr.refl _ _) _ (fun _ => rfl) _
  obtain ⟨WE, HWE⟩ : ∃ WE, Hid (WE = W5.setRow g5 ([.int .i64 id, .int .i64 r] : List Value).toArray) := ⟨_, rfl⟩
  rw [← HWE.out] at hst hM hfM
  have hSE : S2 WE := hfM.keep hSm hgne
  refine wpOp_skip (o := ⟨none, .store 196 (.tmp 5) (.tmp 13), _, _, _, none⟩) (w' := WE) rfl rfl (exec_store 196 _ _ rfl ⟨g5, 0, none⟩ _ rfl rfl hst) ⟨hSE, ?_⟩
  simp only [Act.put]
  refine wpAnyH_done (by kernel_rfl) ?_ _
  have HE : Hid (WE.heap[g5]? = some (.cells #[.int .i64 id, .int .i64 r] 196 (0, 0)) ∧ WE.heap[w.heap.size]? = some (.cells blk.toArray 130 (0, 0)) ∧ WE.heap[w.heap.size + 1]? = some (.cells #[.int .i64 0, .int .i64 0] 196 (0, 0)) ∧ Fr (fun _ => False) w WE ∧ w.heap.size + 1 < g5) := ⟨hM, hfM.keep (hFm.keep r03 (fun h => h)) (by omega), hfM.keep (hFm.keep r13 (fun h => h)) (by omega), (hF3.trans hFm (fun _ _ h => h)).trans hfM (fun b hb h => by omega), by omega⟩
  clear HWE hst hM hfM hSE hSm hm5
  generalize g5 = gm at *
  go_wp2_with fail
  obtain ⟨h1, h2, h3, h4, h5⟩ := HE.out
  obtain ⟨U3, HU3⟩ : ∃ U3, Hid (U3 = WE.drew) := ⟨_, rfl⟩
  have hfU3 : Fr (fun _ => False) WE U3 := by rw [HU3.out]; exact (Fr.refl _ _).drew
  let S3 : World → Prop := fun w' => w'.heap[gm]? = some (.cells #[.int .i64 id, .int .i64 r] 196 (0, 0)) ∧ w'.heap[w.heap.size]? = some (.cells blk.toArray 130 (0, 0))
  have hS3 : S3 U3 := ⟨hfU3.keep h1 (fun h => h), hfU3.keep h2 (fun h => h)⟩
  refine wp_region_held (S := S3) hlift ?_
  change wpAnyH _ _ _ _ S3 _ _ _ (World.drew _)
  rw [← HU3.out]
  clear HU3
  refine tkY (S := S3) (i := 0) (oi := ⟨some 14, .load 196 (.tmp 5), _, _, _, none⟩) (v := .agg #[.int .i64 id, .int .i64 r]) rfl (Or.inl ⟨rfl, fun w' hs => exec_load 196 (.tmp 5) rfl ⟨gm, 0, none⟩ rfl (loadM hs.1)⟩) hS3 ?_
  simp only [Act.put, lsE, lsZ, lsS]
  refine tkY (S := S3) (i := 2) (oi := ⟨some 16, .load 130 (.tmp 1), _, _, _, none⟩) (v := .agg blk.toArray) rfl (Or.inl ⟨rfl, fun w' hs => exec_load 130 (.tmp 1) rfl ⟨w.heap.size, 0, none⟩ rfl (loadBlk hs.2 hll)⟩) hS3 ?_
  simp only [Act.put, lsE, lsZ, lsS]
  refine wpAnyH_all (rs := [1]) (by kernel_rfl) (by simp) ?_
  intro i1 hi1
  obtain rfl : i1 = 1 := by simpa using hi1
  refine wpOp_call (o := ⟨some 15, .call { callee := .value (.func 151), args := #[(.tmp 14)], argTypes := _ }, _, _, _, none⟩) (f := 151) (args := #[.agg #[.int .i64 id, .int .i64 r]]) rfl rfl (by kernel_rfl) ?_
  refine (HMB U3).mono ?_
  rintro e w8 ⟨rfl, hf8⟩
  have hS8 : S3 w8 := ⟨hf8.keep hS3.1 (fun h => h), hf8.keep hS3.2 (fun h => h)⟩
  refine ⟨_, rfl, hS8, ?_⟩
  simp only [Act.put, lsE, lsZ, lsS]
  refine tkY (S := S3) (i := 3) (oi := ⟨some 17, .binOp .neq 130 (.tmp 15) (.tmp 16) 130, _, _, _, none⟩) (v := .bool false) rfl (Or.inl ⟨rfl, fun w' _ => exec_neq_block rfl rfl rfl (hneq w')⟩) hS8 ?_
  simp only [Act.put, lsE, lsZ, lsS]
  refine wpAnyH_done (by kernel_rfl) ?_ _
  have hf38 := hfU3.trans hf8 (fun _ _ h => h)
  have hm8 := hf38.keep h1 (fun h => h)
  have hz8 := hf38.keep h3 (fun h => h)
  have hF8 : Fr (fun _ => False) w w8 := h4.trans hf38 (fun _ _ h => h)
  have hL8 := loadM hm8
  have hst8 := run_store2 (r := [.int .i64 id, .int .i64 r]) hz8 rfl rfl (by intro v hv; simp at hv; rcases hv with rfl | rfl <;> rfl)
  have hR8 := setRow_heap w8 (w.heap.size + 1) _ ([.int .i64 id, .int .i64 r] : List Value).toArray 196 (0, 0) hz8
  have hfE : Fr (fun b => b = w.heap.size + 1) w8 (w8.setRow (w.heap.size + 1) ([.int .i64 id, .int .i64 r] : List Value).toArray) := Fr.setRow (S := fun b => b = w.heap.size + 1) (Fr.refl _ _) _ (fun _ => rfl) _
  obtain ⟨W9, HW9⟩ : ∃ W9, Hid (W9 = w8.setRow (w.heap.size + 1) ([.int .i64 id, .int .i64 r] : List Value).toArray) := ⟨_, rfl⟩
  rw [← HW9.out] at hst8 hR8 hfE
  have hF9 : Fr (fun _ => False) w W9 := hF8.trans hfE (fun b hb h => by omega)
  have hrg8 : w8.rangeAt gm 0 [.int .i64 id, .int .i64 r] := fun j v hv => (cell_of_row _ _ (0 + j) _ _ _ hm8).trans (by simpa using hv)
  clear HW9 hfE hf38 hz8 hF8 h1 h2 h3 h4 hfU3 hf8 HE
  go_wp2_with (first | (refine wpList_load_mid rfl 196 _ rfl gm 0 ?_ _ _ hrg8 Tryz.underlying196 rfl ?_ ?_; rfl; exact move_size) | (refine wpList_store 196 (w' := W9) _ _ rfl rfl ?_ ?_; exact hst8))
  refine bodyPost_ret (results_row_tmp Tryz.results154 _ _ (w.heap.size + 1) 196 _ (0, 0) _ rfl hR8 Tryz.underlying196 rfl (by rw [move_size]; rfl)) rfl ⟨rfl, hF9⟩
 ·have hm4 := heap_alloc_at U (.cells ([.int .i64 0, .int .i64 0] : List Value).toArray 196)
  have hf4 : Fr (fun _ => False) U (U.alloc (.cells ([.int .i64 0, .int .i64 0] : List Value).toArray 196)) := (Fr.refl _ _).alloc _
  have hS4 : S2 (U.alloc (.cells ([.int .i64 0, .int .i64 0] : List Value).toArray 196)) := hf4.keep hS (fun h => h)
  refine wpOp_value (o := ⟨some 5, .alloc 196, _, _, _, none⟩) (v := .pointer (some ⟨U.heap.size, 0, none⟩)) (w' := U.alloc (.cells ([.int .i64 0, .int .i64 0] : List Value).toArray 196)) rfl rfl (exec_alloc_move _ _ rfl _) ⟨hS4, ?_⟩
  simp only [Act.put, lsE, lsZ, lsS]
  obtain ⟨U4, HU4⟩ : ∃ U4, Hid (U4 = U.alloc (.cells ([.int .i64 0, .int .i64 0] : List Value).toArray 196)) := ⟨_, rfl⟩
  rw [← HU4.out] at hm4 hf4 hS4 ⊢
  clear HU4
  refine wpAnyH_all (rs := [1]) (by kernel_rfl) (by simp) ?_
  intro i1 hi1
  obtain rfl : i1 = 1 := by simpa using hi1
  refine wpOp_call (o := ⟨some 9, .call { callee := .value (.func 165), args := #[(.tmp 8)], argTypes := _ }, _, _, _, none⟩) (f := 165) (args := #[.agg bd.toArray]) rfl rfl (by kernel_rfl) ?_
  refine (HG U4).mono ?_
  rintro e w5 ⟨rfl, hf5⟩
  have hSm : S2 w5 := hf5.keep hS4 (fun h => h)
  have hS5 := hSm
  refine ⟨_, rfl, hSm, ?_⟩
  simp only [Act.put, lsE, lsZ, lsS]
  refine tkY (S := S2) (i := 5) (oi := ⟨some 13, .build 196 #[(0, .tmp 9), (1, .tmp 12)], _, _, _, none⟩) (v := .agg #[.int .i64 id, .int .i64 r]) rfl (Or.inl ⟨rfl, fun w' _ => exec_buildM rfl rfl rfl (run_build_move id r w')⟩) hS5 ?_
  simp only [Act.put, lsE, lsZ, lsS]
  have hm5 := hf5.keep hm4 (fun h => h)
  have hFm : Fr (fun _ => False) W3 w5 := (hfU.trans hf4 (fun _ _ h => h)).trans hf5 (fun _ _ h => h)
  have hgl := hfU.size
  have hgne : w2.heap.size ≠ U.heap.size := by have := lt_of_heap hr3; omega
  have hwl3 := hF3.size
  have hr1l := lt_of_heap r13
  clear hf5 hm4 hf4 hS4 hS5
  generalize U.heap.size = g5 at *
  refine wpAnyH_all (rs := [7]) (by kernel_rfl) (by simp) ?_
  intro i7 hi7
  obtain rfl : i7 = 7 := by simpa using hi7
  have hst := run_store2 (r := [.int .i64 id, .int .i64 r]) hm5 rfl rfl (by intro v hv; simp at hv; rcases hv with rfl | rfl <;> rfl)
  have hM := setRow_heap w5 g5 _ ([.int .i64 id, .int .i64 r] : List Value).toArray 196 (0, 0) hm5
  have hfM : Fr (fun b => b = g5) w5 (w5.setRow g5 ([.int .i64 id, .int .i64 r] : List Value).toArray) := Fr.setRow (S := fun b => b = g5) (Fr.refl _ _) _ (fun _ => rfl) _
  obtain ⟨WE, HWE⟩ : ∃ WE, Hid (WE = w5.setRow g5 ([.int .i64 id, .int .i64 r] : List Value).toArray) := ⟨_, rfl⟩
  rw [← HWE.out] at hst hM hfM
  have hSE : S2 WE := hfM.keep hSm hgne
  refine wpOp_skip (o := ⟨none, .store 196 (.tmp 5) (.tmp 13), _, _, _, none⟩) (w' := WE) rfl rfl (exec_store 196 _ _ rfl ⟨g5, 0, none⟩ _ rfl rfl hst) ⟨hSE, ?_⟩
  simp only [Act.put]
  refine wpAnyH_done (by kernel_rfl) ?_ _
  have HE : Hid (WE.heap[g5]? = some (.cells #[.int .i64 id, .int .i64 r] 196 (0, 0)) ∧ WE.heap[w.heap.size]? = some (.cells blk.toArray 130 (0, 0)) ∧ WE.heap[w.heap.size + 1]? = some (.cells #[.int .i64 0, .int .i64 0] 196 (0, 0)) ∧ Fr (fun _ => False) w WE ∧ w.heap.size + 1 < g5) := ⟨hM, hfM.keep (hFm.keep r03 (fun h => h)) (by omega), hfM.keep (hFm.keep r13 (fun h => h)) (by omega), (hF3.trans hFm (fun _ _ h => h)).trans hfM (fun b hb h => by omega), by omega⟩
  clear HWE hst hM hfM hSE hSm hm5
  generalize g5 = gm at *
  go_wp2_with fail
  obtain ⟨h1, h2, h3, h4, h5⟩ := HE.out
  obtain ⟨U3, HU3⟩ : ∃ U3, Hid (U3 = WE.drew) := ⟨_, rfl⟩
  have hfU3 : Fr (fun _ => False) WE U3 := by rw [HU3.out]; exact (Fr.refl _ _).drew
  let S3 : World → Prop := fun w' => w'.heap[gm]? = some (.cells #[.int .i64 id, .int .i64 r] 196 (0, 0)) ∧ w'.heap[w.heap.size]? = some (.cells blk.toArray 130 (0, 0))
  have hS3 : S3 U3 := ⟨hfU3.keep h1 (fun h => h), hfU3.keep h2 (fun h => h)⟩
  refine wp_region_held (S := S3) hlift ?_
  change wpAnyH _ _ _ _ S3 _ _ _ (World.drew _)
  rw [← HU3.out]
  clear HU3
  refine tkY (S := S3) (i := 0) (oi := ⟨some 14, .load 196 (.tmp 5), _, _, _, none⟩) (v := .agg #[.int .i64 id, .int .i64 r]) rfl (Or.inl ⟨rfl, fun w' hs => exec_load 196 (.tmp 5) rfl ⟨gm, 0, none⟩ rfl (loadM hs.1)⟩) hS3 ?_
  simp only [Act.put, lsE, lsZ, lsS]
  refine tkY (S := S3) (i := 2) (oi := ⟨some 16, .load 130 (.tmp 1), _, _, _, none⟩) (v := .agg blk.toArray) rfl (Or.inl ⟨rfl, fun w' hs => exec_load 130 (.tmp 1) rfl ⟨w.heap.size, 0, none⟩ rfl (loadBlk hs.2 hll)⟩) hS3 ?_
  simp only [Act.put, lsE, lsZ, lsS]
  refine wpAnyH_all (rs := [1]) (by kernel_rfl) (by simp) ?_
  intro i1 hi1
  obtain rfl : i1 = 1 := by simpa using hi1
  refine wpOp_call (o := ⟨some 15, .call { callee := .value (.func 151), args := #[(.tmp 14)], argTypes := _ }, _, _, _, none⟩) (f := 151) (args := #[.agg #[.int .i64 id, .int .i64 r]]) rfl rfl (by kernel_rfl) ?_
  refine (HMB U3).mono ?_
  rintro e w8 ⟨rfl, hf8⟩
  have hS8 : S3 w8 := ⟨hf8.keep hS3.1 (fun h => h), hf8.keep hS3.2 (fun h => h)⟩
  refine ⟨_, rfl, hS8, ?_⟩
  simp only [Act.put, lsE, lsZ, lsS]
  refine tkY (S := S3) (i := 3) (oi := ⟨some 17, .binOp .neq 130 (.tmp 15) (.tmp 16) 130, _, _, _, none⟩) (v := .bool false) rfl (Or.inl ⟨rfl, fun w' _ => exec_neq_block rfl rfl rfl (hneq w')⟩) hS8 ?_
  simp only [Act.put, lsE, lsZ, lsS]
  refine wpAnyH_done (by kernel_rfl) ?_ _
  have hf38 := hfU3.trans hf8 (fun _ _ h => h)
  have hm8 := hf38.keep h1 (fun h => h)
  have hz8 := hf38.keep h3 (fun h => h)
  have hF8 : Fr (fun _ => False) w w8 := h4.trans hf38 (fun _ _ h => h)
  have hL8 := loadM hm8
  have hst8 := run_store2 (r := [.int .i64 id, .int .i64 r]) hz8 rfl rfl (by intro v hv; simp at hv; rcases hv with rfl | rfl <;> rfl)
  have hR8 := setRow_heap w8 (w.heap.size + 1) _ ([.int .i64 id, .int .i64 r] : List Value).toArray 196 (0, 0) hz8
  have hfE : Fr (fun b => b = w.heap.size + 1) w8 (w8.setRow (w.heap.size + 1) ([.int .i64 id, .int .i64 r] : List Value).toArray) := Fr.setRow (S := fun b => b = w.heap.size + 1) (Fr.refl _ _) _ (fun _ => rfl) _
  obtain ⟨W9, HW9⟩ : ∃ W9, Hid (W9 = w8.setRow (w.heap.size + 1) ([.int .i64 id, .int .i64 r] : List Value).toArray) := ⟨_, rfl⟩
  rw [← HW9.out] at hst8 hR8 hfE
  have hF9 : Fr (fun _ => False) w W9 := hF8.trans hfE (fun b hb h => by omega)
  have hrg8 : w8.rangeAt gm 0 [.int .i64 id, .int .i64 r] := fun j v hv => (cell_of_row _ _ (0 + j) _ _ _ hm8).trans (by simpa using hv)
  clear HW9 hfE hf38 hz8 hF8 h1 h2 h3 h4 hfU3 hf8 HE
  go_wp2_with (first | (refine wpList_load_mid rfl 196 _ rfl gm 0 ?_ _ _ hrg8 Tryz.underlying196 rfl ?_ ?_; rfl; exact move_size) | (refine wpList_store 196 (w' := W9) _ _ rfl rfl ?_ ?_; exact hst8))
  refine bodyPost_ret (results_row_tmp Tryz.results154 _ _ (w.heap.size + 1) 196 _ (0, 0) _ rfl hR8 Tryz.underlying196 rfl (by rw [move_size]; rfl)) rfl ⟨rfl, hF9⟩
end Go.Proofs.YteebjgfalllbjaaGreatDoor
namespace Go.Proofs.YteebjgfalllbjaaGreatDoor
open Go.RowKit
theorem move_box (w : World) (id r : Int) : ∃ WS, (Instr.storeAt 196 (.pointer (some ⟨w.heap.size, 0, none⟩)) (.agg #[.int .i64 id, .int .i64 r])).run Tryz.prog (w.alloc (.cells #[.int .i64 0, .int .i64 0] 196)) = .ok () WS ∧ WS.heap[w.heap.size]? = some (.cells #[.int .i64 id, .int .i64 r] 196 (0, 0)) ∧ Fr (fun _ => False) w WS := by
 have zr := heap_alloc_at w (.cells ([.int .i64 0, .int .i64 0] : List Value).toArray 196)
 exact ⟨_, run_store2 (r := [.int .i64 id, .int .i64 r]) zr rfl rfl (by intro v hv; simp at hv; rcases hv with rfl | rfl <;> rfl), setRow_heap _ _ _ _ _ _ zr, Fr.setRow (S := fun _ => False) ((Fr.refl _ _).alloc _) _ (fun h => by omega) _⟩
set_option maxRecDepth 100000 in
set_option maxHeartbeats 1000000 in
theorem rcReadM_ok {w : World} {R : Nat} {Q : World → Prop} {fv : Fn} {fa fc : Array Value} (id r : Nat) (hid : id ≤ 1000) (hr : r ≤ 2) (HT : ∀ w', Fr (fun _ => False) w w' → Calls Tryz.prog 76 #[.pointer (some ⟨R, 0, none⟩), .agg #[.int .i64 id, .int .i64 r]] w' fun e w'' => e = .returned (.bool true) ∧ Q w'') :
  Calls Tryz.prog 116 #[.agg (mvB id r).toArray, .func fv fa fc, .func (.func 76) #[.pointer (some ⟨R, 0, none⟩)] #[]] w fun e w' => e = .returned (.bool true) ∧ Q w' := by
 have hbl := bodyM_len id r
 have hll : (mvB id r).length = 128 := ldB_len 3 _ hbl 4 (by omega)
 have hk : (mvB id r)[0]? = some (.int .u8 3) := ldB_kind 3 _ hbl 0 (by omega)
 have HS := fun w' => readMove_ok w' id r hid hr
 obtain ⟨blk, HB⟩ : ∃ blk, Hid (blk = mvB id r) := ⟨_, rfl⟩
 rw [← HB.out] at hll hk HS ⊢
 have hrow := heap_alloc_at w (.cells blk.toArray 130)
 have hfa : Fr (fun _ => False) w (w.alloc (.cells blk.toArray 130)) := (Fr.refl _ _).alloc _
 have c0 : (w.alloc (.cells blk.toArray 130)).cell? ⟨w.heap.size, 0, none⟩ = some (.int .u8 3) := (cell_of_row _ _ 0 _ _ _ hrow).trans (by rw [List.getElem?_toArray]; exact hk)
 have hM : (w.alloc (.cells blk.toArray 130)).rangeAt w.heap.size 0 blk := fun j v hv => (cell_of_row _ _ (0 + j) _ _ _ hrow).trans (by simpa using hv)
 go_enter Tryz.func116, Tryz.ntmps116
 go_wp2_with (first | (refine wpList_load_mid rfl 130 _ rfl w.heap.size 0 ?_ _ _ hM Tryz.underlying130 rfl ?_ ?_; rfl; (rw [block_size, hll])))
 refine (HS _).mono ?_
 rintro e w2 ⟨rfl, hf2⟩
 have hF2 : Fr (fun _ => False) w w2 := hfa.trans hf2 (fun _ _ h => h)
 clear hrow hfa c0 hM hf2 HS
 obtain ⟨WS, hst, hrS, hfS⟩ := move_box w2 id r
 have hFS : Fr (fun _ => False) w WS := hF2.trans hfS (fun _ _ h => h)
 have hL := loadM hrS
 have HT' := HT WS hFS
 clear hF2 hfS HT
 go_wp2_with (first | (refine wpList_store 196 (w' := WS) _ _ rfl rfl ?_ ?_; exact hst) | (refine wpList_wanted ?_ (exec_load 196 (.tmp 7) rfl ⟨w2.heap.size, 0, none⟩ rfl hL) ?_; (first | rfl | kernel_rfl | simp [Region.wanted, yielded])))
 refine HT'.mono ?_
 rintro e w5 ⟨rfl, hQ⟩
 have HQ : Hid (Q w5) := hQ
 clear hQ HT' hL hst hrS hFS
 go_wp2
 go_ret
 exact ⟨rfl, HQ.out⟩
set_option maxRecDepth 100000 in
theorem Find11M_ok {w : World} {R X3 X4 : Nat} {Q : World → Prop} {fv : Fn} {fa fc : Array Value} (id r : Nat) (hid : id ≤ 1000) (hr : r ≤ 2)
  (h3 : w.heap[X3]? = some (.cells #[.func fv fa fc] 127 (0, 0))) (h4 : w.heap[X4]? = some (.cells #[.func (.func 76) #[.pointer (some ⟨R, 0, none⟩)] #[]] 162 (0, 0)))
  (HT : ∀ w', Fr (fun _ => False) w w' → Calls Tryz.prog 76 #[.pointer (some ⟨R, 0, none⟩), .agg #[.int .i64 id, .int .i64 r]] w' fun e w'' => e = .returned (.bool true) ∧ Q w'') :
  Calls Tryz.prog 115 #[.agg (mvB id r).toArray, .pointer (some ⟨X3, 0, none⟩), .pointer (some ⟨X4, 0, none⟩)] w fun e w' => e = .returned (.bool true) ∧ Q w' := by
 have hbl := bodyM_len id r
 have hll : (mvB id r).length = 128 := ldB_len 3 _ hbl 4 (by omega)
 have HR : ∀ W, Fr (fun _ => False) w W → Calls Tryz.prog 116 #[.agg (mvB id r).toArray, .func fv fa fc, .func (.func 76) #[.pointer (some ⟨R, 0, none⟩)] #[]] W fun e w' => e = .returned (.bool true) ∧ Q w' := fun W hf => rcReadM_ok id r hid hr (fun w' hf' => HT w' (hf.trans hf' (fun _ _ h => h)))
 obtain ⟨blk, HB⟩ : ∃ blk, Hid (blk = mvB id r) := ⟨_, rfl⟩
 rw [← HB.out] at hll HR ⊢
 have hrow := heap_alloc_at w (.cells blk.toArray 130)
 have hfa : Fr (fun _ => False) w (w.alloc (.cells blk.toArray 130)) := (Fr.refl _ _).alloc _
 have hM : (w.alloc (.cells blk.toArray 130)).rangeAt w.heap.size 0 blk := fun j v hv => (cell_of_row _ _ (0 + j) _ _ _ hrow).trans (by simpa using hv)
 have c3 : (w.alloc (.cells blk.toArray 130)).cell? ⟨X3, 0, none⟩ = some (.func fv fa fc) := (cell_of_row _ _ 0 _ _ _ (hfa.keep h3 (fun h => h))).trans rfl
 have c4 : (w.alloc (.cells blk.toArray 130)).cell? ⟨X4, 0, none⟩ = some (.func (.func 76) #[.pointer (some ⟨R, 0, none⟩)] #[]) := (cell_of_row _ _ 0 _ _ _ (hfa.keep h4 (fun h => h))).trans rfl
 have HR' := HR _ hfa
 clear HR HT
 go_enter Tryz.func115, Tryz.ntmps115
 go_wp2_with (first | (refine wpList_load_mid rfl 130 _ rfl w.heap.size 0 ?_ _ _ hM Tryz.underlying130 rfl ?_ ?_; rfl; (rw [block_size, hll])))
 refine HR'.mono ?_
 rintro e w5 ⟨rfl, hQ⟩
 have HQ : Hid (Q w5) := hQ
 clear hQ HR' hrow hfa hM c3 c4
 go_wp2
 go_ret
 exact ⟨rfl, HQ.out⟩
end Go.Proofs.YteebjgfalllbjaaGreatDoor
