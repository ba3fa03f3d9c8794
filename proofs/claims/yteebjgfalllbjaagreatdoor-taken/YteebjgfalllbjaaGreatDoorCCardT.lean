import Derived.Test.YteebjgfalllbjaaGreatDoorCRowT
import Derived.Test.YteebjgfalllbjaaGreatDoorTie
import Derived.Test.YteebjgfalllbjaaGreatDoorCards
namespace Go.Proofs.YteebjgfalllbjaaGreatDoor
open Go

theorem plain (f : FuncId) (fn : Func) (hf : Tryz.pinned.checked.prog.funcNamed "sagas/sagaskeep.Taken" = some f) (hfn : Tryz.pinned.checked.prog.funcs[f]? = some fn) :
    true = Tryz.pinned.checked.prog.looks [] ∧ ∀ (j : Nat) t, fn.params[j]? = some t → Tryz.pinned.checked.prog.wantsStandIn t = false := by
  obtain rfl : f = 12 := Option.some.inj ((show Tryz.prog.funcNamed "sagas/sagaskeep.Taken" = some 12 by kernel_rfl).symm.trans hf) |>.symm
  obtain rfl : fn = Tryz.f12 := (Option.some.inj (Tryz.func12.symm.trans hfn)).symm
  refine ⟨by kernel_rfl, fun j t ht => ?_⟩
  rw [Tryz.params12] at ht
  have hm := Array.mem_of_getElem? ht
  have ht' : t = 3 ∨ t = 24 := by simp at hm; first | exact hm | exact hm.symm | (rcases hm with h | h | h <;> first | exact .inl h | exact .inr h) | (rcases hm with h | h <;> first | exact .inl h | exact .inr h)
  rcases ht' with rfl | rfl
  · exact (show Tryz.prog.wantsStandIn 3 = false by kernel_rfl)
  · exact (show Tryz.prog.wantsStandIn 24 = false by kernel_rfl)

theorem taken_card : Rows.TakenCardSaid :=
  Claim7.holds_tied_plain_at .later [] _ _ _ _ said (fun _ h => by cases h) (by kernel_rfl) (fun _ h => by cases h) taken_row_tie rfl ⟨rfl, rfl⟩ (by kernel_rfl) rfl plain (by kernel_rfl)
end Go.Proofs.YteebjgfalllbjaaGreatDoor
