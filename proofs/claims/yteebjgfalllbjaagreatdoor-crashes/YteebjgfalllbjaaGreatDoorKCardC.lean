import Derived.Test.YteebjgfalllbjaaGreatDoorKRowC
import Derived.Test.YteebjgfalllbjaaGreatDoorTie
import Derived.Test.YteebjgfalllbjaaGreatDoorCards
namespace Go.Proofs.YteebjgfalllbjaaGreatDoor
open Go.Proofs.Tryz
theorem plain(f:FuncId)(a:Func)(d:Tryz.pinned.checked.prog.funcNamed "sagas/sagaslaw.Crashes" =some f)(b:Tryz.pinned.checked.prog.funcs[f]?=some a):true=Tryz.pinned.checked.prog.looks []∧∀(j:Nat) t,a.params[j]?=some t→Tryz.pinned.checked.prog.wantsStandIn t=false:=by
 obtain rfl:f=6:=Es ((show prog.funcNamed "sagas/sagaslaw.Crashes" =some 6 by kernel_rfl).symm.trans d)|>.symm;obtain rfl:a=Tryz.f6:=(Es (Tryz.func6.symm.trans b)).symm;refine⟨by kernel_rfl,fun j t c=>?_⟩;rw[Tryz.params6]at c;obtain rfl:t=22:=by simpa using Array.mem_of_getElem? c
 exact(show prog.wantsStandIn 22=false by kernel_rfl)
theorem crashes_card:Rows.CrashesCardSaid:=Claim7.holds_tied_plain_at .later [] _ _ _ _ A9 (fun _ h=>by cases h) (by kernel_rfl) (fun _ h=>by cases h) crashes_row_tie rfl ⟨rfl,rfl⟩ (by kernel_rfl) rfl plain (by kernel_rfl)
end Go.Proofs.YteebjgfalllbjaaGreatDoor
