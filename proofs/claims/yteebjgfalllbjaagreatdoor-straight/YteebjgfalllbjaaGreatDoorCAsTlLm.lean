import Derived.Test.YteebjgfalllbjaaGreatDoorCFrRfRg
import Derived.Test.YteebjgfalllbjaaGreatDoorProg
import Derived.LaidEql
import Derived.Stop.Asserts
import Derived.RowKitTokens
import Derived.WalkSpells
import Derived.WalkLawsBesides
import Derived.Test.YteebjgfalllbjaaGreatDoorCRjLsLk
namespace Go.Proofs.YteebjgfalllbjaaGreatDoor
open Go.RowKit Go.Extern.Stop Go.Stop Go.Extern

theorem rl_methodKind (h : Value) (w : World) : (Go.method 410 198 (.agg #[h]) "Kind").run Tryz.prog w = .ok (201, h) w := by kernel_rfl
theorem rlm (m : Array Value → Type) (v : Value) (h1 : (v : Value) → m #[v]) (h2 : (y : Array Value) → m y) : ReflectliteValue.method.match_2 m #[v] h1 h2 = h1 v := rfl
theorem rl_methodElem (h : Value) (w : World) : (Go.method 410 198 (.agg #[h]) "Elem").run Tryz.prog w = .ok (219, .agg #[h]) w := by kernel_rfl
theorem rl_methodImplements (h : Value) (w : World) : (Go.method 410 198 (.agg #[h]) "Implements").run Tryz.prog w = .ok (220, .agg #[h]) w := by kernel_rfl
theorem rl_methodAssignable (h : Value) (w : World) : (Go.method 410 198 (.agg #[h]) "AssignableTo").run Tryz.prog w = .ok (217, .agg #[h]) w := by kernel_rfl
theorem rls (m : Array Value → Type) (v x : Value) (h1 : (v x : Value) → m #[v, x]) (h2 : (y : Array Value) → m y) : ReflectliteValue.set.match_3 m #[v, x] h1 h2 = h1 v x := rfl
end Go.Proofs.YteebjgfalllbjaaGreatDoor
namespace Go.Proofs.YteebjgfalllbjaaGreatDoor
open Go.RowKit

def ErrAt (w : World) (v : Value) (k : Int) : Prop := (v = .nilIface ∧ k = 0) ∨ (∃ g s, v = .iface 117 (.pointer (some ⟨g, 0, none⟩)) ∧ w.heap[g]? = some (.cells #[.string s, .iface 59 (.int .i64 k)] 119 (0, 0)) ∧ k ≠ 0)
def GOk (w : World) : Prop := w.cell? ⟨0, 0, none⟩ = some (.iface 198 (.agg #[.pointer (some ⟨4, 36, none⟩)]))
theorem GOk.fr {S : Nat → Prop} {w w' : World} (h : GOk w) (hf : Fr S w w') (hn : ¬ S 0) : GOk w' := hf.cell h hn
end Go.Proofs.YteebjgfalllbjaaGreatDoor
namespace Go.Proofs.YteebjgfalllbjaaGreatDoor
open Go.RowKit

def zST : ST := ⟨0, 0, 0, 0, 0, 0⟩

end Go.Proofs.YteebjgfalllbjaaGreatDoor
