import Derived.Test.YteebjgfalllbjaaGreatDoorCLlAsTl
namespace Go.Proofs.YteebjgfalllbjaaGreatDoor
open Go.RowKit

def zST : ST := ⟨0, 0, 0, 0, 0, 0⟩

end Go.Proofs.YteebjgfalllbjaaGreatDoor
namespace Go.Proofs.YteebjgfalllbjaaGreatDoor
open Go.RowKit

def MayAt (w : World) (r : RS) : Prop := ∃ g, r.ma = some ⟨g, 0, none⟩ ∧ w.heap[g]? = some (.cells #[.int .i64 r.S.1, .int .i64 r.S.2] 220 (0, 0))

end Go.Proofs.YteebjgfalllbjaaGreatDoor
namespace Go.Proofs.YteebjgfalllbjaaGreatDoor
open Go.RowKit


/-- Steps that nobody writes any more. -/
def StepsAt (w : World) (b : Nat) (sa : Option Addr) (sc : Nat) (st : List SS) : Prop := w.ownsRow b 165 2 (.slice sa st.length sc) st.length (scells st)
/-- The sagas of a disk of the script, by the document. -/
structure LAt (w : World) (b : Nat) (Lv : Value) (L : List RS) : Prop where
  o : w.ownsRow b 223 7 Lv L.length (rcells L)
  s : ∀ r ∈ L, StepsAt w b r.sa r.sc r.st
  m : ∀ r ∈ L, MayAt w r ∧ r.may = [r.S] ∧ r.mc = 1
  n : ∀ r ∈ L, r.st.length ≤ 100000

end Go.Proofs.YteebjgfalllbjaaGreatDoor
