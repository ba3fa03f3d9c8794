import Derived.Test.YteebjgfalllbjaaGreatDoorCFrRfRg
import Derived.Laws.AppendOwnNone
import Derived.Test.YteebjgfalllbjaaGreatDoorCOhWriteFlush
import Derived.StillTail
import Derived.Test.YteebjgfalllbjaaGreatDoorCApiReadBs
namespace Go.Proofs.YteebjgfalllbjaaGreatDoor
open Go.RowKit

theorem RS.len (r : RS) : r.cs.length = 7 := rfl
def rcells (L : List RS) : List Value := (L.map RS.cs).flatten

end Go.Proofs.YteebjgfalllbjaaGreatDoor
namespace Go.Proofs.YteebjgfalllbjaaGreatDoor
open Go.RowKit

def scells (st : List SS) : List Value := (st.map stv).flatten
theorem scells_len (st : List SS) : (scells st).length = st.length * 2 := by
 induction st with
 | nil => rfl
 | cons a l ih =>
  have e : scells (a :: l) = stv a ++ scells l := by simp [scells]
  rw [e, List.length_append, ih]; simp [stv]; omega
theorem scells_append (a b : List SS) : scells (a ++ b) = scells a ++ scells b := by simp [scells]
def none2 : SS := (⟨#[]⟩, ⟨#[]⟩)
theorem splice_step (a b : List SS) (p q : SS) : splice (scells (a ++ q :: b)) (a.length * 2) (stv p) = scells (a ++ p :: b) := by
 have e : scells (a ++ q :: b) = scells a ++ (stv q ++ scells b) := by rw [scells_append]; simp [scells]
 have e2 : scells (a ++ p :: b) = scells a ++ (stv p ++ scells b) := by rw [scells_append]; simp [scells]
 have hl := scells_len a
 rw [e, e2, splice, List.take_left' hl, List.drop_append, hl, List.drop_of_length_le (by rw [hl]; simp [stv])]
 simp [stv]
theorem astep_info : (Tryz.prog.info? 58).map (fun i => (i.zero, i.size, i.bytes)) = some (some (.agg #[.string ⟨#[]⟩, .string ⟨#[]⟩]), 2, 32) := by kernel_rfl
theorem stv_one (p : SS) : ∀ v ∈ stv p, v.oneCell' = true := by
 intro v hv
 simp only [stv, List.mem_cons, List.not_mem_nil, or_false] at hv
 rcases hv with rfl | rfl <;> rfl

end Go.Proofs.YteebjgfalllbjaaGreatDoor
namespace Go.Proofs.YteebjgfalllbjaaGreatDoor
open Go.RowKit

def lc (A Pp n : Nat) (nn : Bool) (x : Value) (pause clock : Int) (Lv : Value) : Array Value :=
 #[.pointer (some ⟨A, 0, none⟩), .pointer (some ⟨Pp, 0, none⟩), .int .i64 n, .bool nn, .bool false, x, .int .i64 pause, .int .i64 clock, .bool false, Lv]
def LawAt (w : World) (D A Pp n : Nat) (nn : Bool) (x : Value) (pause clock : Int) (Lv : Value) : Prop := w.heap[D]? = some (.cells (lc A Pp n nn x pause clock Lv) 111 (0, 0))
section
variable {w w' : World} {D A Pp n : Nat} {nn : Bool} {x Lv : Value} {pause clock : Int}
end

structure ST where
 id : Int
 state : Int
 step : Int
 steps : Int
 tries : Int
 due : Int
def ST.cs (s : ST) : List Value := [.int .i64 s.id, .int .i64 s.state, .int .i64 s.step, .int .i64 s.steps, .int .i64 s.tries, .int .i64 s.due]

end Go.Proofs.YteebjgfalllbjaaGreatDoor
