import Derived.Test.YteebjgfalllbjaaGreatDoorK8
namespace Go.Proofs.YteebjgfalllbjaaGreatDoor
open Go.RowKit Go.Proofs.Tryz
def zP(w:World)(r:RS):Prop:=∃g,r.ma=some ⟨g,0,none⟩∧w.heap[g]?=some (.cells #[.int .i64 r.S.1,.int .i64 r.S.2] 220 (0,0))
theorem fp:(prog.info? 220).map (fun i=>(i.zero,i.size,i.bytes))=some (some (.agg #[.int .i64 0,.int .i64 0]),2,16):=by kernel_rfl
theorem ke{w:World}{g o:Nat}{s:ST}(h:w.rangeAt g o s.cs):w.cell? ⟨g,o,none⟩=some (.int .i64 s.id)∧w.cell? ⟨g,o+1,none⟩=some (.int .i64 s.state)∧w.cell? ⟨g,o+2,none⟩=some (.int .i64 s.step)∧w.cell? ⟨g,o+3,none⟩=some (.int .i64 s.steps)∧w.cell? ⟨g,o+4,none⟩=some (.int .i64 s.tries)∧w.cell? ⟨g,o+5,none⟩=some (.int .i64 s.due):=⟨h 0 _ rfl,h 1 _ rfl,h 2 _ rfl,h 3 _ rfl,h 4 _ rfl,h 5 _ rfl⟩
def aQ(w:World)(B:Nat)(r:RS):Prop:=w.heap[B]?=some (.cells r.cs.toArray 223 (0,0))
theorem aQ.c{w:World}{B:Nat}{r:RS}(h:aQ w B r):zW w B 0 r.id r.sa r.st.length r.sc r.S.1 r.S.2 r.tries r.due r.ma r.may.length r.mc:=cH (fun j v a=>by rw[Cn w B _ _ _ _ h,D5];simpa using a)
theorem aQ.fz{w:World}{B:Nat}{r:RS}(h:aQ w B r)(j:Nat):w.frozen? ⟨B,j,none⟩=false:=CN w B j _ _ h
theorem kD{w:World}{B:Nat}{r:RS}(S:SP)(h:aQ w B r):(Instr.storeAt 220 (.pointer (some ⟨B,2,none⟩)) (.agg #[.int .i64 S.1,.int .i64 S.2])).run prog w= .ok () (w.setRow B ({r with S:=S}:RS).cs.toArray)∧aQ (w.setRow B ({r with S:=S}:RS).cs.toArray) B {r with S:=S}:=by have:=au (P:=prog) (o:=2) (ty:=220) (vs:=[.int .i64 S.1,.int .i64 S.2]) h (by simp[RS.cs]) (by simp[Value.oneCell']) (by kernel_rfl);exact⟨this,CA _ _ _ _ _ _ h⟩
theorem eh.set{w a:World}{D i:Nat}{v:Value}(h:Fr (· =D) w a):Fr (· =D) w (a.setCell ⟨D,i,none⟩ v):=h.setCell _ (fun _=>rfl) _
end Go.Proofs.YteebjgfalllbjaaGreatDoor
