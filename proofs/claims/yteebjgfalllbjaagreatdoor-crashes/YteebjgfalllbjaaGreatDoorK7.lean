import Derived.Test.YteebjgfalllbjaaGreatDoorK6
namespace Go.Proofs.YteebjgfalllbjaaGreatDoor
open Go.RowKit
def lx(ch:List ST)(w:World)(e:Ending)(b:World):Prop:=∃c a,e= .returned (.slice c ch.length a)∧aY b c 6 (ch.map ST.cs)∧Fr (fun _=>False) w b
def zW(w:World)(g o:Nat)(id:Int)(a:Option Addr)(b c:Nat)(d e f h:Int)(ma:Option Addr)(i mc:Nat):Prop:=w.cell? ⟨g,o,none⟩=some (.int .i64 id)∧w.cell? ⟨g,o+1,none⟩=some (.slice a b c)∧w.cell? ⟨g,o+2,none⟩=some (.int .i64 d)∧w.cell? ⟨g,o+3,none⟩=some (.int .i64 e)∧w.cell? ⟨g,o+4,none⟩=some (.int .i64 f)∧w.cell? ⟨g,o+5,none⟩=some (.int .i64 h)∧w.cell? ⟨g,o+6,none⟩=some (.slice ma i mc)
theorem cH{w:World}{g o:Nat}{r:RS}(h:w.rangeAt g o r.cs):zW w g o r.id r.sa r.st.length r.sc r.S.1 r.S.2 r.tries r.due r.ma r.may.length r.mc:=⟨h 0 _ rfl,h 1 _ rfl,h 2 _ rfl,h 3 _ rfl,h 4 _ rfl,h 5 _ rfl,h 6 _ rfl⟩
theorem aW{w a:World}{g o:Nat}{cs:List Value}(h:w.rangeAt g o cs)(b:Fr (fun _=>False) w a):a.rangeAt g o cs:=fun j v c=>b.cell (h j v c) jI
end Go.Proofs.YteebjgfalllbjaaGreatDoor
