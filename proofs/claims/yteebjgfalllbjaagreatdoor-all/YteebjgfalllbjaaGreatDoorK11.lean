import Derived.Test.YteebjgfalllbjaaGreatDoorK0
import Derived.Lib.BufferWrite
namespace Go.Proofs.YteebjgfalllbjaaGreatDoor
open Go.RowKit Go.Proofs.Tryz
set_option maxRecDepth 100000
set_option maxHeartbeats 1000000
theorem vL:(prog.info? 5).map (fun i=>(i.zero,i.size,i.bytes))=some (some (.int .u8 0),1,1):=by kernel_rfl
theorem vY:(prog.info? 5).map (·.size)=some 1:=by kernel_rfl
theorem rC:prog.cellsOf 5=1:=by kernel_rfl
theorem up(s:ByteArray)(w:World)(H:s.size≤1000000):Calls prog 137 #[.string s] w fun e C=>e= .returned (.string s)∧Fr (fun _=>False) w C:=by
 by_cases z:s.size=0
 ·obtain rfl:s=⟨#[]⟩:=ByteArray.ext (Array.eq_empty_of_size_eq_zero z);go_enter func137,ntmps137;go_wp2;go_ret;exact⟨rfl,Fr.refl _ _⟩
 ·obtain⟨i,hi,q,r,t⟩:=Dn vL;have a:s.data.toList.length=s.size:=rfl;obtain⟨M,u⟩:=aw (madeCells (Value.int .u8 0).cells (s.size*i.size));obtain⟨o,b⟩:∃W,Hid (W=w.alloc (.cells M 5)):=⟨_,rfl⟩;have D:(Instr.makeSlice 85 (.int .i64 s.size) (.int .i64 s.size)).run prog w= .ok (.slice (some ⟨w.heap.size,0,none⟩) s.size s.size) o:=by have h:=run_make (P:=prog) w 85 5 i (.int .u8 0) underlying85 hi q .i64 .i64 s.size s.size (by omega) (by omega) (by rw[t];omega) (by omega);rw[b.out,u.out];simpa using h
  have v:M.size=s.size:=by rw[u.out,FN,r];omega
  have d:o.heap[w.heap.size]?=some (.cells M 5 (0,0)):=by rw[b.out];exact aa _ _
  have l:=Lib.run_copy_row_string (P:=prog) o 85 9 3 5 w.heap.size 0 s.size s.size s M 5 underlying85 vY d (Cs _) (by omega);have A:(M.toList.take 0++Lib.byteCells s.data.toList++M.toList.drop (0+s.size))=Lib.byteCells s.data.toList:=by rw[Dc,Dr,CP (by rw[DM];omega),D4]
  rw[A]at l;obtain⟨m,c⟩:∃W,Hid (W=o.setRow w.heap.size (Lib.byteCells s.data.toList).toArray):=⟨_,rfl⟩;rw[←c.out]at l;have f:m.heap[w.heap.size]?=some (.cells (Lib.byteCells s.data.toList).toArray 5 (0,0)):=by rw[c.out];exact CA _ _ _ _ _ _ d
  have n:s.data.toList≠[]:=fun e=>z (by rw[←a,e];rfl);have y:=Lib.run_unsafeString_row (P:=prog) m 256 3 9 5 underlying256 rC w.heap.size s.size (by unfold World.shape?;rw[f];simp[Lib.byteCells_length,a]) s.data.toList n (by omega) (by omega) (fun j x E=>by rw[DF,D5,Cn m _ _ _ _ _ f];simp[Lib.byteCells,E]);rw[a]at y;have g:Below w.heap.size w (m.freeze ⟨w.heap.size,0,none⟩ s.size):=by refine Lib.below_freeze ?_ (p:=⟨w.heap.size,0,none⟩) (Cs _) _;rw[c.out,b.out];exact((EX _ w).alloc (Cs _) _).trans ⟨rfl,rfl,rfl,by simp,fun k B=>DB _ _ _ _ (by omega)⟩
  have F:Hid (Fr (fun _=>False) w (m.freeze ⟨w.heap.size,0,none⟩ s.size)):=⟨g.os,g.tape,g.output,g.size,fun k B _=>g.block k B⟩;have G:¬(s.size:Int)=0:=by omega
  clear d f A g b c u v n;go_enter func137,ntmps137;go_wp2;go_ret;exact⟨rfl,F.out⟩
theorem pu(s:ByteArray)(w:World)(b:s.size≤1000000):Calls prog 89 #[.string s] w fun e a=>e= .returned (.string s)∧Fr (fun _=>False) w a:=by go_enter func89,ntmps89;go_wp2_with fail;refine(up s w b).mono ?_;rintro e a ⟨rfl,c⟩;go_wp2;go_ret;exact⟨rfl,c⟩
theorem ui(w:World)(g o:Nat)(l:List UInt8)(k:Nat)(f:l.length=8)(p:k<256)(h:∀j (d:j<l.length),w.cell? ⟨g,o+j,none⟩=some (.int .u8 (l[j].toNat:Int))):Calls prog 166 #[.slice (some ⟨g,o,none⟩) 8 8,.int .u8 k] w fun e i=>e= .returned (.string ⟨(l.take k).toArray⟩)∧i=w:=by
 have a:∀c,(convert 85 9 (.slice (some ⟨g,o,none⟩) (l.take k).length c)).run prog w= .ok (.string ⟨(l.take k).toArray⟩) w:=fun c=>
  run_convert_bytes_back w 85 9 5 ⟨g,o,none⟩ c (l.take k) underlying85 underlying5 underlying9 (fun j d=>by
   have m:j<l.length:=by rw[Cy]at d;omega
   have:=h j m;rcases FP j with rfl|n
   ·simpa[Addr.add]using this
   ·have b:¬j=0:=by omega
    simpa[Addr.add,b]using this)
 rw[Cy,f]at a;by_cases q:(k:Int)≤8
 ·have e:min k 8=k:=by omega
  rw[e]at a;go_enter func166,ntmps166;go_wp2;go_ret;exact⟨rfl,rfl⟩
 ·have e:min k 8=8:=by omega
  rw[e]at a;go_enter func166,ntmps166;go_wp2;go_ret;exact⟨rfl,rfl⟩
end Go.Proofs.YteebjgfalllbjaaGreatDoor
