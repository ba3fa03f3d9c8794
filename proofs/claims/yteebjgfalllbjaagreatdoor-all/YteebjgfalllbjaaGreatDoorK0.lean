import Derived.WalkKit
import Derived.Deep.MidRow
import Derived.Laws.CopyOwn
import Derived.Deep.WholeRow
import Derived.Deep.AppendLies
import Derived.Deep.DeepCutAuto
import Derived.Test.YteebjgfalllbjaaGreatDoorProg
import Derived.OrdersHeld
import Derived.WalkSpells
import Derived.WalkLawsBesides
import Derived.Deep.DeepMust
namespace Go.Proofs.YteebjgfalllbjaaGreatDoor
open Go.RowKit Go.Proofs.Tryz
set_option maxRecDepth 100000
set_option maxHeartbeats 1000000
abbrev Cn:=@Go.cell_of_row
abbrev Co:=@List.getElem?_eq_some_iff
abbrev Cp:=@List.getElem?_eq_getElem
abbrev Cq:=@List.mem_of_getElem?
abbrev Cr:=@List.length_append
abbrev Cs:=@Nat.le_refl
abbrev Ct:=@Nat.le_trans
abbrev Cu:=@Option.some.injEq
abbrev Cv:=@List.mem_append
abbrev Cw:=@Go.World.block_lt_of_cell?
abbrev Cx:=@List.mem_map
abbrev Cy:=@List.length_take
abbrev Cz:=@if_neg
abbrev CA:=@Go.setRow_heap
abbrev CC:=@Go.wpList_load_mid
abbrev CD:=@Go.World.cell?_alloc_lt
abbrev CE:=@if_pos
abbrev CF:=@List.mem_cons
abbrev CG:=@List.getElem?_append_right
abbrev CH:=@Nat.zero_le
abbrev CI:=@List.getElem?_append_left
abbrev CJ:=@Go.bodyPost_ret
abbrev CK:=@List.getElem?_map
abbrev CM:=@List.length_singleton
abbrev CN:=@Go.frozen_of_row
abbrev CO:=@List.take_of_length_le
abbrev CP:=@List.drop_of_length_le
abbrev CQ:=@List.drop_succ_cons
abbrev CR:=@List.length_map
abbrev CS:=@Go.Result.andThen_ok
abbrev CT:=@Go.World.ownsRow_nil
abbrev CU:=@List.mem_of_mem_take
abbrev CV:=@List.map_append
abbrev CW:=@List.take_succ_cons
abbrev CX:=@List.take_append_drop
abbrev CY:=@List.map_cons
abbrev CZ:=@Go.World.news_of_block
abbrev D1:=@List.take_add_one
abbrev D2:=@List.drop_zero
abbrev D3:=@List.eq_nil_of_length_eq_zero
abbrev D4:=@List.append_nil
abbrev D5:=@Nat.zero_add
abbrev D6:=@List.mem_replicate
abbrev D7:=@List.pairwise_iff_getElem
abbrev D8:=@List.mem_of_mem_drop
abbrev D9:=@Go.Sem.run_bind
abbrev Da:=@List.getElem?_eq_none
abbrev Db:=@List.mem_singleton
abbrev Dc:=@List.take_zero
abbrev Dd:=@Go.results_cell_row
abbrev De:=@List.getElem?_toArray
abbrev Df:=@List.size_toArray
abbrev Dg:=@decide_eq_true
abbrev Dh:=@of_decide_eq_true
abbrev Di:=@Go.heap_alloc2_new
abbrev Dj:=@List.take_length
abbrev Dk:=@List.drop_eq_getElem_cons
abbrev Dl:=@decide_eq_false
abbrev Dm:=@List.length_replicate
abbrev Dn:=@Go.info_parts
abbrev Do:=@Option.map_eq_some_iff
abbrev Dp:=@Go.World.frozen?_alloc_old
abbrev Dq:=@Go.run_loadAt_mid
abbrev Dr:=@List.nil_append
abbrev Ds:=@List.pairwise_cons
abbrev Dt:=@List.pairwise_append
abbrev Du:=@Go.Sem.run_pure
abbrev Dv:=@List.map_map
abbrev Dw:=@List.pairwise_map
abbrev Dx:=@List.length_drop
abbrev Dy:=@List.not_mem_nil
abbrev Dz:=@List.mem_map_of_mem
abbrev DA:=@List.length_cons
abbrev DB:=@Go.setRow_other
abbrev DC:=@Nat.le_succ
abbrev DD:=@Go.wpList_append_own
abbrev DE:=@List.getElem?_take
abbrev DF:=@Go.Addr.add_mid
abbrev DH:=@List.take_append_of_le_length
abbrev DJ:=@Nat.add_sub_cancel_left
abbrev DL:=@Int.le_refl
abbrev DM:=@Array.length_toList
abbrev DN:=@List.drop_append
abbrev DO:=@decide_eq_true_eq
abbrev DU:=@List.map_congr_left
abbrev DV:=@List.length_set
abbrev DW:=@Go.Value.slice.injEq
abbrev DX:=@List.ext_getElem?
abbrev DY:=@Go.wpAnyH_take
abbrev DZ:=@List.mem_iff_getElem
abbrev E3:=@List.getElem?_drop
abbrev E4:=@Go.IntKind.wrap_i64
abbrev E5:=@Go.wp_region_still_lit
abbrev E6:=@List.mem_iff_getElem?
abbrev E7:=@Nat.le_succ_of_le
abbrev E8:=@List.getElem?_set
abbrev E9:=@List.getElem?_replicate
abbrev Ea:=@Nat.lt_of_lt_of_le
abbrev Eb:=@Int.lt_of_le_of_lt
abbrev Ec:=@Go.Addr.mk.injEq
abbrev Ed:=@List.map_nil
abbrev Ee:=@List.mem_flatten
abbrev Ef:=@List.getElem_mem
abbrev Eg:=@Go.World.cell?_setCell_other
abbrev Eh:=@Go.wpAnyH_all
abbrev Ei:=@List.flatten_cons
abbrev Ej:=@congrArg
abbrev Ek:=@Go.wp_append_lies
abbrev El:=@List.getElem?_take_of_lt
abbrev Em:=@Nat.sub_self
abbrev En:=@List.cons_append
abbrev Eo:=@List.setIfInBounds_toArray
abbrev Ep:=@List.append_assoc
abbrev Er:=@List.sum_append_nat
abbrev Es:=@Option.some.inj
abbrev Et:=@List.mem_filter
abbrev Eu:=@List.set_append_right
abbrev Ev:=@Bool.false_eq_true
abbrev Ew:=@List.getElem_set
abbrev Ex:=@Go.World.cell?_setCell_same
abbrev Ey:=@Bool.eq_false_or_eq_true
abbrev Ez:=@Std.Legacy.Range.forIn_eq_forIn_range'
abbrev EA:=@List.take_left'
abbrev EB:=@List.replicate_succ
abbrev EC:=@List.map_toArray
abbrev EF:=@or_false
abbrev EH:=@List.length_filter_le
abbrev EI:=@List.mem_or_eq_of_mem_set
abbrev EJ:=@Nat.lt_trichotomy
abbrev EK:=@List.sum_cons
abbrev EL:=@List.takeWhile_append_dropWhile
abbrev EM:=@Go.wpAny_all
abbrev EN:=@List.getElem?_cons_succ
abbrev EO:=@Go.wpAny_take
abbrev EP:=@List.drop_eq_nil_of_le
abbrev EQ:=@List.getElem_cons_drop
abbrev ER:=@and_true
abbrev ES:=@List.length_nil
abbrev ET:=@Go.wp_region_held
abbrev EU:=@List.take_take
abbrev EW:=@Go.run_neq_struct
abbrev EX:=@Go.RowKit.Below.refl
abbrev EY:=@Go.World.cell?_of_block
abbrev EZ:=@List.getD_eq_getElem?_getD
abbrev F4:=@List.dropLast_concat
abbrev F5:=@Nat.zero_mul
abbrev F6:=@Array.getElem?_eq_getElem
abbrev F7:=@Go.wpS_region
abbrev F8:=@List.set_cons_zero
abbrev F9:=@List.filter_append
abbrev Fa:=@Go.wpList_append_lies
abbrev Fb:=@List.set_eq_take_append_cons_drop
abbrev Fc:=@List.take_succ_eq_append_getElem
abbrev Fe:=@Go.run_underlying
abbrev Ff:=@Nat.ne_of_lt
abbrev Fg:=@Go.cell_setRow_other
abbrev Fh:=@Go.run_sliceAt_slice
abbrev Fj:=@Array.getElem?_setIfInBounds_ne
abbrev Fk:=@List.replicate_append_replicate
abbrev Fl:=@Array.getElem?_toList
abbrev Fm:=@List.takeWhile_subset
abbrev Fo:=@List.dropWhile_subset
abbrev Fp:=@List.take_append
abbrev Fq:=@Bool.and_eq_true
abbrev Fs:=@Go.callsD_of_wpS
abbrev Ft:=@Go.World.cell?_alloc_at
abbrev Fu:=@Go.rounds_succ
abbrev Fv:=@Go.leaves_cons
abbrev Fw:=@Array.replicate_succ
abbrev Fx:=@Array.replicate_zero
abbrev Fy:=@List.mem_append_left
abbrev Fz:=@Go.IntKind.wrap_u8
abbrev FA:=@List.of_mem_zip
abbrev FB:=@List.drop_set_of_lt
abbrev FC:=@Go.ByteArray.toList_eq
abbrev FD:=@List.drop_replicate
abbrev FE:=@List.flatten_append
abbrev FG:=@List.append_toArray
abbrev FH:=@if_true
abbrev FI:=@Go.callsIn_wide
abbrev FJ:=@Nat.lt_or_gt_of_ne
abbrev FK:=@true_and
abbrev FL:=@List.mem_range
abbrev FM:=@Nat.add_sub_cancel
abbrev FN:=@Go.size_madeCells
abbrev FO:=@Nat.lt_or_eq_of_le
abbrev FP:=@Nat.eq_zero_or_pos
abbrev FQ:=@Go.DataW.trod_int
abbrev FR:=@Go.run_storeCells_at
abbrev FS:=@Nat.mul_one
abbrev FT:=@List.push_toArray
abbrev FV:=@Nat.mod_eq_of_lt
abbrev FW:=@List.filter_cons
abbrev FX:=@Go.wpList_plain
abbrev FY:=@if_false
abbrev FZ:=@Go.wpS_seq
theorem af{p:Prop}(h:p):Hid p:=h
structure Fr(S:Nat→Prop)(w w':World):Prop where
 os:w'.os=w.os
 tape:w'.tape=w.tape
 output:w'.output=w.output
 size:w.heap.size≤w'.heap.size
 block:∀k,k<w.heap.size→¬S k→w'.heap[k]?=w.heap[k]?
theorem Fr.refl(S:Nat→Prop)(w:World):Fr S w w:=⟨rfl,rfl,rfl,Nat.le_refl _,fun _ _ _=>rfl⟩
theorem Fr.trans{S d:Nat→Prop}{a b c:World}(h:Fr S a b)(k:Fr d b c)(f:∀k,k<a.heap.size→d k→S k):Fr S a c:=⟨k.os.trans h.os,k.tape.trans h.tape,k.output.trans h.output,Nat.le_trans h.size k.size,fun i hi e=>(k.block i (Nat.lt_of_lt_of_le hi h.size) (fun g=>e (f i hi g))).trans (h.block i hi e)⟩
theorem Fr.mono{S c:Nat→Prop}{a b:World}(h:Fr S a b)(d:∀k,k<a.heap.size→S k→c k):Fr c a b:=⟨h.os,h.tape,h.output,h.size,fun i hi e=>h.block i hi (fun f=>e (d i hi f))⟩
theorem Fr.drew{S:Nat→Prop}{a b:World}(h:Fr S a b):Fr S a b.drew:=⟨h.os,h.tape,h.output,h.size,h.block⟩
theorem Fr.alloc{S:Nat→Prop}{a b:World}(h:Fr S a b)(o:Obj):Fr S a (b.alloc o):=⟨h.os,h.tape,h.output,Nat.le_trans h.size (by simp),fun i hi c=>(Below.heap_alloc _ _ _ (Nat.lt_of_lt_of_le hi h.size)).trans (h.block i hi c)⟩
theorem Fr.set1(w:World)(A i:Nat)(v:Value):Fr (· =A) w (w.setCell ⟨A,i,none⟩ v):=⟨rfl,rfl,rfl,by simp[World.setCell],fun k _ b=>Below.heap_setCell _ _ _ _ b⟩
theorem Fr.setCell{S:Nat→Prop}{a b:World}(h:Fr S a b)(p:Addr)(d:p.block<a.heap.size→S p.block)(u:Value):Fr S a (b.setCell p u):=⟨h.os,h.tape,h.output,Nat.le_trans h.size (by simp[World.setCell]),fun i hi c=>(Below.heap_setCell _ _ _ _ (fun e=>c (by subst e;exact d hi))).trans (h.block i hi c)⟩
theorem Fr.grown{S:Nat→Prop}{a b c:World}{d:Option Nat}(h:Fr S a b)(f:b.grownBy c d)(j:∀k,k<a.heap.size→d=some k→S k):Fr S a c:=⟨f.os.trans h.os,f.tape.trans h.tape,f.output.trans h.output,Nat.le_trans h.size f.size,fun i hi g=>(f.block i (Nat.lt_of_lt_of_le hi h.size) (fun e=>g (j i hi e.symm))).trans (h.block i hi g)⟩
theorem Fr.below{S:Nat→Prop}{B:Nat}{a b:World}(h:Fr S a b)(e:B≤a.heap.size)(c:∀k,S k→B≤k):Below B a b:=⟨h.os,h.tape,h.output,h.size,fun k f=>h.block k (by omega) (fun d=>by have:=c k d;omega)⟩
theorem Fr.keep{S:Nat→Prop}{a b:World}(h:Fr S a b){k:Nat}{o:Obj}(c:a.heap[k]?=some o)(d:¬S k):b.heap[k]?=some o:=by rw[h.block k (Array.getElem?_eq_some_iff.1 c).1 d];exact c
theorem Fr.cell{S:Nat→Prop}{a b:World}(h:Fr S a b){p:Addr}{v:Value}(c:a.cell? p=some v)(d:¬S p.block):b.cell? p=some v:=by rw[World.cell?_of_block (w:=a) (h.block p.block (World.block_lt_of_cell? a _ c) d)];exact c
theorem lt_of_heap{w:World}{k:Nat}{o:Obj}(h:w.heap[k]?=some o):k<w.heap.size:=(Array.getElem?_eq_some_iff.1 h).1
theorem ag(w:World)(g i:Nat)(cs:Array Value)(t:TypeId)(v:Value)(b:w.heap[g]?=some (.cells cs t (0,0))):(w.setCell ⟨g,i,none⟩ v).heap[g]?=some (.cells (cs.setIfInBounds i v) t (0,0)):=by simp only[World.setCell,Array.getElem?_modify,if_true,b,Option.map_some,Option.isSome_none,Bool.false_eq_true,if_false]
theorem aK(w:World)(a:Addr)(k:Nat)(v:Value)(h:k≠a.block):(w.setCell a v).heap[k]?=w.heap[k]?:=Below.heap_setCell w a v k h
theorem gP(w:World)(k:Nat):w.drew.heap[k]?=w.heap[k]?:=rfl
theorem aa(w:World)(o:Obj):(w.alloc o).heap[w.heap.size]?=some o:=heap_alloc_new w o
theorem ai(w:World)(o:Obj)(k:Nat)(h:k<w.heap.size):(w.alloc o).heap[k]?=w.heap[k]?:=Below.heap_alloc w o k h
section
variable{P:Program}{m:Array Oper}{rest:List Oper}{op:Oper}{a:Act}{w w':World}{Q:Exit→Act→World→Prop}{v:Value}
theorem cI(b:op.guard=none)(c:(execOp a.eval op).run P w= .ok (.value v) w')(h:wpList P m Q rest (a.put op.dst v) w'):wpList P m Q (op::rest) a w:=wpList_plain b fun _ d=>by unfold Oper.wp;rw[c];exact d _ _ h
theorem eA(t:TypeId)(l c:Operand)(d:op.op= .makeSlice t l c)(b:op.guard=none)(e:(Instr.makeSlice t (a.eval l) (a.eval c)).run P w= .ok v w')(h:wpList P m Q rest (a.put op.dst v) w'):wpList P m Q (op::rest) a w:=cI b (by simp only[execOp,d,Sem.run_bind,e,Result.andThen_ok,Sem.run_pure]) h
theorem bR(t:TypeId)(c:op.op= .alloc t)(b:op.guard=none)(d:(Instr.alloc t true (.tuple #[])).run P w= .ok v w')(h:wpList P m Q rest (a.put op.dst v) w'):wpList P m Q (op::rest) a w:=cI b (by simp only[execOp,c,Sem.run_bind,d,Result.andThen_ok,Sem.run_pure]) h
theorem ae(t:TypeId)(x y:Operand)(c:op.op= .store t x y)(b:op.guard=none)(d:(Instr.storeAt t (a.eval x) (a.eval y)).run P w= .ok () w')(h:wpList P m Q rest (a.put op.dst undef) w'):wpList P m Q (op::rest) a w:=wpList_plain b fun _ e=>by unfold Oper.wp;simp only[execOp,c,Sem.run_bind,d,Result.andThen_ok,Sem.run_pure];exact e _ _ h
theorem fw(t:TypeId)(d:Array (Nat×Operand))(f:op.op= .build t d)(b:op.guard=none)(e:Array (Nat×Value))(c:(d.map fun(i,x)=>(i,a.eval x))=e)(g:(Instr.build t e).run P w= .ok v w')(h:wpList P m Q rest (a.put op.dst v) w'):wpList P m Q (op::rest) a w:=cI b (by simp only[execOp,f,c,Sem.run_bind,g,Result.andThen_ok,Sem.run_pure]) h
theorem ak{i:Nat}{o:Oper}{K:Act→World→Prop}(hi:m[i]?=some o)(b:o.guard=none)(c:(execOp a.eval o).run P w= .ok (.value v) w')(h:K (a.put o.dst v) w'):wpOp P m Q i K a w:=by
 unfold wpOp;have d:Region.wanted o (yielded m a.tmps)=true:=by simp[Region.wanted,b]
 simp only[hi,d,if_true,Oper.wp,c,Oper.upon];exact .inl h
theorem cA{i:Nat}{o:Oper}{K:Act→World→Prop}(hi:m[i]?=some o)(b:o.guard=none)(h:Oper.wp P o a w K Q):wpOp P m Q i K a w:=by
 unfold wpOp;have c:Region.wanted o (yielded m a.tmps)=true:=by simp[Region.wanted,b]
 simp only[hi,c,if_true];exact .inl h
theorem bl{i:Nat}{o:Oper}{K:Act→World→Prop}{f:FuncId}{args:Array Value}(hi:m[i]?=some o)(b:o.guard=none)(d:(execOp a.eval o).run P w= .ok (.enter f args) w)(h:Calls P f args w fun e c=>∃v,e= .returned v∧K (a.put o.dst v) c):wpOp P m Q i K a w:=by
 unfold wpOp;have g:Region.wanted o (yielded m a.tmps)=true:=by simp[Region.wanted,b]
 simp only[hi,g,if_true,Oper.wp,d,Oper.upon];refine .inl (h.mono fun e c j=>?_);obtain⟨v,rfl,k⟩:=j;exact k
theorem aA{i:Nat}{o:Oper}{K:Act→World→Prop}(hi:m[i]?=some o)(b:o.guard=none)(c:(execOp a.eval o).run P w= .ok .skip w')(h:K (a.put o.dst undef) w'):wpOp P m Q i K a w:=by
 unfold wpOp;have d:Region.wanted o (yielded m a.tmps)=true:=by simp[Region.wanted,b]
 simp only[hi,d,if_true,Oper.wp,c,Oper.upon];exact .inl h
theorem cX(t:TypeId)(x:Operand)(c:op.op= .box t x)(b:op.guard=none)(d:(Instr.box t (a.eval x)).run P w= .ok v w')(h:wpList P m Q rest (a.put op.dst v) w'):wpList P m Q (op::rest) a w:=cI b (by simp only[execOp,c,Sem.run_bind,d,Result.andThen_ok,Sem.run_pure]) h
theorem aR(t:TypeId)(x:Operand)(lo hi c:Option Operand)(d:op.op= .slice t x lo hi c)(b:op.guard=none)(e:(Instr.sliceAt t (a.eval x) (lo.map a.eval) (hi.map a.eval) (c.map a.eval)).run P w= .ok v w')(h:wpList P m Q rest (a.put op.dst v) w'):wpList P m Q (op::rest) a w:=cI b (by simp only[execOp,d,Sem.run_bind,e,Result.andThen_ok,Sem.run_pure]) h
theorem bC(q:op.guard=none)(d s:Operand)(r y:TypeId)(A:op.op= .call {callee:= .builtin .copy,args:=#[d,s],argTypes:=#[r,y]})(b:TypeId)(B:P.underlying r=some (.slice b))(u:(P.info? b).map (·.size)=some 1)(g off c i:Nat)(x:Addr)(e k:Nat)(C:a.eval d= .slice (some ⟨g,off,none⟩) c i)(D:a.eval s= .slice (some x) e k)(f:Array Value)(t:TypeId)(E:w.heap[g]?=some (.cells f t (0,0)))(cs:List Value)(F:cs.length=Nat.min e c)(l:∀j v,cs[j]?=some v→w.cell? (x.add j)=some v)(n:off+cs.length≤f.size)(G:∀v∈cs,v.oneCell'=true)(o:List Value)(p:f.toList.take off++(cs++f.toList.drop (off+cs.length))=o)(h:∀z,Hid (z=w.setRow g o.toArray)→wpList P m Q rest (a.put op.dst (goInt cs.length)) z):wpList P m Q (op::rest) a w:=wpList_copy_own q d s r y A b B u g off c i x e k C D f t E cs F l n G (by rw[p];exact h _ rfl)
end
theorem Fr.setRow{S:Nat→Prop}{a b:World}(h:Fr S a b)(g:Nat)(d:g<a.heap.size→S g)(cs:Array Value):Fr S a (b.setRow g cs):=⟨h.os,h.tape,h.output,Nat.le_trans h.size (by simp),fun i hi c=>(setRow_other b g i cs (fun e=>c (by subst e;exact d hi))).trans (h.block i hi c)⟩
theorem fJ{w:World}{b:Nat}{d:List Value}{t:TypeId}{fr:Nat×Nat}(e:w.heap[b]?=some (.cells d.toArray t fr))(o n:Nat):∀j v,((d.drop o).take n)[j]?=some v→w.cell? ((⟨b,o,none⟩:Addr).add j)=some v:=by
 intro j v c;rw[Addr.add_mid,cell_of_row w b (o+j) _ t fr e];rw[List.getElem?_take]at c;split at c
 ·rw[List.getElem?_drop]at c;simpa using c
 ·cases c
theorem jI{p:Prop}(h:p):p:=h
theorem aw{α:Sort _}(v:α):∃x,Hid (x=v):=⟨v,rfl⟩
theorem fI{q p:Nat→Prop}:∀b,q b→p b→p b:=fun _ _ h=>h
theorem eG{w W:World}(H:Hid (W=w.drew)):Fr (fun _=>False) w W:=by rw[H.out];exact(Fr.refl _ _).drew
theorem j9{w W:World}{o:Obj}(H:Hid (W=w.alloc o)):Fr (fun _=>False) w W:=by rw[H.out];exact(Fr.refl _ _).alloc _
theorem pf:∀(l:List Value) (k:Nat) (d:Array Value),k+l.length≤d.size→((l.zipIdx k).foldl (fun cs p=>cs.setIfInBounds (0+p.2) p.1) d).toList=d.toList.take k++(l++d.toList.drop (k+l.length))
 |[],k,d,_=>by simp
 |v::r,k,d,h=>by
  simp only[List.zipIdx_cons,List.foldl_cons];rw[pf r (k+1) _ (by simp at h⊢;omega)];simp only[DA]at h;simp only[D5,Array.toList_setIfInBounds,DA];have a:k<d.toList.length:=by rw[DM];omega
  have b:(d.toList.set k v).take (k+1)=d.toList.take k++[v]:=by rw[List.take_set,Fc a,Eu _ _ (by simp;omega)];have c:min k d.size=k:=Nat.min_eq_left (by rw[←DM];omega);simp[c]
  have e:(d.toList.set k v).drop (k+1+r.length)=d.toList.drop (k+1+r.length):=by rw[FB (by omega)]
  rw[b,e];have f:k+1+r.length=k+(r.length+1):=by omega
  rw[f];simp
theorem xg(size:Nat)(d:Array Value)(v:Value)(b:v.cells.size=size)(c:d.size=size):Instr.fill (fun i=>some (i*size,size)) d [(0,v)]=some v.cells:=by
 simp only[Instr.fill,F5,b];have a:(decide (size≠size)||decide (0+size>d.size))=false:=by simp;omega
 rw[Cz (by simpa using a)];congr 1;apply Array.toList_inj.1;rw[←Array.foldl_toList];have e:v.cells.zipIdx.toList=v.cells.toList.zipIdx:=by simp
 rw[e];have:=pf v.cells.toList 0 d (by simp;omega);rw[this];rw[CP (l:=d.toList) (by simp;omega)];simp
theorem cw{P:Program}(w:World)(t e:TypeId)(a:TypeInfo)(z v:Value)(f:P.underlying t=some (.slice e))(hi:P.info? e=some a)(g:a.zero=some z)(h:v.cells.size=a.size)(i:0<a.size)(j:a.size≤16777216):(Instr.buildSlice t 1 #[(0,v)]).run P w= .ok (.slice (some ⟨w.heap.size,0,none⟩) 1 1) (w.alloc (.cells v.cells e)):=by
 have d:=xg a.size ((Array.range (1*a.size)).map (z.cells[· %z.cells.size]!)) v h (by simp);have b:¬a.size=0:=by omega
 have c:¬(1*a.size>2^24):=by simp;omega
 simp only[Nat.one_mul]at d c;simp[Instr.buildSlice,run_underlying f,sizeOf,typeInfo,zeroValue,hi,g,b,d,newRow];omega
theorem aJ{P:Program}{w:World}{a:Addr}{v:Value}{t:TypeId}{d:TypeDesc}(c:w.cell? a=some v)(e:P.underlying t=some d)(f:d.isRow=false):(Instr.loadAt t (.pointer (some a))).run P w= .ok v w:=by
 have b:(isAgg t).run P w= .ok false w:=by unfold isAgg;rw[D9,Fe e w];cases d<;>simp_all
 simp[Instr.loadAt,Instr.sureAddr,loadVar,Sem.run_bind,b,c]
theorem ah{P:Program}{w:World}{a:Addr}{v u:Value}{t:TypeId}(f:w.cell? a=some u)(g:w.frozen? a=false)(hi:(P.info? t).map (·.size)=some 1)(e:v.oneCell'=true):(Instr.storeAt t (.pointer (some a)) v).run P w= .ok () (w.setCell a v):=by
 cases c:P.info? t with
 |none=>simp[c]at hi
 |some i=>
  have h:i.size=1:=by simpa[c]using hi
  have d:v.cells=#[v]:=by cases v<;>first|rfl|simp[Value.oneCell']at e
  have b:=run_store P w a v .plain e;simp only[f,g]at b;simp[Instr.storeAt,Instr.sureAddr,storeVar,sizeOf,typeInfo,c,h,d,storeCells,Addr.add,b]
section
variable{P:Program}{ρ:Operand→Value}{o:Oper}{w w':World}{v:Value}
theorem aL(t:TypeId)(x:Operand)(b:o.op= .load t x)(a:Addr)(c:ρ x= .pointer (some a))(d:(Instr.loadAt t (.pointer (some a))).run P w= .ok v w'):(execOp ρ o).run P w= .ok (.value v) w':=by simp only[execOp,b,c,D9,d,CS,Du]
theorem aS(t:TypeId)(n:Nat)(b:Array (Nat×Operand))(d:o.op= .buildSlice t n b)(c:Array (Nat×Value))(a:(b.map fun(i,x)=>(i,ρ x))=c)(e:(Instr.buildSlice t n c).run P w= .ok v w'):(execOp ρ o).run P w= .ok (.value v) w':=by simp only[execOp,d,a,D9,e,CS,Du]
theorem ar(t:TypeId)(x y:Operand)(b:o.op= .store t x y)(a:Addr)(u:Value)(c:ρ x= .pointer (some a))(d:ρ y=u)(e:(Instr.storeAt t (.pointer (some a)) u).run P w= .ok () w'):(execOp ρ o).run P w= .ok .skip w':=by simp only[execOp,b,c,d,D9,e,CS,Du]
theorem bn(t:TypeId)(x y:Operand)(a:o.op= .indexAddr t x y){u i:Value}(b:ρ x=u)(c:ρ y=i)(d:(Instr.indexAt t u i).run P w= .ok v w'):(execOp ρ o).run P w= .ok (.value v) w':=by simp only[execOp,a,b,c,D9,d,CS,Du]
end
theorem aC(l:List Value)(i:Nat)(v:Value):l.toArray.setIfInBounds i v=(l.set i v).toArray:=Eo l i v
theorem aB(a v:Value)(l:List Value):(a::l).set 0 v=v::l:=rfl
theorem aE(a v:Value)(l:List Value)(n:Nat):(a::l).set (n+1) v=a::l.set n v:=rfl
section
variable{P:Program}{g:Array Oper}{Q:Exit→Act→World→Prop}{S:World→Prop}{i:Nat}{oi:Oper}{v:Value}{m:Nat}{b:Array Bool}{a:Act}{w:World}
theorem eW{d}(hi:g[i]?=some oi)(e:YieldsIf P g S oi v a)(f:S w)(h:wpAnyH P d g Q S m (b.setIfInBounds i true) (a.put oi.dst v) w)(j:Region.noSelect g=true:=by kernel_rfl)(k:Region.free d g b i=true:=by kernel_rfl)(l:(Region.ready d g b).contains i=true:=by kernel_rfl)(n:∀c a w,Q (.panic c) (a.put oi.dst v) w→Q (.panic c) a w:=by exact fun _ _ _ h=>h):wpAnyH P d g Q S (m+1) b a w:=DY hi j k l n e f h
theorem qg{d}(hi:g[i]?=some oi)(e:S w)(h:wpAnyH P d g Q S m (b.setIfInBounds i true) (a.put oi.dst v) w)(f:Region.noSelect g=true:=by kernel_rfl)(j:Region.free d g b i=true:=by kernel_rfl)(k:(Region.ready d g b).contains i=true:=by kernel_rfl)(l:∀c a w,Q (.panic c) (a.put oi.dst v) w→Q (.panic c) a w:=by exact fun _ _ _ h=>h)(n:YieldsIf P g S oi v a:=by exact Or.inl ⟨rfl,fun _ _=>by kernel_rfl⟩):wpAnyH P d g Q S (m+1) b a w:=DY hi f j k l n e h
end
section
variable{P:Program}{g:Array Oper}{Q:Exit→Act→World→Prop}{S:World→Prop}{m:Nat}{b:Array Bool}{a:Act}{w:World}
theorem bM{e x y z}(i d s:Nat)(v:Value)(hi:g[i]?=some ⟨some d,.move (.tmp s),x,y,z,none⟩)(f:S w)(h:wpAnyH P e g Q S m (b.setIfInBounds i true) (a.put (some d) v) w)(j:Region.noSelect g=true:=by kernel_rfl)(k:Region.free e g b i=true:=by kernel_rfl)(l:(Region.ready e g b).contains i=true:=by kernel_rfl)(n:∀c a w,Q (.panic c) (a.put (some d) v) w→Q (.panic c) a w:=by exact fun _ _ _ h=>h)(o:YieldsIf P g S ⟨some d,.move (.tmp s),x,y,z,none⟩ v a:=by exact Or.inl ⟨rfl,fun _ _=>by kernel_rfl⟩):wpAnyH P e g Q S (m+1) b a w:=DY hi j k l n o f h
theorem d4{e x y z}(i d s:Nat)(v:Value)(hi:g[i]?=some ⟨some d,.nilCheck (.tmp s),x,y,z,none⟩)(f:S w)(h:wpAnyH P e g Q S m (b.setIfInBounds i true) (a.put (some d) v) w)(j:Region.noSelect g=true:=by kernel_rfl)(k:Region.free e g b i=true:=by kernel_rfl)(l:(Region.ready e g b).contains i=true:=by kernel_rfl)(n:∀c a w,Q (.panic c) (a.put (some d) v) w→Q (.panic c) a w:=by exact fun _ _ _ h=>h)(o:YieldsIf P g S ⟨some d,.nilCheck (.tmp s),x,y,z,none⟩ v a:=by exact Or.inl ⟨rfl,fun _ _=>by kernel_rfl⟩):wpAnyH P e g Q S (m+1) b a w:=DY hi j k l n o f h
theorem bT{e x y z}(i d t s k:Nat)(v:Value)(hi:g[i]?=some ⟨some d,.fieldAddr t (.tmp s) k,x,y,z,none⟩)(f:S w)(h:wpAnyH P e g Q S m (b.setIfInBounds i true) (a.put (some d) v) w)(j:Region.noSelect g=true:=by kernel_rfl)(l:Region.free e g b i=true:=by kernel_rfl)(n:(Region.ready e g b).contains i=true:=by kernel_rfl)(o:∀c a w,Q (.panic c) (a.put (some d) v) w→Q (.panic c) a w:=by exact fun _ _ _ h=>h)(p:YieldsIf P g S ⟨some d,.fieldAddr t (.tmp s) k,x,y,z,none⟩ v a:=by exact Or.inl ⟨rfl,fun _ _=>by kernel_rfl⟩):wpAnyH P e g Q S (m+1) b a w:=DY hi j l n o p f h
theorem kL{e x y z}(i d s k:Nat)(v:Value)(hi:g[i]?=some ⟨some d,.extract (.tmp s) k,x,y,z,none⟩)(f:S w)(h:wpAnyH P e g Q S m (b.setIfInBounds i true) (a.put (some d) v) w)(j:Region.noSelect g=true:=by kernel_rfl)(l:Region.free e g b i=true:=by kernel_rfl)(n:(Region.ready e g b).contains i=true:=by kernel_rfl)(o:∀c a w,Q (.panic c) (a.put (some d) v) w→Q (.panic c) a w:=by exact fun _ _ _ h=>h)(p:YieldsIf P g S ⟨some d,.extract (.tmp s) k,x,y,z,none⟩ v a:=by exact Or.inl ⟨rfl,fun _ _=>by kernel_rfl⟩):wpAnyH P e g Q S (m+1) b a w:=DY hi j l n o p f h
theorem mB{e x y z}(i d s:Nat)(v:Value)(hi:g[i]?=some ⟨some d,.assign (.tmp s),x,y,z,none⟩)(f:S w)(h:wpAnyH P e g Q S m (b.setIfInBounds i true) (a.put (some d) v) w)(j:Region.noSelect g=true:=by kernel_rfl)(k:Region.free e g b i=true:=by kernel_rfl)(l:(Region.ready e g b).contains i=true:=by kernel_rfl)(n:∀c a w,Q (.panic c) (a.put (some d) v) w→Q (.panic c) a w:=by exact fun _ _ _ h=>h)(o:YieldsIf P g S ⟨some d,.assign (.tmp s),x,y,z,none⟩ v a:=by exact Or.inl ⟨rfl,fun _ _=>by kernel_rfl⟩):wpAnyH P e g Q S (m+1) b a w:=DY hi j k l n o f h
theorem ig{f x y z}(i d t s:Nat)(v:Value)(A:Addr)(hi:g[i]?=some ⟨some d,.load t (.tmp s),x,y,z,none⟩)(j:∀e,S e→(Instr.loadAt t (.pointer (some A))).run P e= .ok v e)(k:S w)(h:wpAnyH P f g Q S m (b.setIfInBounds i true) (a.put (some d) v) w)(l:Region.noSelect g=true:=by kernel_rfl)(n:Region.free f g b i=true:=by kernel_rfl)(o:(Region.ready f g b).contains i=true:=by kernel_rfl)(p:∀c a w,Q (.panic c) (a.put (some d) v) w→Q (.panic c) a w:=by exact fun _ _ _ h=>h)(q:Region.wanted ⟨some d,.load t (.tmp s),x,y,z,none⟩ (yielded g a.tmps)=true:=by kernel_rfl)(r:a.eval (.tmp s)= .pointer (some A):=by kernel_rfl):wpAnyH P f g Q S (m+1) b a w:=DY hi l n o p (.inl ⟨q,fun e h=>aL t (.tmp s) rfl A r (j e h)⟩) k h
theorem cU{e x y z}{j:TypeDesc}(i d t s:Nat)(v:Value)(A:Addr)(hi:g[i]?=some ⟨some d,.load t (.tmp s),x,y,z,none⟩)(k:∀f,S f→f.cell? A=some v)(l:P.underlying t=some j)(n:S w)(h:wpAnyH P e g Q S m (b.setIfInBounds i true) (a.put (some d) v) w)(o:Region.noSelect g=true:=by kernel_rfl)(p:Region.free e g b i=true:=by kernel_rfl)(q:(Region.ready e g b).contains i=true:=by kernel_rfl)(r:∀c a w,Q (.panic c) (a.put (some d) v) w→Q (.panic c) a w:=by exact fun _ _ _ h=>h)(u:Region.wanted ⟨some d,.load t (.tmp s),x,y,z,none⟩ (yielded g a.tmps)=true:=by kernel_rfl)(B:a.eval (.tmp s)= .pointer (some A):=by kernel_rfl)(C:j.isRow=false:=by rfl):wpAnyH P e g Q S (m+1) b a w:=ig i d t s v A hi (fun f h=>aJ (k f h) l C) n h o p q r u B
end
theorem zl:prog.follows .mixedOrders=true:=by kernel_rfl
theorem re:∀(d:Fn) (first c:Array Value) (w:World),(Instr.makeFunc d first c).run prog w= .ok (.func d first c) w:=fun _ _ _ _=>rfl
section
variable{P:Program}{g:Array Oper}{Q:Exit→Act→World→Prop}{S:World→Prop}{m:Nat}{b:Array Bool}{a:Act}{w:World}
theorem cj{c}(i:Nat)(h:wpOp P g Q i (fun e d=>S d∧wpAnyH P c g Q S m (b.setIfInBounds i true) e d) a w)(f:Region.ready c g b=[i]:=by kernel_rfl):wpAnyH P c g Q S (m+1) b a w:=by
 refine Eh f (by simp) ?_;intro j k;obtain rfl:j=i:=by simpa using k
 exact h
theorem dN{c x j y z}(i d f:Nat)(k:Array Operand)(args:Array Value)(hi:g[i]?=some ⟨some d,.call {callee:= .value (.func f),args:=k,argTypes:=j},x,y,z,none⟩)(h:Calls P f args w fun e l=>∃v,e= .returned v∧S l∧wpAnyH P c g Q S m (b.setIfInBounds i true) (a.put (some d) v) l)(n:Region.ready c g b=[i]:=by kernel_rfl)(o:(execOp a.eval ⟨some d,.call {callee:= .value (.func f),args:=k,argTypes:=j},x,y,z,none⟩).run P w= .ok (.enter f args) w:=by kernel_rfl):wpAnyH P c g Q S (m+1) b a w:=cj i (bl hi rfl o h) n
theorem dn{c}(h:Q .normal a w)(d:Region.ready c g b=[]:=by kernel_rfl):wpAnyH P c g Q S m b a w:=wpAnyH_done d h _
theorem dZ{id:Nat}(S:World→Prop){U:World}(c:Hid (U=w.drew))(h:wpAnyH prog .any g Q S g.size (Array.replicate g.size false) a U):(Code.region id g true).wp prog Q a w:=by have e:=c.out;subst e;exact ET zl h
end
theorem ww{V W:World}(H:Hid (W=V.drew)):({heap:=V.heap,tape:=V.tape,drawn:=V.drawn+1,os:=V.os,output:=V.output}:World)=W:=H.out.symm
def oG(B n:Nat)(a:Value)(calls writes:Int):Array Value:=#[.slice (some ⟨B,0,none⟩) n n,a,.int .i64 calls,.int .i64 writes,.int .i64 0,.int .i64 (-1),.int .i64 0,.int .i64 0]
def ij(w:World)(A B n:Nat)(a:Value)(calls writes:Int):Prop:=w.heap[A]?=some (.cells (oG B n a calls writes) 96 (0,0))
section
variable{w:World}{A B n:Nat}{a:Value}{calls writes:Int}
theorem ij.fr{S:Nat→Prop}{b:World}(h:ij w A B n a calls writes)(c:Fr S w b)(d:¬S A):ij b A B n a calls writes:=c.keep h d
end
theorem wv(i:Nat)(hi:i<100)(w:World):Calls prog 175 #[.int .i64 i] w fun e a=>(∃s,e= .returned (.string s)∧s.size≤100)∧a=w:=by
 by_cases h:i<10
 ·have b:(i:Int)<10:=by omega
  go_enter func175,ntmps175;go_wp2;go_ret;exact⟨⟨_,rfl,by simp[ByteArray.size_extract];omega⟩,rfl⟩
 ·have b:¬(i:Int)<10:=by omega
  go_enter func175,ntmps175;go_wp2;go_ret;exact⟨⟨_,rfl,by simp[ByteArray.size_extract];omega⟩,rfl⟩
theorem lj(i:Nat)(hi:i<100)(w:World):Calls prog 170 #[.int .i64 i,.int .i64 10] w fun e b=>(∃s,e= .returned (.string s)∧s.size≤100)∧b=w:=by
 have d:decide ((0:Int)≤i)=true:=by simp
 have f:decide ((i:Int)<100)=true:=by simp;omega
 have c:=wv i hi w;go_enter func170,ntmps170;go_wp2_with fail;refine c.mono ?_;rintro e b ⟨⟨s,rfl,a⟩,rfl⟩;go_wp2;go_ret;exact⟨⟨_,rfl,a⟩,rfl⟩
theorem t9(i:Nat)(hi:i<100)(w:World):Calls prog 143 #[.int .i64 i] w fun e b=>(∃s,e= .returned (.string s)∧s.size≤100)∧b=w:=by
 have c:=lj i hi w;have d:Calls prog 160 #[.int .i64 i] w fun e b=>(∃s,e= .returned (.string s)∧s.size≤100)∧b=w:=by go_enter func160,ntmps160;go_wp2_with fail;refine c.mono ?_;rintro e b ⟨⟨s,rfl,a⟩,rfl⟩;go_wp2;go_ret;exact⟨⟨_,rfl,a⟩,rfl⟩
 clear c;go_enter func143,ntmps143;go_wp2_with fail;refine d.mono ?_;rintro e b ⟨⟨s,rfl,a⟩,rfl⟩;go_wp2;go_ret;exact⟨⟨_,rfl,a⟩,rfl⟩
def bJ:Array Value:=Array.replicate 128 (.int .u8 0)
theorem bV:bJ.size=128:=by simp[bJ]
theorem oD(w:World):(Instr.makeSlice 85 (.int .i64 128) (.int .i64 128)).run prog w= .ok (.slice (some ⟨w.heap.size,0,none⟩) 128 128) (w.alloc (.cells bJ 5)):=by kernel_rfl
theorem ir:(prog.info? 5).map (·.size)=some 1:=by kernel_rfl
def cD(w:World)(B n:Nat)(a:List Value):Prop:=w.heap[B]?=some (.cells a.toArray 97 (0,0))∧a.length=n*128∧∀v∈a,v.oneCell'=true
end Go.Proofs.YteebjgfalllbjaaGreatDoor
