import Derived.Test.YteebjgfalllbjaaGreatDoorK3
import Derived.Test.YteebjgfalllbjaaGreatDoorK6
import Derived.Test.YteebjgfalllbjaaGreatDoorK11
namespace Go.Proofs.YteebjgfalllbjaaGreatDoor
open Go.RowKit Go.Proofs.Tryz
set_option maxRecDepth 100000
set_option maxHeartbeats 4000000
theorem jZ(a:Addr)(w:World):(method 410 31 (.pointer (some a)) "Flush").run prog w= .ok (205,.pointer (some a)) w:=by kernel_rfl
theorem l7(a:Addr)(w:World):(method 410 31 (.pointer (some a)) "Read").run prog w= .ok (206,.pointer (some a)) w:=by kernel_rfl
theorem ji(a:Addr)(w:World):(method 410 31 (.pointer (some a)) "Blocks").run prog w= .ok (204,.pointer (some a)) w:=by kernel_rfl
theorem kO(p:Addr)(w:World):CallsD prog 152 #[.pointer (some p)] .returning w fun e a b=>e= .returned (.tuple #[])∧a= .returning∧b=w:=by
 refine Fs func152 rfl fun c₀ cs c=>?_;apply FZ;apply F7;simp[wpOpsS,go_sem,recoverD,c,ntmps152,Exit.thenS];refine wpS_cond (t:=false) (by simp[Act.eval,Array.replicate]) ?_;simp only[Ev,FY];refine wpS_of_wp (wp_skip ?_);cases c₀
 simp_all [bodyPostS,results,Tryz.results152]
theorem uJ(p:Addr)(w:World):CallsD prog 139 #[.pointer (some p)] .returning w fun e a b=>e= .returned (.tuple #[])∧a= .returning∧b=w:=by
 refine Fs func139 rfl fun c₀ cs c=>?_;apply FZ;apply F7;simp[wpOpsS,go_sem,recoverD,c,ntmps139,Exit.thenS];apply FZ;apply F7;simp[wpOpsS,go_sem,Exit.thenS];refine wpS_cond (t:=false) (by simp[Act.eval,Array.replicate]) ?_;simp only[Ev,FY];refine wpS_of_wp (wp_skip ?_);cases c₀
 simp_all [bodyPostS,results,Tryz.results139]
def zB:List Value:=List.replicate 128 (.int .u8 0)
theorem ce:zB.length=128:=by simp[zB]
theorem se:∀v∈zB,v.oneCell'=true:=by intro v a;simp only[zB,D6]at a;rw[a.2];rfl
theorem pK(w:World):(Instr.build 130 #[]).run prog w= .ok (.agg zB.toArray) w:=by kernel_rfl
def wipes(m:Nat):List (Nat×List Value):=(List.range m).map (fun j=>(j+1,zB))
theorem rL(m:Nat):wipes (m+1)=wipes m++[(m+1,zB)]:=by simp[wipes,List.range_succ]
theorem uR{m:Nat}{p:Nat×List Value}(h:p∈wipes m):1≤p.1∧p.1≤m∧p.2=zB:=by simp only[wipes,Cx,FL]at h;obtain⟨j,a,rfl⟩:=h;exact⟨by simp,by simp;omega,rfl⟩
theorem nN(a c d:List Value)(o:Nat)(b:a.length=o):splice (a++d) o c=a++(c++d.drop c.length):=by unfold splice;rw[EA b,DN,b,CP (by omega),Dr,DJ]
theorem gK(d:Nat)(b:Array Value)(w:World)(hi:∀i,i<128→∃z:Int,b[i]?=some (.int .u8 z)):(Op.equalIn (d+2) 130 (.agg b) (.agg b)).run prog w= .ok true w:=by
 have c:(sizeOf 5).run prog w= .ok 1 w:=by kernel_rfl
 unfold Op.equalIn;simp only[D9,Fe underlying130,CS,c,Ez,Std.Legacy.Range.size,Nat.sub_zero,FM,Nat.div_one];have a:∀i∈List.range' 0 128,i<128:=by intro i h;simp at h;omega
 generalize List.range' 0 128=l at a;induction l with
 |nil=>simp
 |cons i l e=>
  obtain⟨z,f⟩:=hi i (a i (by simp));have g:(part 5 b (i*1)).run prog w= .ok (.int .u8 z) w:=by
   have k:(isAgg 5).run prog w= .ok false w:=by kernel_rfl
   simp[part,Sem.run_bind,k,f]
  simp only[List.forIn_cons,D9,g,CS,run_equalIn_int w d 5 .u8 .u8 z z underlying5,beq_self_eq_true,Bool.not_true,Ev,FY,Du];exact e (fun j m=>a j (by simp[m]))
theorem ss(n:Nat):∀i,i<128→∃z:Int,(bc n).toArray[i]?=some (.int .u8 z):=by
 intro i hi;have e:=cr n;have c:∀v∈bc n,∃z:Int,v= .int .u8 z:=by intro v b;simp only[bc,je,Cv,CF,Dy,EF,Cx,D6]at b;rcases b with(rfl|rfl|rfl)|⟨_,_,rfl⟩|⟨_,rfl⟩<;>exact⟨_,rfl⟩
 have a:i<(bc n).length:=by omega
 obtain⟨z,d⟩:=c _ (Ef a);exact⟨z,by simp[List.getElem?_eq_getElem a,d]⟩
theorem xl(n:Nat)(w:World):(binOp .neq 130 (.agg (bc n).toArray) (.agg (bc n).toArray)).run prog w= .ok (.bool false) w:=by rw[EW];have:=gK 9998 (bc n).toArray w (ss n);rw[this];rfl
theorem wI(n:Nat)(w:World):(binOp .neq 130 (.agg zB.toArray) (.agg (bc n).toArray)).run prog w= .ok (.bool true) w:=by
 rw[EW];have a:(sizeOf 5).run prog w= .ok 1 w:=by kernel_rfl
 have d:(Op.equalIn 10000 130 (.agg zB.toArray) (.agg (bc n).toArray)).run prog w= .ok false w:=by
  show(Op.equalIn (9998+2) 130 (.agg zB.toArray) (.agg (bc n).toArray)).run prog w= .ok false w;unfold Op.equalIn;simp only[D9,Fe underlying130,CS,a,Ez,Std.Legacy.Range.size,Nat.sub_zero,FM,Nat.div_one];have e:List.range' 0 128=0::List.range' 1 127:=rfl;have b:(part 5 zB.toArray (0*1)).run prog w= .ok (.int .u8 0) w:=by kernel_rfl
  have c:(part 5 (bc n).toArray (0*1)).run prog w= .ok (.int .u8 1) w:=by kernel_rfl
  rw[e];simp only[List.forIn_cons,D9,b,c,CS,run_equalIn_int w 9998 5 .u8 .u8 0 1 underlying5];simp
 rw[d];rfl
section
variable{P:Program}{ρ:Operand→Value}{o:Oper}{w w':World}{v:Value}
theorem cS{x y:Operand}{a c:Array Value}(d:o.op= .binOp .neq 130 x y 130)(e:ρ x= .agg a)(f:ρ y= .agg c){b:Bool}(g:(binOp .neq 130 (.agg a) (.agg c)).run prog w= .ok (.bool b) w):(execOp ρ o).run prog w= .ok (.value (.bool b)) w:=by have h:=run_eqGuard_agg (P:=prog) w .neq 130 x y a c (by kernel_rfl);simp only[execOp,d,e,f,D9,h,g,CS,Du]
end
theorem kh(g i:Nat)(h:i<128)(w:World):(Instr.indexAt 130 (.pointer (some ⟨g,0,none⟩)) (.int .i64 i)).run prog w= .ok (.pointer (some ⟨g,i,none⟩)) w:=by
 have a:(i:Int)<128:=by omega
 go_simp
def gJ(b:Nat→Nat):Bool:=decide ((∀i:Fin 4,b i=b 0)∧(b 0=2∨b 0=3))
theorem lS(w:World)(cs:List Value)(b:Nat→Nat)(t:∀i,i<4→cs[i*32]?=some (.int .u8 (b i))):Calls prog 153 #[.agg cs.toArray] w fun e x=>e= .returned (.bool (gJ b))∧Fr (fun _=>False) w x:=by
 obtain⟨W,g⟩:=aw (w.alloc (.cells cs.toArray 130));have a:W.heap[w.heap.size]?=some (.cells cs.toArray 130 (0,0)):=by rw[g.out];exact aa _ _
 have m:Hid (Fr (fun _=>False) w W):=by rw[g.out];exact(Fr.refl _ _).alloc _
 go_enter func153,ntmps153;have o:=(Cn W w.heap.size 0 _ _ _ a).trans (by simpa using t 0 (by omega));have k:=kh w.heap.size 0 (by omega) W;rw[g.out]at o k;go_wp2;rw[←g.out];rw[←g.out]at o;clear g k;go_loopw [7] (fun c wr=>∃i:Nat,i≤4∧c= .int .i64 i∧(∀j,j<i→b j=b 0)∧wr=W) (fun c _=>4-(intOf c).toNat);case atStart=>exact⟨0,by omega,rfl,by omega,rfl⟩
 case round=>
  obtain⟨i,hi,rfl,u,rfl⟩:=hrel;by_cases l:i<4
  ·have v:(i:Int)<4:=by omega
   have c0:=(Cn wr w.heap.size (i*32) _ _ _ a).trans (by simpa using t i l);have A:(Instr.indexAt 130 (.pointer (some ⟨w.heap.size,0,none⟩)) (.int .i64 (i*32))).run prog wr= .ok (.pointer (some ⟨w.heap.size,i*32,none⟩)) wr:=by have:=kh w.heap.size (i*32) (by omega) wr;push_cast at this;exact this
   by_cases p:b i=b 0
   ·rw[p]at c0;go_wp2;go_roundw;case rel=>
     refine⟨i+1,by omega,by go_num,?_⟩;first|refine⟨?_,trivial⟩|refine⟨?_,rfl⟩
     intro j y;rcases Nat.lt_succ_iff_lt_or_eq.1 y with h|rfl
     ·exact u j h
     ·exact p
    case measure=>simp[intOf];omega
   ·have z:¬(b i:Int)=b 0:=by omega
    have f:gJ b=false:=Dl (fun h=>p (h.1 ⟨i,l⟩));go_wp2;go_ret;exact⟨by rw[f];rfl,m.out⟩
  ·obtain rfl:i=4:=by omega
   have d:∀i:Fin 4,b i=b 0:=fun j=>u j j.isLt;by_cases n:b 0=2
   ·have f:gJ b=true:=Dg ⟨d,.inl n⟩;rw[n]at o;simp only[n];go_wp2;go_ret;exact⟨by rw[f];rfl,m.out⟩
   ·by_cases q:b 0=3
    ·have f:gJ b=true:=Dg ⟨d,.inr q⟩;simp only[q];go_wp2;go_ret;exact⟨by rw[f];rfl,m.out⟩
    ·have f:gJ b=false:=Dl (fun h=>by rcases h.2 with h|h;exact n h;exact q h);have r:¬(b 0:Int)=2:=by omega
     have s:¬(b 0:Int)=3:=by omega
     have B:((b 0:Int)==2)=false:=by simpa using r
     have C:((b 0:Int)==3)=false:=by simpa using s
     go_wp2;go_ret;exact⟨by rw[f];simp,m.out⟩
def ed(w:World)(J V:Nat)(e:Int)(s:Bool):Prop:=w.heap[J]?=some (.cells #[.pointer (some ⟨V,0,none⟩),.int .i64 e,.bool s] 179 (0,0))
theorem ed.c0{w:World}{J V:Nat}{e:Int}{s:Bool}(h:ed w J V e s):w.cell? ⟨J,0,none⟩=some (.pointer (some ⟨V,0,none⟩)):=(Cn w J 0 _ _ _ h).trans rfl
theorem ed.c1{w:World}{J V:Nat}{e:Int}{s:Bool}(h:ed w J V e s):w.cell? ⟨J,1,none⟩=some (.int .i64 e):=(Cn w J 1 _ _ _ h).trans rfl
theorem ed.c2{w:World}{J V:Nat}{e:Int}{s:Bool}(h:ed w J V e s):w.cell? ⟨J,2,none⟩=some (.bool s):=(Cn w J 2 _ _ _ h).trans rfl
theorem ed.fz{w:World}{J V:Nat}{e:Int}{s:Bool}(h:ed w J V e s)(j:Nat):w.frozen? ⟨J,j,none⟩=false:=CN w J j _ _ h
theorem ed.fr{S:Nat→Prop}{w a:World}{J V:Nat}{e:Int}{s:Bool}(h:ed w J V e s)(b:Fr S w a)(c:¬S J):ed a J V e s:=b.keep h c
theorem ed.set1{w:World}{J V:Nat}{e:Int}{s:Bool}(h:ed w J V e s)(a:Int):ed (w.setCell ⟨J,1,none⟩ (.int .i64 a)) J V a s:=by unfold ed;rw[ag _ _ _ _ _ _ h];rfl
theorem ed.set2{w:World}{J V:Nat}{e:Int}{s:Bool}(h:ed w J V e s)(a:Bool):ed (w.setCell ⟨J,2,none⟩ (.bool a)) J V e a:=by unfold ed;rw[ag _ _ _ _ _ _ h];rfl
def jN(r:List Value):Prop:=r.length=128∧(∀v∈r,v.oneCell'=true)∧∃b:Nat→Nat,(∀i,i<4→r[i*32]?=some (.int .u8 (b i)))∧gJ b=true
def no(w:World)(J:Nat):Nat:=match w.cell? ⟨J,1,none⟩with|some (.int _ e)=>e.toNat|_=>0
theorem pI{w:World}{J V:Nat}{e:Int}{s:Bool}(h:ed w J V e s):no w J=e.toNat:=by simp[no,h.c1]
theorem il(ρ:Operand→Value)(o:Oper)(a:o.op= .alloc 130)(w:World):(execOp ρ o).run prog w= .ok (.value (.pointer (some ⟨w.heap.size,0,none⟩))) (w.alloc (.cells zB.toArray 130)):=by simp only[execOp,a];kernel_rfl
theorem fY{w:World}{g:Nat}{cs r:List Value}(b:w.heap[g]?=some (.cells cs.toArray 130 (0,0)))(c:cs.length=128)(a:r.length=128)(d:∀v∈r,v.oneCell'=true):(Instr.storeAt 130 (.pointer (some ⟨g,0,none⟩)) (.agg r.toArray)).run prog w= .ok () (w.setRow g r.toArray):=by have:=au (P:=prog) (o:=0) (ty:=130) (vs:=r) b (by omega) d (by rw[aV,a]);rwa[show splice cs 0 r=r from by simp[splice,a,c]]at this
theorem xD{ρ:Operand→Value}{o:Oper}{x y:Operand}{a b:Int}(c:o.op= .binOp .lss 3 x y 3)(d:ρ x= .int .i64 a)(e:ρ y= .int .i64 b)(w:World):(execOp ρ o).run prog w= .ok (.value (.bool (decide (a<b)))) w:=by simp only[execOp,c,d,e];kernel_rfl
theorem yH:∀i,i<128→∃z:Int,zB.toArray[i]?=some (.int .u8 z):=by intro i hi;exact⟨0,by rw[zB,De,E9,CE hi]⟩
theorem A6(w:World):(binOp .neq 130 (.agg zB.toArray) (.agg zB.toArray)).run prog w= .ok (.bool false) w:=by rw[EW];have:=gK 9998 zB.toArray w yH;rw[this];rfl
theorem ay{P:Program}{a:Func}{p u:Tmp}{ty:TypeId}(h:a.results=#[.cell p ty,.tmp u])(tmps:Array Value)(w:World)(g:Nat)(t:TypeId)(cs:Array Value)(fr:Nat×Nat)(d:TypeDesc)(b:tmps.getD p undef= .pointer (some ⟨g,0,none⟩))(c:w.heap[g]?=some (.cells cs t fr))(e:P.underlying ty=some d)(f:(match d with| .struct _| .array _ _=>true|_=>false)=true)(hi:(P.info? ty).map (·.size)=some cs.size):(results a tmps).run P w= .ok (.tuple #[.agg cs,tmps.getD u undef]) w:=by rw[results_cell_tmp h,b];simp[asAddr,run_loadVar_row w g t ty cs fr d c e f hi]
def bz(st:List SS):List SS:=st++List.replicate (6-st.length) bB
def av(id:Int)(n:Nat)(l:List SS):List Value:= .int .i64 id:: .int .i64 n::an l
def iO:List Value:=av 0 0 (bz [])
def iZ:Value:= .iface 59 (.int .i64 1)
def BA(id:Int)(st:List SS)(w:World)(e:Ending)(a:World):Prop:=((aO id st=true∧e= .returned (.tuple #[.agg (av id st.length (bz st)).toArray,.nilIface]))∨(aO id st=false∧e= .returned (.tuple #[.agg iO.toArray,iZ])))∧Fr (fun _=>False) w a
theorem bK:(prog.info? 122).map (·.size)=some 14:=by kernel_rfl
theorem bD(id:Int)(n:Nat)(l:List SS)(h:l.length=6):(av id n l).length=14:=by simp[av,bW,h]
theorem eD(id:Int)(n:Nat)(l:List SS):∀v∈av id n l,v.oneCell'=true:=by
 intro v a;simp only[av,CF]at a;rcases a with rfl|rfl|a
 ·rfl
 ·rfl
 ·simp only[an,Ee,Cx]at a;obtain⟨x,⟨p,_,rfl⟩,h⟩:=a;exact ov p v h
theorem bf(st:List SS)(h:st.length≤6):(bz st).length=6:=by simp[bz];omega
theorem qc{w:World}{i:Option Addr}{g:Nat}{st:List SS}(id:Int)(c:id<1∨1000<id∨(st.length:Int)<1∨(6:Int)<st.length):Calls prog 57 #[.int .i64 id,.slice i st.length g] w fun e j=>BA id st w e j:=by
 have d:Hid (aO id st=false):=by simp[Hid,aO];omega
 have b:∀(tmps:Array Value),tmps.getD 4 undef= .pointer (some ⟨w.heap.size,0,none⟩)→tmps.getD 5 undef=iZ→(results Tryz.f57 tmps).run prog (w.alloc (.cells iO.toArray 122))= .ok (.tuple #[.agg iO.toArray,iZ]) (w.alloc (.cells iO.toArray 122)):=fun tmps h k=>by rw[←k];exact ay Tryz.results57 tmps _ w.heap.size 122 iO.toArray (0,0) _ h (aa _ _) underlying122 rfl (by kernel_rfl)
 have f:Hid (Fr (fun _=>False) w (w.alloc (.cells iO.toArray 122))):=(Fr.refl _ _).alloc _;have a:=b;clear b;by_cases l:id<1
 ·clear c;go_enter func57,ntmps57;go_wp2;refine CJ (a _ rfl rfl) rfl ⟨.inr ⟨d.out,rfl⟩,f.out⟩
 by_cases m:1000<id
 ·clear c;go_enter func57,ntmps57;go_wp2;refine CJ (a _ rfl rfl) rfl ⟨.inr ⟨d.out,rfl⟩,f.out⟩
 by_cases n:(st.length:Int)<1
 ·clear c;go_enter func57,ntmps57;go_wp2;refine CJ (a _ rfl rfl) rfl ⟨.inr ⟨d.out,rfl⟩,f.out⟩
 have h:(6:Int)<st.length:=by omega
 clear c;go_enter func57,ntmps57;go_wp2;refine CJ (a _ rfl rfl) rfl ⟨.inr ⟨d.out,rfl⟩,f.out⟩
end Go.Proofs.YteebjgfalllbjaaGreatDoor
