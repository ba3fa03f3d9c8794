import Derived.Test.YteebjgfalllbjaaGreatDoorK13
import Derived.Test.YteebjgfalllbjaaGreatDoorK15
namespace Go.Proofs.YteebjgfalllbjaaGreatDoor
open Go.RowKit Go.Proofs.Tryz
set_option maxRecDepth 100000
set_option maxHeartbeats 4000000
def cM(p:Int):Nat→Int
 |0=>1
 |n+1=>if cM p n<p then 2*cM p n else cM p n
def RS.vain(r:RS)(clock pause:Int):RS:={r with tries:=r.tries+1,due:=clock+(if cM pause r.tries.toNat>pause then pause else cM pause r.tries.toNat)}
theorem vA(p:Int)(n:Nat):1≤cM p n:=by
 induction n with
 |zero=>exact DL 1
 |succ n a=>rw[cM];split<;>omega
theorem xW(p:Int)(h:1≤p)(n:Nat):cM p n≤2*p:=by
 induction n with
 |zero=>show(1:Int)≤2*p;omega
 |succ n a=>rw[cM];split<;>omega
theorem lL(p:Int)(n:Nat)(h:p≤cM p n)(k:Nat):cM p (n+k)=cM p n:=by
 induction k with
 |zero=>rfl
 |succ k a=>rw[←Nat.add_assoc,cM,a,Cz (by omega)]
theorem lC(w:World)(r:RS)(clock pause:Int)(D:0≤r.tries)(E:r.tries≤1000000)(F:0≤clock)(G:clock≤1000000)(t:1≤pause)(H:pause≤64):Calls prog 131 #[.agg r.cs.toArray,.int .i64 clock,.int .i64 pause] w fun e I=>e= .returned (.agg (r.vain clock pause).cs.toArray)∧Fr (fun _=>False) w I:=by
 obtain⟨id,a,b,st,⟨c,f⟩,tries,due,ma,mc,may⟩:=r;obtain⟨n,rfl⟩:∃n:Nat,tries=n:=⟨tries.toNat,by have:0≤tries:=D;omega⟩;have O:(n:Int)≤1000000:=E;have P:wrap64 ((n:Int)+1)=(n:Int)+1:=bN (by omega);obtain⟨d,u⟩:∃d,d=clock+(if pause<cM pause n then pause else cM pause n):=⟨_,rfl⟩;have ev:(RS.vain ⟨id,a,b,st,(c,f),(n:Int),due,ma,mc,may⟩ clock pause).cs=[.int .i64 id,.slice a st.length b,.int .i64 c,.int .i64 f,.int .i64 ((n:Int)+1),.int .i64 d,.slice ma may.length mc]:=by rw[u];rfl
 rw[ev];have o:=af u;clear ev u;have h:∀(g:Int) (tmps:Array Value),d=g→tmps.getD 6 undef= .pointer (some ⟨w.heap.size+1,0,none⟩)→(results Tryz.f131 tmps).run prog ((w.alloc (.cells #[.int .i64 id,.slice a st.length b,.int .i64 c,.int .i64 f,.int .i64 ((n:Int)+1),.int .i64 g,.slice ma may.length mc] 223)).alloc (.cells #[.int .i64 id,.slice a st.length b,.int .i64 c,.int .i64 f,.int .i64 ((n:Int)+1),.int .i64 g,.slice ma may.length mc] 223))= .ok (.agg #[.int .i64 id,.slice a st.length b,.int .i64 c,.int .i64 f,.int .i64 ((n:Int)+1),.int .i64 d,.slice ma may.length mc]) ((w.alloc (.cells #[.int .i64 id,.slice a st.length b,.int .i64 c,.int .i64 f,.int .i64 ((n:Int)+1),.int .i64 g,.slice ma may.length mc] 223)).alloc (.cells #[.int .i64 id,.slice a st.length b,.int .i64 c,.int .i64 f,.int .i64 ((n:Int)+1),.int .i64 g,.slice ma may.length mc] 223)):=fun g tmps J K=>by rw[J];refine Dd Tryz.results131 tmps _ (w.heap.size+1) 223 #[.int .i64 id,.slice a st.length b,.int .i64 c,.int .i64 f,.int .i64 ((n:Int)+1),.int .i64 g,.slice ma may.length mc] (0,0) _ K ?_ underlying223 rfl (by kernel_rfl);have:=aa (w.alloc (.cells #[.int .i64 id,.slice a st.length b,.int .i64 c,.int .i64 f,.int .i64 ((n:Int)+1),.int .i64 g,.slice ma may.length mc] 223)) (.cells #[.int .i64 id,.slice a st.length b,.int .i64 c,.int .i64 f,.int .i64 ((n:Int)+1),.int .i64 g,.slice ma may.length mc] 223);simpa using this
 have p:∀g:Int,Fr (fun _=>False) w ((w.alloc (.cells #[.int .i64 id,.slice a st.length b,.int .i64 c,.int .i64 f,.int .i64 ((n:Int)+1),.int .i64 g,.slice ma may.length mc] 223)).alloc (.cells #[.int .i64 id,.slice a st.length b,.int .i64 c,.int .i64 f,.int .i64 ((n:Int)+1),.int .i64 g,.slice ma may.length mc] 223)):=fun g=>((Fr.refl _ _).alloc _).alloc _;unfold RS.cs;go_enter func131,ntmps131;go_wp2;go_loopw [7,8] (fun x i wr=>∃k:Nat,k≤n∧x= .int .i64 (cM pause k)∧i= .int .i64 ((k:Int)+1)∧wr=((w.alloc (.cells #[.int .i64 id,.slice a st.length b,.int .i64 c,.int .i64 f,.int .i64 ((n:Int)+1),.int .i64 due,.slice ma may.length mc] 223)).alloc (.cells #[.int .i64 0,.slice none 0 0,.int .i64 0,.int .i64 0,.int .i64 0,.int .i64 0,.slice none 0 0] 223))) (fun _ i _=>n+1-(intOf i).toNat);case atStart=>exact⟨0,CH _,rfl,rfl,rfl⟩
 case round=>
  obtain⟨k,Q,rfl,rfl,rfl⟩:=hrel;have v:=vA pause k;have y:=xW pause t k;obtain⟨x,q⟩:∃x,x=cM pause k:=⟨_,rfl⟩;rw[←q]at v y;rw[←q];have s:=af q;clear q;by_cases L:k<n
  ·have B:(k:Int)<n:=by omega
   by_cases z:x<pause
   ·have R:wrap64 (2*x)=2*x:=bN (by omega);have S:wrap64 ((k:Int)+1+1)=((k+1:Nat):Int)+1:=by rw[bN (by omega)];push_cast;rfl
    have A:Hid (2*x=cM pause (k+1)):=by show 2*x=cM pause (k+1);rw[cM,←s.out,CE z]
    go_wp2;go_roundw;case rel=>exact⟨k+1,by omega,by rw[←A.out],by push_cast;rfl,trivial⟩
    case measure=>simp[intOf];omega
   ·have l:Hid (x=cM pause n):=(by show x=cM pause n;have C:=lL pause k (by rw[←s.out];omega) (n-k);rw[show k+(n-k)=n by omega]at C;rw[C];exact s.out);have M:wrap64 (clock+x)=clock+x:=bN (by omega);have N:wrap64 (clock+pause)=clock+pause:=bN (by omega);by_cases j:pause<x
    ·go_wp2;exact CJ (h _ _ (by rw[o.out,←l.out,CE j]) rfl) rfl ⟨rfl,(p _)⟩
    ·go_wp2;exact CJ (h _ _ (by rw[o.out,←l.out,Cz (by omega)]) rfl) rfl ⟨rfl,(p _)⟩
  ·have m:k=n:=by omega
   have l:Hid (x=cM pause n):=by rw[←m];exact s
   subst m;have M:wrap64 (clock+x)=clock+x:=bN (by omega);have N:wrap64 (clock+pause)=clock+pause:=bN (by omega);by_cases j:pause<x
   ·go_wp2;exact CJ (h _ _ (by rw[o.out,←l.out,CE j]) rfl) rfl ⟨rfl,(p _)⟩
   ·go_wp2;exact CJ (h _ _ (by rw[o.out,←l.out,Cz (by omega)]) rfl) rfl ⟨rfl,(p _)⟩
structure CL where
 saga:Int
 step:Int
 back:Bool
 data:ByteArray
def CL.cs(c:CL):List Value:=[.int .i64 c.saga,.int .i64 c.step,.bool c.back,.string c.data]
theorem mU(w:World)(a c:CL):Calls prog 133 #[.agg a.cs.toArray,.agg c.cs.toArray] w fun e b=>e= .returned (.bool (decide (a.saga=c.saga∧a.step=c.step∧a.back=c.back∧a.data=c.data)))∧Fr (fun _=>False) w b:=by
 obtain⟨f,g,i,d⟩:=a;obtain⟨c1,c2,c3,c4⟩:=c;unfold CL.cs;go_enter func133,ntmps133;go_wp2;all_goals
  go_ret;refine⟨?_,((Fr.refl _ _).alloc _).alloc _⟩
 ·by_cases h:d=c4
  ·rw[sU h];simp[*]
  ·rw[mV h];simp[*]
 ·simp[*]
 ·simp[*]
 ·simp[*]
theorem oR{w:World}{r:RS}{k:Nat}{p:SS}(a:aY w r.sa 2 (r.st.map dj))(q:r.S.2=(k:Int)+1)(j:r.st[k]?=some p)(s:r.st.length≤100):Calls prog 132 #[.agg r.cs.toArray] w fun e v=>e= .returned (.agg (CL.cs ⟨r.id,r.S.2,decide (r.S.1=2),if r.S.1=2 then p.2 else p.1⟩).toArray)∧Fr (fun _=>False) w v:=by
 obtain⟨id,x,G,st,⟨y,z⟩,tries,due,ma,mc,may⟩:=r;obtain⟨l,m⟩:=p;have n:z=(k:Int)+1:=q;have b:=(Co.1 j).1;have t:k<st.length:=b;have D:st.length≤100:=s;obtain⟨g,off,c,o⟩:=a k (dj (l,m)) (by rw[CK,j];rfl);have d:x=some ⟨g,off,none⟩:=c;subst d n;have c0:w.cell? ⟨g,off+k*2,none⟩=some (.string l):=o 0 _ rfl;have c1:w.cell? ⟨g,off+k*2+1,none⟩=some (.string m):=o 1 _ rfl;have f:g<w.heap.size:=Cw w ⟨g,off+k*2,none⟩ c0;have d0:∀A B C:Obj,(((w.alloc A).alloc B).alloc C).cell? ⟨g,off+k*2,none⟩=some (.string l):=fun A B C=>by rw[EY (w:=w)];exact c0;show(((w.alloc A).alloc B).alloc C).heap[g]?=w.heap[g]?;rw[ai _ _ _ (by simp;omega),ai _ _ _ (by simp;omega),ai _ _ _ f]
 have H:∀A B C:Obj,(((w.alloc A).alloc B).alloc C).cell? ⟨g,off+k*2+1,none⟩=some (.string m):=fun A B C=>by rw[EY (w:=w)];exact c1;show(((w.alloc A).alloc B).alloc C).heap[g]?=w.heap[g]?;rw[ai _ _ _ (by simp;omega),ai _ _ _ (by simp;omega),ai _ _ _ f]
 clear c0 c1;have I:wrap64 ((k:Int)+1-1)=k:=by rw[bN (by omega)];omega
 clear a o c j q s b;have h:∀(A C:Obj) (cs:Array Value) (tmps:Array Value),tmps.getD 2 undef= .pointer (some ⟨w.heap.size+1,0,none⟩)→cs.size=4→(results Tryz.f132 tmps).run prog (((w.alloc A).alloc (.cells cs 233)).alloc C)= .ok (.agg cs) (((w.alloc A).alloc (.cells cs 233)).alloc C):=fun A C cs tmps E F=>by refine Dd Tryz.results132 tmps _ (w.heap.size+1) 233 cs (0,0) _ E ?_ underlying233 rfl (by rw[F];kernel_rfl);rw[ai _ _ _ (by simp)];have:=aa (w.alloc A) (.cells cs 233);simpa using this
 have u:∀A B C:Obj,Fr (fun _=>False) w (((w.alloc A).alloc B).alloc C):=fun A B C=>(((Fr.refl _ _).alloc _).alloc _).alloc _;unfold RS.cs;by_cases i:y=2
 ·rw[CE i,Dg i];subst i;unfold CL.cs;go_enter func132,ntmps132;go_wp2;exact CJ (h _ _ _ _ rfl rfl) rfl ⟨rfl,u _ _ _⟩
 ·rw[Cz i,Dl i];unfold CL.cs;go_enter func132,ntmps132;go_wp2;refine CJ (h _ _ _ _ rfl rfl) rfl ⟨?_,u _ _ _⟩;simp
theorem rf{ρ:Operand→Value}{o:Oper}{x:Operand}{a:Int}(b:o.op= .convert 3 185 x)(c:ρ x= .int .i64 a)(d:0≤a)(f:a<18446744073709551616)(w:World):(execOp ρ o).run prog w= .ok (.value (.int .u64 a)) w:=by
 have e:a%18446744073709551616=a:=by omega
 simp only[execOp,b,c];have:(execOp ρ o).run prog w= .ok (.value (.int .u64 (a%18446744073709551616))) w:=by simp only[execOp,b,c];kernel_rfl
 rw[e]at this;simpa only[execOp,b,c]using this
theorem x5{ρ:Operand→Value}{o:Oper}{x y:Operand}{a b:Int}{c:Array TypeId}(d:o.op= .call {callee:= .builtin .min,args:=#[x,y],argTypes:=c})(e:ρ x= .int .i64 a)(f:ρ y= .int .i64 b)(w:World):(execOp ρ o).run prog w= .ok (.value (.int .i64 (min a b))) w:=by simp only[execOp,d];simp[e,f,go_sem]
theorem vd{ρ:Operand→Value}{o:Oper}{x y:Operand}{m:Nat}(a:o.op= .binOp .shl 3 x y 3)(b:ρ x= .int .i64 1)(c:ρ y= .int .i64 m)(d:m≤7)(w:World):(execOp ρ o).run prog w= .ok (.value (.int .i64 (2^m:Nat))) w:=by
 simp only[execOp,a,b,c];obtain h|h|h|h|h|h|h|h:m=0∨m=1∨m=2∨m=3∨m=4∨m=5∨m=6∨m=7:=by omega
 all_goals subst h;kernel_rfl
def ST.off(s:ST)(clock pause:Int)(m:Nat):ST:=⟨s.id,s.state,s.step,s.steps,s.tries+1,clock+min ((2^m:Nat):Int) pause⟩
theorem vh(w:World)(id a step b due:Int)(tries m:Nat)(clock pause:Int)(J:1≤pause)(K:pause≤64)(L:((m:Nat):Int)=min (tries:Int) (Lib.bitLen pause.toNat:Nat))(Z:tries≤1000000)(M:0≤clock)(N:clock≤1000000):Calls prog 163 #[.agg (ST.cs ⟨id,a,step,b,(tries:Nat),due⟩).toArray,.int .i64 clock,.int .i64 pause] w fun e t=>e= .returned (.agg (ST.cs (ST.off ⟨id,a,step,b,(tries:Nat),due⟩ clock pause m)).toArray)∧Fr (fun _=>False) w t:=by
 have e3:=Lib.bitLen_le8' pause (by omega) (by omega);have O:Lib.bitLen pause.toNat≤7:=by have P:=Lib.bitLenAux_le 64 pause.toNat 7 (by omega);exact P
 have A:m≤7:=by omega
 have e1:wrap64 ((tries:Int)+1)=(tries:Int)+1:=bN (by omega);have Q:((2^m:Nat):Int)≤128:=by have:=Nat.pow_le_pow_right (show 0<2 by omega) A;have I:(2:Nat)^7=128:=rfl;omega
 have R:(0:Int)≤((2^m:Nat):Int):=Int.natCast_nonneg _;have e2:wrap64 (clock+min ((2^m:Nat):Int) pause)=clock+min ((2^m:Nat):Int) pause:=bN (by omega);have f:((w.alloc (.cells #[.int .i64 id,.int .i64 a,.int .i64 step,.int .i64 b,.int .i64 (tries:Nat),.int .i64 due] 138)).alloc (.cells #[.int .i64 0,.int .i64 0,.int .i64 0,.int .i64 0,.int .i64 0,.int .i64 0] 138)).heap[w.heap.size]?=some (.cells #[.int .i64 id,.int .i64 a,.int .i64 step,.int .i64 b,.int .i64 (tries:Nat),.int .i64 due] 138 (0,0)):=by rw[ai _ _ _ (by simp)];exact aa _ _
 have g:((w.alloc (.cells #[.int .i64 id,.int .i64 a,.int .i64 step,.int .i64 b,.int .i64 (tries:Nat),.int .i64 due] 138)).alloc (.cells #[.int .i64 0,.int .i64 0,.int .i64 0,.int .i64 0,.int .i64 0,.int .i64 0] 138)).heap[w.heap.size+1]?=some (.cells #[.int .i64 0,.int .i64 0,.int .i64 0,.int .i64 0,.int .i64 0,.int .i64 0] 138 (0,0)):=Di w _ _;have B:Fr (fun _=>False) w ((w.alloc (.cells #[.int .i64 id,.int .i64 a,.int .i64 step,.int .i64 b,.int .i64 (tries:Nat),.int .i64 due] 138)).alloc (.cells #[.int .i64 0,.int .i64 0,.int .i64 0,.int .i64 0,.int .i64 0,.int .i64 0] 138)):=((Fr.refl _ _).alloc _).alloc _;unfold ST.cs;go_enter func163,ntmps163;go_wp2_with fail;obtain⟨W,H⟩:=aw (((w.alloc (.cells #[.int .i64 id,.int .i64 a,.int .i64 step,.int .i64 b,.int .i64 (tries:Nat),.int .i64 due] 138)).alloc (.cells #[.int .i64 0,.int .i64 0,.int .i64 0,.int .i64 0,.int .i64 0,.int .i64 0] 138)).drew);have k:Fr (fun _=>False) ((w.alloc (.cells #[.int .i64 id,.int .i64 a,.int .i64 step,.int .i64 b,.int .i64 (tries:Nat),.int .i64 due] 138)).alloc (.cells #[.int .i64 0,.int .i64 0,.int .i64 0,.int .i64 0,.int .i64 0,.int .i64 0] 138)) W:=by rw[H.out];exact(Fr.refl _ _).drew
 let S:World→Prop:=fun t=>t.cell? ⟨w.heap.size,4,none⟩=some (.int .i64 (tries:Nat))
 have n:S W:=(Cn _ _ 4 _ _ _ (k.keep f jI)).trans rfl;refine dZ S H ?_;clear H;refine bT 0 8 138 3 4 (.pointer (some ⟨w.heap.size,4,none⟩)) rfl n ?_;refine cU 1 9 3 8 (.int .i64 (tries:Nat)) ⟨w.heap.size,4,none⟩ rfl (fun _ T=>T) underlying3 n ?_;refine bM 2 10 2 (.int .i64 pause) rfl n ?_;simp only[Act.put,aC,aB,aE];refine eW (S:=S) (i:=3) (oi:=⟨some 11,.convert 3 185 (.tmp 10),_,_,_,none⟩) (v:= .int .u64 pause) rfl (Or.inl ⟨rfl,fun t _=>rf rfl rfl (by omega) (by omega) t⟩) n ?_;simp only[Act.put,aC,aB,aE];refine dN 4 12 172 #[.tmp 11] #[.int .u64 pause] rfl ?_;refine(sd W pause J K).mono ?_;rintro e l ⟨rfl,rfl⟩;refine⟨_,rfl,n,?_⟩;simp only[Act.put,aC,aB,aE];refine cj 5 ?_;refine ak (o:=⟨some 13,.call {callee:= .builtin .min,args:=#[.tmp 9,.tmp 12],argTypes:=_},_,_,_,none⟩) (v:= .int .i64 (m:Nat)) (w':=l) rfl rfl (by rw[L];exact x5 rfl rfl rfl l) ⟨n,?_⟩;simp only[Act.put,aC,aB,aE];refine eW (S:=S) (i:=6) (oi:=⟨some 14,.binOp .shl 3 (.const (.int .i64 1)) (.tmp 13) 3,_,_,_,none⟩) (v:= .int .i64 (2^m:Nat)) rfl (Or.inl ⟨rfl,fun t _=>vd rfl rfl rfl A t⟩) n ?_;refine mB 7 7 14 (.int .i64 (2^m:Nat)) rfl n ?_;simp only[Act.put,aC,aB,aE];refine dn ?_;generalize U:(2^m:Nat)=q at*
 have c:=k.keep f jI;have d:=k.keep g jI;have C:=B.trans k fI;have c4:l.cell? ⟨w.heap.size,4,none⟩=some (.int .i64 (tries:Nat)):=n;clear f g k B n;have fz:=CN l _ 4 _ _ c;have V:=CN _ _ 5 _ _ (ag l w.heap.size 4 _ _ (.int .i64 ((tries:Int)+1)) c);have c5:(l.setCell ⟨w.heap.size,4,none⟩ (.int .i64 ((tries:Int)+1))).cell? ⟨w.heap.size,5,none⟩=some (.int .i64 due):=(Cn _ _ 5 _ _ _ (ag l w.heap.size 4 _ _ (.int .i64 ((tries:Int)+1)) c)).trans rfl;have u:=ag _ w.heap.size 5 _ _ (.int .i64 (clock+min (q:Int) pause)) (ag l w.heap.size 4 _ _ (.int .i64 ((tries:Int)+1)) c);have p:((l.setCell ⟨w.heap.size,4,none⟩ (.int .i64 ((tries:Int)+1))).setCell ⟨w.heap.size,5,none⟩ (.int .i64 (clock+min (q:Int) pause))).heap[w.heap.size+1]?=_:=(aK _ _ _ _ (by simp)).trans ((aK _ _ _ _ (by simp)).trans d);have x:Fr (fun _=>False) w ((l.setCell ⟨w.heap.size,4,none⟩ (.int .i64 ((tries:Int)+1))).setCell ⟨w.heap.size,5,none⟩ (.int .i64 (clock+min (q:Int) pause))):=(C.setCell _ (fun h=>by simp at h) _).setCell _ (fun h=>by simp at h) _;obtain⟨z,D⟩:=aw (((l.setCell ⟨w.heap.size,4,none⟩ (.int .i64 ((tries:Int)+1))).setCell ⟨w.heap.size,5,none⟩ (.int .i64 (clock+min (q:Int) pause))));rw[←D.out]at u p x;have s:z.heap[w.heap.size]?=some (.cells (ST.cs ⟨id,a,step,b,(tries:Int)+1,clock+min (q:Int) pause⟩).toArray 138 (0,0)):=u;have y:z.rangeAt w.heap.size 0 (ST.cs ⟨id,a,step,b,(tries:Int)+1,clock+min (q:Int) pause⟩):=fun j v X=>(Cn z _ (0+j) _ _ _ s).trans (by simpa using X)
 have r:=bp (ty:=138) (cs:=[.int .i64 0,.int .i64 0,.int .i64 0,.int .i64 0,.int .i64 0,.int .i64 0]) p rfl (ST.len ⟨id,a,step,b,(tries:Int)+1,clock+min (q:Int) pause⟩) (ST.one _) aF;have E:=CA z (w.heap.size+1) _ (ST.cs ⟨id,a,step,b,(tries:Int)+1,clock+min (q:Int) pause⟩).toArray 138 (0,0) p;have F:Fr (fun _=>False) w (z.setRow (w.heap.size+1) (ST.cs ⟨id,a,step,b,(tries:Int)+1,clock+min (q:Int) pause⟩).toArray):=x.setRow _ (fun h=>by omega) _;obtain⟨Y,G⟩:=aw (z.setRow (w.heap.size+1) (ST.cs ⟨id,a,step,b,(tries:Int)+1,clock+min (q:Int) pause⟩).toArray);rw[←G.out]at r E F;clear G u s p x c d C;simp only[ST.cs]at y r;rw[D.out]at y r;go_wp2_with (first|(refine CC rfl 138 _ rfl w.heap.size 0 ?_ _ _ y underlying138 rfl ?_ ?_;rfl;exact aF)|(refine ae 138 (w':=Y) _ _ rfl rfl ?_ ?_;exact r));exact CJ (Dd Tryz.results163 _ _ (w.heap.size+1) 138 _ (0,0) _ rfl E underlying138 rfl aF) rfl ⟨by rw[←U];rfl,F⟩
end Go.Proofs.YteebjgfalllbjaaGreatDoor
