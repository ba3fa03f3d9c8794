import Derived.Test.YteebjgfalllbjaaGreatDoorK44
namespace Go.Proofs.YteebjgfalllbjaaGreatDoor
open Go.RowKit Go.Proofs.Tryz
set_option maxRecDepth 100000
set_option maxHeartbeats 4000000
def D0(w:World)(A:Nat)(bo:Option Addr)(d:DP):Prop:=w.heap[A]?=some (.cells #[.slice bo 0 d.cap,.slice none 0 0,.int .i64 d.calls,.int .i64 d.writes,.int .i64 d.told,.int .i64 d.off,.int .i64 d.lo,.int .i64 d.hi] 96 (0,0))
section
variable{w w':World}{A:Nat}{bo:Option Addr}{d:DP}
theorem D0.c(h:D0 w A bo d){i:Nat}{v:Value}(hi:(#[.slice bo 0 d.cap,.slice none 0 0,.int .i64 d.calls,.int .i64 d.writes,.int .i64 d.told,.int .i64 d.off,.int .i64 d.lo,.int .i64 d.hi]:Array Value)[i]?=some v):w.cell? ⟨A,i,none⟩=some v:=(Cn w A i _ _ _ h).trans hi
theorem D0.fz(h:D0 w A bo d)(j:Nat):w.frozen? ⟨A,j,none⟩=false:=CN w A j _ _ h
theorem D0.fr{S:Nat→Prop}(h:D0 w A bo d)(a:Fr S w w')(b:¬S A):D0 w' A bo d:=a.keep h b
theorem D0.set5(h:D0 w A bo d)(v:Int):D0 (w.setCell ⟨A,5,none⟩ (.int .i64 v)) A bo {d with off:=v}:=ag w A 5 _ _ _ h
theorem D0.set6(h:D0 w A bo d)(v:Int):D0 (w.setCell ⟨A,6,none⟩ (.int .i64 v)) A bo {d with lo:=v}:=ag w A 6 _ _ _ h
theorem D0.set7(h:D0 w A bo d)(v:Int):D0 (w.setCell ⟨A,7,none⟩ (.int .i64 v)) A bo {d with hi:=v}:=ag w A 7 _ _ _ h
theorem D0.drew(h:D0 w A bo d):D0 w.drew A bo d:=h
theorem Bj(h:D0 w A bo d)(f:0≤d.calls)(g:d.calls<1000000000)(k:Int)(i:0≤k)(a:k≤1000):Calls prog 30 #[.pointer (some ⟨A,0,none⟩),.int .i64 k] w fun e w'=>e= .returned (.tuple #[])∧D0 w' A bo {d with off:=d.calls+k}∧Fr (· =A) w w':=by have c2:w.cell? ⟨A,2,none⟩=some (.int .i64 d.calls):=h.c rfl;have c5:w.cell? ⟨A,5,none⟩=some (.int .i64 d.off):=h.c rfl;have j:=h.fz 5;have b:Hid (D0 (w.setCell ⟨A,5,none⟩ (.int .i64 (d.calls+k))) A bo {d with off:=d.calls+k}∧Fr (· =A) w (w.setCell ⟨A,5,none⟩ (.int .i64 (d.calls+k)))):=⟨h.set5 _,Fr.set1 _ _ _ _⟩;clear h;go_enter func30,ntmps30;go_wp2;go_end0;exact⟨rfl,b.out⟩
theorem B5(h:D0 w A bo d)(i:0≤d.calls)(j:d.calls<1000000000)(a k:Int)(l:0≤a)(b:a≤1000)(m:0≤k)(f:k≤1000):Calls prog 31 #[.pointer (some ⟨A,0,none⟩),.int .i64 a,.int .i64 k] w fun e w'=>e= .returned (.tuple #[])∧D0 w' A bo {d with lo:=d.calls+a,hi:=d.calls+a+k}∧Fr (· =A) w w':=by have c2:w.cell? ⟨A,2,none⟩=some (.int .i64 d.calls):=h.c rfl;have c6:w.cell? ⟨A,6,none⟩=some (.int .i64 d.lo):=h.c rfl;have c7:w.cell? ⟨A,7,none⟩=some (.int .i64 d.hi):=h.c rfl;have n:=h.fz 6;have o:=h.fz 7;have g:=af h;clear h;go_enter func31,ntmps31;go_wp2;go_region;go_end0;exact⟨rfl,((g.out.set6 (d.calls+a)).set7 (d.calls+a+k)).drew,((Fr.set1 _ _ _ _).trans (Fr.set1 _ _ _ _) fI).drew⟩
theorem ou(h:D0 w A bo d):Calls prog 37 #[.pointer (some ⟨A,0,none⟩)] w fun e w'=>e= .returned (.int .i64 d.told)∧w'=w:=by have c4:w.cell? ⟨A,4,none⟩=some (.int .i64 d.told):=h.c rfl;go_enter func37,ntmps37;go_wp2;go_ret;exact⟨rfl,rfl⟩
theorem pL(h:D0 w A bo d):Calls prog 36 #[.pointer (some ⟨A,0,none⟩)] w fun e w'=>e= .returned (.int .i64 d.writes)∧w'=w:=by have c3:w.cell? ⟨A,3,none⟩=some (.int .i64 d.writes):=h.c rfl;go_enter func36,ntmps36;go_wp2;go_ret;exact⟨rfl,rfl⟩
theorem kd(h:D0 w A bo d):Calls prog 34 #[.pointer (some ⟨A,0,none⟩)] w fun e w'=>e= .returned (.int .i64 0)∧w'=w:=by have c1:w.cell? ⟨A,1,none⟩=some (.slice none 0 0):=h.c rfl;go_enter func34,ntmps34;go_wp2;go_ret;exact⟨rfl,rfl⟩
theorem vV(h:D0 w A bo d):Calls prog 204 #[.pointer (some ⟨A,0,none⟩)] w fun e w'=>e= .returned (.int .i64 0)∧w'=w:=by have c0:w.cell? ⟨A,0,none⟩=some (.slice bo 0 d.cap):=h.c rfl;clear h;go_enter func204,ntmps204;go_wp2;go_ret;exact⟨rfl,rfl⟩
theorem yQ(h:D0 w A bo d):Calls prog 109 #[.iface 31 (.pointer (some ⟨A,0,none⟩))] w fun e w'=>e= .returned (.int .i64 0)∧Fr (fun _=>False) w w':=by have a:=re;have mb:=ji;go_enter_defers func109,ntmps109;go_wp2_with fail;refine(vV (h.fr ((Fr.refl (fun _=>False) w).alloc _) jI)).mono ?_;rintro e c ⟨rfl,rfl⟩;go_wp2;refine Fv (f:=152) (args:=#[.pointer (some ⟨w.heap.size,0,none⟩)]) (by simp) (by simp[go_sem]) ?_;refine(kO ⟨w.heap.size,0,none⟩ _).mono ?_;rintro e g b ⟨rfl,rfl,rfl⟩;simp[Leaves,settle,results,Tryz.results109,go_sem];exact(Fr.refl _ _).alloc _
theorem zO(h:D0 w A bo d):Calls prog 72 #[.iface 31 (.pointer (some ⟨A,0,none⟩))] w fun e w'=>e= .returned (.tuple #[.pointer none,.iface 59 (.int .i64 7)])∧Fr (fun _=>False) w w':=by go_enter func72,ntmps72;go_wp2_with fail;refine(yQ h).mono ?_;rintro e b ⟨rfl,a⟩;go_wp2;go_ret2;exact⟨rfl,a⟩
theorem vy(h:D0 w A bo d):Calls prog 40 #[.pointer (some ⟨A,0,none⟩)] w fun e w'=>∃v,e= .returned v∧bZ w' v 7∧Fr (fun _=>False) w w':=by
 have b:Calls prog 56 #[.iface 31 (.pointer (some ⟨A,0,none⟩))] w fun e w'=>∃v,e= .returned v∧bZ w' v 7∧Fr (fun _=>False) w w':=by go_enter func56,ntmps56;go_wp2_with fail;refine(zO h).mono ?_;rintro e c ⟨rfl,a⟩;go_wp2_with fail;refine(cp _ 7 _).mono ?_;rintro e g ⟨rfl,rfl⟩;go_wp2;go_ret;exact⟨_,rfl,Or.inr ⟨_,_,rfl,aa _ _,by decide⟩,a.alloc _⟩
 go_enter func40,ntmps40;go_wp2_with fail;refine b.mono ?_;rintro e c ⟨v,rfl,f,a⟩;go_wp2;go_ret;exact⟨_,rfl,f,a⟩
theorem zE{b:Fn}{j k:Array Value}(p:Int)(h:D0 w A bo d):Calls prog 46 #[.iface 31 (.pointer (some ⟨A,0,none⟩)),.int .i64 p,.func b j k] w fun e w'=>∃v i,e= .returned (.tuple #[.pointer none,v])∧bZ w' v i∧i=(if p<1∨64<p then 8 else 7)∧Fr (fun _=>False) w w':=by
 by_cases a:p<1∨64<p
 ·refine(l9 p a).mono ?_;rintro e w' ⟨v,rfl,l,c⟩;exact⟨v,8,rfl,l,by rw[CE a],c⟩
 ·have f:¬p<1:=fun h=>a (.inl h);have g:¬64<p:=fun h=>a (.inr h);have m:decide (p<1)=false:=by simpa using f
  have n:decide (64<p)=false:=by simpa using g
  go_enter func46,ntmps46;go_wp2_with fail;refine(zO h).mono ?_;rintro e o ⟨rfl,c⟩;go_wp2_with fail;refine(cp _ 7 _).mono ?_;rintro e q ⟨rfl,rfl⟩;go_wp2;go_ret2;exact⟨_,rfl,7,Or.inr ⟨_,_,rfl,aa _ _,by decide⟩,rfl,c.alloc _⟩
end
theorem y7{w:World}{D A k:Nat}{nn em fd:Bool}{x Lv:Value}{c clock:Int}{bo:Option Addr}{d:DP}{lo:Option Addr}{lm l:Nat}{pe pl pa:Value}(h:aH w D A k 0 nn em x c clock fd Lv)(L:D0 w A bo d)(hP:w.heap[k]?=some (.cells #[.slice lo lm l,pe,pl,pa] 48 (0,0)))(a6:D≠A)(hG:cN w)(a7:NG (fun b=>b=D))(p:Int):Calls prog 53 #[.pointer (some ⟨D,0,none⟩),.int .i64 p] w fun e s=>e= .returned (.bool true)∧aH s D A k 0 nn em (.pointer none) c clock fd Lv∧Fr (· =D) w s:=by
 have a8:k≠D:=fun e=>by subst e;have:=hP.symm.trans h;simp at this
 have B:=h.set5 (.pointer none);have m:Fr (· =D) w (w.setCell ⟨D,5,none⟩ (.pointer none)):=Fr.set1 _ _ _ _;have c5:=h.c5;have f5:=h.fz 5;obtain⟨W,HW⟩:=aw (w.setCell ⟨D,5,none⟩ (.pointer none));rw[←HW.out]at B m;have f:=L.fr m (fun e=>a6 e.symm);have h5:(Instr.storeAt 32 (.pointer (some ⟨D,5,none⟩)) (.pointer none)).run prog w= .ok () W:=by rw[HW.out];exact ah c5 f5 (by kernel_rfl) rfl
 have M:=hG.fr m a7;have C:=m.keep hP a8;have a9:=af m;have c0:=B.c0;have c1:=B.c1;have N:W.cell? ⟨k,0,none⟩=some (.slice lo lm l):=(Cn W k 0 _ _ _ C).trans rfl;have O:=ou f;have P:=pL f;have Q:=kd f;have R:=af f;clear h L c5 f5 HW m hP;go_enter func53,ntmps53;go_wp2_with (refine ae 32 (w':=W) _ _ rfl rfl ?_ ?_;exact h5);refine O.mono ?_;rintro e w1 ⟨rfl,a⟩;rw[a];clear a;go_wp2_with fail;refine P.mono ?_;rintro e ag ⟨rfl,a⟩;rw[a];clear a;go_wp2_with fail;refine Q.mono ?_;rintro e ai ⟨rfl,a⟩;rw[a];clear a O P Q;go_wp2_with fail;have E:=zl;obtain⟨t,n⟩:=aw W.drew;have u:aH t D A k 0 nn em (.pointer none) c clock fd Lv:=by rw[n.out];exact B
 have T:cN t:=by rw[n.out];exact M
 have U:t.heap[k]?=some (.cells #[.slice lo lm l,pe,pl,pa] 48 (0,0)):=by rw[n.out];exact C
 have aa:Hid (Fr (· =D) w t):=by rw[n.out];exact a9.out.drew
 have F:Hid (D0 t A bo d):=by rw[n.out];exact R.out
 clear c0 c1 N C B M f h5 R;let S0:World→Prop:=fun s=>s.cell? ⟨D,0,none⟩=some (.pointer (some ⟨A,0,none⟩))∧s.cell? ⟨D,1,none⟩=some (.pointer (some ⟨k,0,none⟩))
 have r:S0 t:=⟨u.c0,u.c1⟩;refine ET (S:=S0) E ?_;change wpAnyH _ _ _ _ S0 _ _ _ (World.drew _);rw[show W.drew=t from n.out.symm];refine bM 0 42 0 (.pointer (some ⟨D,0,none⟩)) rfl r ?_;refine d4 1 43 42 (.pointer (some ⟨D,0,none⟩)) rfl r ?_;refine bT 2 44 111 43 0 (.pointer (some ⟨D,0,none⟩)) rfl r ?_;refine cU 3 45 31 44 (.pointer (some ⟨A,0,none⟩)) ⟨D,0,none⟩ rfl (fun _ hs=>hs.1) underlying31 r ?_;refine bM 4 46 1 (.int .i64 p) rfl r ?_;refine bM 5 47 0 (.pointer (some ⟨D,0,none⟩)) rfl r ?_;refine d4 6 48 47 (.pointer (some ⟨D,0,none⟩)) rfl r ?_;refine bT 7 49 111 48 1 (.pointer (some ⟨D,1,none⟩)) rfl r ?_;refine cU 8 50 28 49 (.pointer (some ⟨k,0,none⟩)) ⟨D,1,none⟩ rfl (fun _ hs=>hs.2) underlying28 r ?_;simp only[Act.put,aC,aB,aE];refine dN 9 51 33 #[.tmp 45,.tmp 46,.tmp 50] #[.pointer (some ⟨A,0,none⟩),.int .i64 p,.pointer (some ⟨k,0,none⟩)] rfl ?_;refine(ny ((zE p F.out).mono fun e s hq=>by obtain⟨v,I,rfl,B,J,z⟩:=hq;exact⟨.pointer none,v,rfl,v,I,rfl,B,J,z⟩:Calls prog 46 #[.iface 31 (.pointer (some ⟨A,0,none⟩)),.int .i64 p,uq k] t fun e s=>∃x v,e= .returned (.tuple #[x,v])∧∃v I,e= .returned (.tuple #[.pointer none,v])∧bZ s v I∧I=(if p<1∨64<p then 8 else 7)∧Fr (fun _=>False) t s)).mono ?_;rintro e w2 ⟨v,I,rfl,V,i,o⟩;have hv:=V.tell;have ab:=af i;clear i;have J:=u.fr o jI;have X:=T.fr o (fun g _ h=>h);have aj:=hv.1;have Y:=hv.2 w2 (Fr.refl _ _) X;have Z:=o.keep U jI;have a0:=F.out.fr o jI;have j:S0 w2:=⟨J.c0,J.c1⟩;refine⟨_,rfl,j,?_⟩;refine bM 10 41 51 (.tuple #[.pointer none,v]) rfl j ?_;refine kL 11 52 41 0 (.pointer none) rfl j ?_;refine kL 12 53 41 1 v rfl j ?_;refine mB 13 9 52 (.pointer none) rfl j ?_
 refine mB 14 10 53 v rfl j ?_;simp only[Act.put,aC,aB,aE];refine dn ?_;have G:=af (aa.out.trans (o.mono (fun _ _ h=>h.elim)) fI);have a1:=af a0;clear r j u T U o hv V a0 F;go_wp2_with fail;refine Y.mono ?_;rintro e w3 ⟨rfl,q⟩;have z:=J.fr q jI;have y:=a1.out.fr q jI;have H:=af q;have a2:=q.keep Z jI;have a3:=ou y;have a4:=pL y;have a5:=kd y;clear J X q Z Y y a1;go_wp2_with fail;refine(eS I _).mono ?_;rintro e w4 ⟨rfl,a⟩;rw[a];clear a;go_wp2_with fail;refine(oW z).mono ?_;rintro e w5 ⟨rfl,a⟩;rw[a];clear a;have c0:=z.c0;have c1:=z.c1;have c3:=z.c3;have N:w3.cell? ⟨k,0,none⟩=some (.slice lo lm l):=(Cn w3 k 0 _ _ _ a2).trans rfl;have H3:=af z;go_wp2_with fail;refine a4.mono ?_;rintro e w6 ⟨rfl,a⟩;rw[a];clear a;go_wp2_with fail;refine a5.mono ?_;rintro e w7 ⟨rfl,a⟩;rw[a];clear a;clear z a2 a4 a5;have i:=ab.out;by_cases K:p<1∨64<p
 ·rw[CE K]at i;subst i;clear a3;rcases K with K|K
  ·go_wp2;go_ret;exact⟨rfl,H3.out,G.out.trans (H.out.mono (fun _ _ h=>h.elim)) fI⟩
  ·have ad:decide (p<1)=false:=by simp;omega
   go_wp2;go_ret;exact⟨rfl,H3.out,G.out.trans (H.out.mono (fun _ _ h=>h.elim)) fI⟩
 ·rw[Cz K]at i;subst i;have ad:decide (p<1)=false:=by simp;omega
  have ak:decide (64<p)=false:=by simp;omega
  have al:¬p<1:=by omega
  have an:¬64<p:=by omega
  have hi:dY 0=false:=rfl;rw[hi];clear a3 K hi;go_wp2;go_ret;exact⟨rfl,H3.out,G.out.trans (H.out.mono (fun _ _ h=>h.elim)) fI⟩
theorem pA{w:World}{D A C:Nat}{nn em fd:Bool}{x Lv:Value}{pause clock:Int}{K:Option Addr}{d:DP}(h:aH w D A C 0 nn em x pause clock fd Lv)(E:D0 w A K d)(r:D≠A)(L:cN w)(s:NG (fun b=>b=D)):Calls prog 52 #[.pointer (some ⟨D,0,none⟩)] w fun e F=>e= .returned (.bool true)∧aH F D A C 0 nn em (.pointer none) pause clock fd Lv∧Fr (· =D) w F:=by
 have q:=h.set5 (.pointer none);have a:Fr (· =D) w (w.setCell ⟨D,5,none⟩ (.pointer none)):=Fr.set1 _ _ _ _;have c5:=h.c5;have G:=h.fz 5;obtain⟨W,t⟩:=aw (w.setCell ⟨D,5,none⟩ (.pointer none));rw[←t.out]at q a;have j:=E.fr a (fun e=>r e.symm);have H:(Instr.storeAt 32 (.pointer (some ⟨D,5,none⟩)) (.pointer none)).run prog w= .ok () W:=by rw[t.out];exact ah c5 G (by kernel_rfl) rfl
 have l:=L.fr a s;have u:=af a;have I:=af q;have c0:=q.c0;have m:=ou j;have n:=vy j;clear h E c5 G t a;go_enter func52,ntmps52;go_wp2_with (refine ae 32 (w':=W) _ _ rfl rfl ?_ ?_;exact H);refine m.mono ?_;rintro e P ⟨rfl,f⟩;rw[f];clear f;go_wp2_with fail;refine n.mono ?_;rintro e M ⟨v,rfl,y,c⟩;have J:=I.out.fr c jI;have o:=l.fr c (fun g _ h=>h);have N:=y.tell.1;have p:=y.tell.2 M (Fr.refl _ _) o;have i:=af (u.out.trans (c.mono (fun _ _ h=>h.elim)) fI);clear c0 q l c H I j m n y;go_wp2_with fail;refine p.mono ?_;rintro e Q ⟨rfl,k⟩;have z:=J.fr k jI;have B:=af (i.out.trans (k.mono (fun _ _ h=>h.elim)) fI);clear J o k p i;go_wp2_with fail;refine(eS 7 _).mono ?_;rintro e R ⟨rfl,f⟩;rw[f];clear f;go_wp2_with fail;refine(oW z).mono ?_;rintro e S ⟨rfl,f⟩;rw[f];clear f;have hi:dY 0=false:=rfl;rw[hi];have O:=af z;clear hi z;go_wp2;go_ret;exact⟨rfl,O.out,B.out⟩
theorem lk{P:Program}(w:World)(t ty e:TypeId)(i:TypeInfo)(b:P.underlying t=some (.slice e))(hi:P.info? e=some i)(a:Option Addr)(c:Nat):(Builtin.append_ #[t,t] ty #[.slice none 0 0,.slice a 0 c]).run P w= .ok (.slice none 0 0) w:=by cases a<;>simp[Builtin.append_,run_underlying b,sizeOf,typeInfo,hi,Builtin.lenOf,Builtin.firstCells,loadCells,loadCellsFrom]
theorem jx{P:Program}{w:World}{b:Array Oper}{rest:List Oper}{o:Oper}{a:Act}{Q:Exit→Act→World→Prop}(d:o.guard=none)(s x:Operand)(t:TypeId)(g:o.op= .call {callee:= .builtin .append,args:=#[s,x],argTypes:=#[t,t]})(e:TypeId)(i:TypeInfo)(j:P.underlying t=some (.slice e))(hi:P.info? e=some i)(k:a.eval s= .slice none 0 0)(f:Option Addr)(c:Nat)(l:a.eval x= .slice f 0 c)(h:wpList P b Q rest (a.put o.dst (.slice none 0 0)) w):wpList P b Q (o::rest) a w:=by have m:=lk (P:=P) w t o.type e i j hi f c;refine FX d fun K n=>?_;unfold Oper.wp execOp;simp only[g,resolve,invoke,builtin,D9,Du,CS,EC,CY,Ed,k,l,m];exact n _ _ h
theorem zm{w:World}{A:Nat}{b:Option Addr}{d:DP}(h:D0 w A b d)(k:Value):Calls prog 32 #[.pointer (some ⟨A,0,none⟩),k] w fun e g=>∃f,e= .returned (.pointer (some ⟨f,0,none⟩))∧D0 g f none ⟨0,0,0,-1,0,0,0⟩∧w.heap.size≤f∧Fr (fun _=>False) w g:=by
 obtain⟨l,hi,_⟩:=Dn me;have c0:w.cell? ⟨A,0,none⟩=some (.slice b 0 d.cap):=h.c rfl;have c1:w.cell? ⟨A,1,none⟩=some (.slice none 0 0):=h.c rfl;have m:=lt_of_heap h;have a:Fr (fun _=>False) w (w.alloc (.cells #[.slice none 0 0,.slice none 0 0,.int .i64 0,.int .i64 0,.int .i64 0,.int .i64 (-1),.int .i64 0,.int .i64 0] 96)):=(Fr.refl _ _).alloc _;have n:=a.cell c1 jI;have i:Hid (D0 (w.alloc (.cells #[.slice none 0 0,.slice none 0 0,.int .i64 0,.int .i64 0,.int .i64 0,.int .i64 (-1),.int .i64 0,.int .i64 0] 96)) w.heap.size none ⟨0,0,0,-1,0,0,0⟩∧Fr (fun _=>False) w (w.alloc (.cells #[.slice none 0 0,.slice none 0 0,.int .i64 0,.int .i64 0,.int .i64 0,.int .i64 (-1),.int .i64 0,.int .i64 0] 96))):=⟨aa _ _,a⟩;clear h a;go_enter func32,ntmps32;go_wp2_with (first|(at_builtin;refine jx rfl (.const (.slice none 0 0)) (.tmp 12) 93 rfl 97 l underlying93 hi rfl b d.cap rfl ?_));generalize w.alloc (.cells #[.slice none 0 0,.slice none 0 0,.int .i64 0,.int .i64 0,.int .i64 0,.int .i64 (-1),.int .i64 0,.int .i64 0] 96)=w2 at*
 go_loopw [21] (fun c wr=>c= .int .i64 0∧Hid (wr=w2)) (fun c _=>0);case atStart=>exact⟨rfl,rfl⟩
 case round=>
  obtain⟨rfl,j⟩:=hrel;go_wp2;go_ret;exact⟨_,rfl,by rw[j.out];exact i.out.1,Cs _,by rw[j.out];exact i.out.2⟩
section
variable{w w':World}{a s:Nat}{q:DQ}
theorem cG.d0(h:cG w a s q)(i:q.n=0):q.x=none∧q.B=q.A∧(∀b,¬q.C b)∧∃c d,D0 w q.A c d∧0≤d.calls∧d.calls≤1000*(s:Int)∧0≤d.told∧d.told≤1000*(s:Int):=by
 rcases h.g with⟨_,j,⟨c,f,calls,writes,told,off,lo,hi,k,l,m,o,p⟩,r,t⟩|⟨e,_⟩
 ·exact⟨j,r,t,c,⟨calls,writes,told,off,lo,hi,f⟩,k,l,m,o,p⟩
 ·exact absurd i e
theorem D0.dk{A:Nat}{b:Option Addr}{d:DP}(h:D0 w A b d)(c:0≤d.calls)(e:d.calls≤1000*(s:Int))(f:0≤d.told)(g:d.told≤1000*(s:Int)):Bw w s A:=⟨b,d.cap,d.calls,d.writes,d.told,d.off,d.lo,d.hi,h,c,e,f,g⟩
theorem xO(h:cG w a s q)(f:q.n=0){c:Nat}(j:c=q.A∨w.heap.size≤c)(v:aH w' q.D c q.Pp 0 q.nn q.em (.pointer none) q.pause q.clock q.fd q.Lv)(y:Bw w' (s+1) c)(g:Fr (fun b=>b=q.D∨cu q b) w w'):∃k,k.x=none∧dE w a (s+1) q k w':=by
 obtain⟨i,z⟩:=h.p;obtain⟨H,C,m,_⟩:=h.d0 f;have o:∀b,DQ.S {q with A:=c,B:=c,x:=none,F:=fun _=>False} b→q.S b∨w.heap.size≤b:=DQ.S_of rfl j (by rw[C];exact j) q.sC (fun _ h=>h.elim) q.sG q.sL q.sM;have E:=lt_of_heap h.l;have G:a≤w.heap.size:=by have:=h.sl q.D (.inl rfl);omega
 refine⟨{q with A:=c,B:=c,x:=none,F:=fun _=>False},rfl,rfl,o,⟨by show aH w' q.D c q.Pp q.n _ _ _ _ _ _ _;rw[f];exact v,.inl ⟨f,rfl,y,rfl,m⟩,⟨i,(h.keepP g z).mono (DC s)⟩,h.keepL g,E7 h.ln,fun r t=>⟨(h.ml r t).1,by have:=(h.ml r t).2;omega⟩,h.ls,h.lo,fun b d=>d.elim,fun b d=>absurd d (m b),fun b d=>?_,h.n⟩,g.mono (fun b _ h=>h.elim (fun e=> .inl e) cu.own)⟩;rcases o b d with u|u
 ·exact h.sl b u
 ·omega
theorem cG.l0(h:cG w a s q)(b:q.n=0):aH w q.D q.A q.Pp 0 q.nn q.em (.pointer none) q.pause q.clock q.fd q.Lv:=by have:=h.l;rwa[b,(h.d0 b).1]at this
theorem cG.nDA(h:cG w a s q):q.D≠q.A:=fun e=>h.notD (.inl e)
theorem n9(h:cG w a s q)(l:s<50000)(f:cN w)(g:1<a):Calls prog 52 #[.pointer (some ⟨q.D,0,none⟩)] w fun e w'=>e= .returned (.bool true)∧∃i,i.x=none∧dE w a (s+1) q i w':=by
 by_cases c:q.n=0
 ·obtain⟨_,_,_,o,d,j,c1,c2,c3,c4⟩:=h.d0 c;refine(pA (h.l0 c) j h.nDA f (h.ng g (fun b e=> .inl e))).mono ?_;rintro e w' ⟨rfl,m,k⟩;exact⟨rfl,xO h c (.inl rfl) m ((j.fr k (fun e=>h.nDA e.symm)).dk c1 (by omega) c3 (by omega)) (k.mono (fun _ _ h=> .inl h))⟩
 ·exact oM h l f g c
theorem yL(h:cG w a s q)(m:s<50000)(j:Int)(k:0≤j)(c:j≤1000):Calls prog 30 #[.pointer (some ⟨q.A,0,none⟩),.int .i64 j] w fun e w'=>e= .returned (.tuple #[])∧∃b,(b.x=none∨(b.x=q.x∧b.fl=q.fl))∧dE w a (s+1) q b w':=by
 by_cases f:q.n=0
 ·obtain⟨_,_,_,r,d,o,c1,c2,c3,c4⟩:=h.d0 f;refine(Bj o c1 (by omega) j k c).mono ?_;rintro e w' ⟨rfl,g,l⟩;obtain⟨b,p,i⟩:=xO h f (.inl rfl) ((h.l0 f).fr l h.nDA) (g.dk c1 (by show d.calls≤_;omega) c3 (by show d.told≤_;omega)) (l.mono (fun _ _ h=> .inr (.inl h)));exact⟨rfl,b,.inl p,i⟩
 ·refine(Av h m f j k c).mono ?_;rintro e w' ⟨rfl,i⟩;exact⟨rfl,q,.inr ⟨rfl,rfl⟩,i⟩
theorem zf(h:cG w a s q)(r:s<50000)(j m:Int)(o:0≤j)(c:j≤1000)(f:0≤m)(g:m≤1000):Calls prog 31 #[.pointer (some ⟨q.A,0,none⟩),.int .i64 j,.int .i64 m] w fun e w'=>e= .returned (.tuple #[])∧∃b,(b.x=none∨(b.x=q.x∧b.fl=q.fl))∧dE w a (s+1) q b w':=by
 by_cases i:q.n=0
 ·obtain⟨_,_,_,v,d,t,c1,c2,c3,c4⟩:=h.d0 i;refine(B5 t c1 (by omega) j m o c f g).mono ?_;rintro e w' ⟨rfl,k,p⟩;obtain⟨b,u,l⟩:=xO h i (.inl rfl) ((h.l0 i).fr p h.nDA) (k.dk c1 (by show d.calls≤_;omega) c3 (by show d.told≤_;omega)) (p.mono (fun _ _ h=> .inr (.inl h)));exact⟨rfl,b,.inl u,l⟩
 ·refine(Ab h r i j m o c f g).mono ?_;rintro e w' ⟨rfl,l⟩;exact⟨rfl,q,.inr ⟨rfl,rfl⟩,l⟩
theorem vK(h:cG w a s q)(F:1<a){B:Option Addr}{m:List Int}{kc:Nat}(G:oH w B m)(H:m.length<100000):Calls prog 32 #[.pointer (some ⟨q.A,0,none⟩),.slice B m.length kc] w fun e c=>∃b,e= .returned (.pointer (some ⟨b,0,none⟩))∧aH c q.D q.A q.Pp q.n q.nn q.em (.pointer q.x) q.pause q.clock q.fd q.Lv∧∃j,j.x=none∧dE w a (s+1) q j ((c.setCell ⟨q.D,0,none⟩ (.pointer (some ⟨b,0,none⟩))).setCell ⟨q.D,5,none⟩ (.pointer none)):=by
 have I:=h.n;by_cases f:q.n=0
 ·obtain⟨_,_,_,P,d,o,c1,c2,c3,c4⟩:=h.d0 f;refine(zm o _).mono ?_;rintro e c ⟨b,rfl,p,k,r⟩;have J:=lt_of_heap h.l;have t:=h.l.fr r jI;have u:=(((h.l0 f).fr r jI).set0 b).set5 (.pointer none);have i:Fr (· =q.D) c ((c.setCell ⟨q.D,0,none⟩ (.pointer (some ⟨b,0,none⟩))).setCell ⟨q.D,5,none⟩ (.pointer none)):=eh.set (eh.set (Fr.refl _ _));exact⟨b,rfl,t,xO h f (.inr k) u ((p.fr i (fun e=>by have e:=e;omega)).dk (DL _) (by show(0:Int)≤_;omega) (DL _) (by show(0:Int)≤_;omega)) ((r.mono (fun _ _ h=>h.elim)).trans (i.mono (fun _ _ h=> .inl h)) fI)⟩
 ·rcases h.g with⟨K,_⟩|⟨_,Q,R,o,L,S⟩
  ·exact absurd K f
  obtain⟨M,C,v,N,_⟩:=o;refine(un N (by omega) (by omega) G H).mono ?_;rintro e c k;obtain⟨b,T,E,rfl,y⟩:=id k;obtain⟨j,_,z,O⟩:=vX h F f (fun hi=>(L hi).1) k;exact⟨b,rfl,h.l.fr y.2.2.2 jI,j,z,O⟩
end
structure Cd(kv rv:Value)(kxs rxs fxs:List Value)(i:Nat)(a:List DQ)(g:List Bool):Prop where
 pw:a.Pairwise Bp
 fx:fxs=g.map Value.bool
 rx:∃rl:List Int,rxs=rl.map (fun x=>Value.int .i64 x)∧rj rl
 kr:∀q∈a,∀b,q.S b→kv.ownBlock≠some b∧rv.ownBlock≠some b
 kx:∃zs:List Int,kxs=zs.map (fun x=>Value.int .i64 x)
 fl:∀(j:Nat) (q:DQ),j≠i→a[j]?=some q→q.x≠none→g[j]?=some q.fl
def i9(w:World)(l W0 s i:Nat)(a:List DQ)(g:List Bool):Prop:=∃e f h j m k r st b c ch d,WI w l W0 e f h j m k r st a.length b c (an ch) (a.map DQ.D) d∧ch.length=st∧k≤s∧r≤s∧st≤s∧a.length≤s∧(∀q∈a,cG w l s q)∧Cd e f b c d i a g
section
variable{w w':World}{l W0 s s':Nat}{q:DQ}{a:List DQ}{g:List Bool}
theorem dm.e(h:dm w l W0 s a g)(i:Nat):i9 w l W0 s i a g:=by obtain⟨m,n,o,p,t,k,r,st,c,d,ch,f,u,v,x,y,z,A,B,b⟩:=h;exact⟨m,n,o,p,t,k,r,st,c,d,ch,f,u,v,x,y,z,A,B,b.pw,b.fx,b.rx,b.kr,b.kx,fun j q _=>b.fl j q⟩
theorem i9.back{i:Nat}(h:i9 w l W0 s i a g)(hi:∀q,a[i]?=some q→q.x≠none→g[i]?=some q.fl):dm w l W0 s a g:=by
 obtain⟨o,p,t,u,v,k,r,st,c,d,ch,f,y,z,A,B,C,D,E,b⟩:=h;refine⟨o,p,t,u,v,k,r,st,c,d,ch,f,y,z,A,B,C,D,E,b.pw,b.fx,b.rx,b.kr,b.kx,fun j q m n=>?_⟩;by_cases e:j=i
 ·subst e;exact hi q m n
 ·exact b.fl j q e m n
theorem i9.size{i:Nat}(h:i9 w l W0 s i a g):l≤w.heap.size:=by obtain⟨f,j,m,n,o,k,r,st,c,d,ch,e,b,_⟩:=h;have:=lt_of_heap b.hw;have:=b.w0;omega
theorem i9.len{i:Nat}(h:i9 w l W0 s i a g):g.length=a.length:=by obtain⟨j,m,n,o,p,k,r,st,b,c,ch,d,e,t,u,v,x,y,z,f⟩:=h;have:=e.hf.1;rw[f.fx]at this;simpa using this
theorem i9.upd(i:Nat)(h:i9 w l W0 s i a g){M:DQ}(hi:a[i]?=some q)(hs:s≤s')(E:dE w l s' q M w'):i9 w' l W0 s' i (a.set i M) g∧Below l w w':=by
 have N:=h.size;obtain⟨kv,rv,sv,dv,fv,k,r,st,O,P,ch,Q,R,T,hk,hr,a0,hm,F,n⟩:=h;obtain⟨G,H⟩:=Co.1 hi;have I:=F q (Cq hi);have U:=R.fr E.f (fun b c t m ht=>I.notW m (by rcases ht with h|h|h|h;exact .inl h;exact .inr (.inl h);exact .inr (.inr (.inl h));exact .inr (.inr (.inr (.inl h))))) (fun b V hS=>by
  have:=n.kr q (Cq hi) b hS;rcases V with h|h
  ·exact this.1 h
  ·exact this.2 h)
 have y:∀p∈a,∀b,p.S b→b<w.heap.size:=fun p z b m=>(F p z).lt m;have K:∀j (u:j<a.length),j≠i→∀b,a[j].S b→¬q.S b:=by
  intro j u v b m A;have x:=n.pw;rw[D7]at x;rcases FJ v with y|y
  ·have:=x j i u G y;rw[H]at this;exact this b m A
  ·have:=x i j G u y;rw[H]at this;exact this b A m
 have C:∀j (u:j<a.length),j≠i→∀b,a[j].S b→¬M.S b:=fun j u v b m A=>by
  rcases E.o b A with B|B
  ·exact K j u v b m B
  ·have:=y _ (Ef u) b m;omega
 refine⟨⟨kv,rv,sv,dv,fv,k,r,st,O,P,ch,Q,?_,T,by omega,by omega,by omega,by simp;omega,?_,?_,n.fx,n.rx,fun p z b m=>?_,n.kx,fun j p v u hx=>?_⟩,E.f.below N (fun b m=>I.sl b m)⟩
 ·have em:(a.set i M).map DQ.D=a.map DQ.D:=by
   rw[List.map_set,E.d,←H];apply DX;intro j;rw[E8];split
   ·rename_i e;subst e;simp[G]
   ·rfl
  rw[em,DV];exact U
 ·intro p z;obtain⟨j,u,rfl⟩:=DZ.1 z;rw[DV]at u;rw[Ew];split
  ·exact E.i
  ·rename_i W;exact((F a[j] (Ef u)).fr E.f (fun b m=>K j u (fun e=>W e.symm) b m) (fun b c hc=>I.step hc)).mono hs
 ·have x:=n.pw;rw[D7]at x⊢;intro Y Z B X L;rw[DV]at B X;rw[Ew,Ew];have z:=x Y Z B X L;split
  ·rename_i e1;split
   ·omega
   ·rename_i e2;exact fun b m J=>C Z X (fun e=>e2 e.symm) b J m
  ·rename_i e1;split
   ·exact fun b m J=>C Y B (fun e=>e1 e.symm) b m J
   ·exact z
 ·rcases EI z with z|rfl
  ·exact n.kr p z b m
  ·rcases E.o b m with B|B
   ·exact n.kr q (Cq hi) b B
   ·exact⟨fun e=>by have:=(R.hk.lt b e).2;omega,fun e=>by have:=(R.hr.lt b e).2;omega⟩
 ·rw[E8,Cz (fun e=>v e.symm)]at u;exact n.fl j p v u hx
theorem i9.setF(i:Nat)(h:i9 w l W0 s i a g)(hi:i<a.length):∃d f,w.cell? ⟨W0,4,none⟩=some (.slice (some ⟨d,0,none⟩) a.length f)∧w.heap[W0]?≠none∧(∃v,w.cell? ⟨d,i,none⟩=some v)∧w.frozen? ⟨d,i,none⟩=false∧(∀c t,w.heap[d]?=some (.cells c t (0,0))→t=4)∧∀z,i9 (w.setCell ⟨d,i,none⟩ (.bool z)) l W0 s i a (g.set i z)∧Below l w (w.setCell ⟨d,i,none⟩ (.bool z)):=by
 obtain⟨Q,R,S,T,fv,k,r,st,G,H,ch,I,m,J,U,V,K,W,B,n⟩:=h;obtain⟨d,f,L,_⟩:=m.hf.form (by omega);subst L;obtain⟨u,y,X,Y⟩:∃u,w.heap[d]?=some (.cells u 4 (0,0))∧u.size=f∧a.length≤f:=by
  rcases m.hf.2 with⟨F,_⟩|⟨g',N,u,F,_,Z,hn,_,O,_⟩
  ·cases F
  ·simp only[DW,Cu,Ec,ER,FK]at F;obtain⟨rfl,rfl⟩:=F;exact⟨u,Z,by omega,hn⟩
 have C:∀c t,w.heap[d]?=some (.cells c t (0,0))→t=4:=fun c t h=>by rw[y]at h;simp at h;exact h.2.symm
 have o:∀{e:Nat},e≠4→∀b c,w.heap[b]?=some (.cells c e (0,0))→¬b=d:=fun he b c x e=>he (C c _ (e▸x));have M:=(m.hf.lt d rfl).1;refine⟨d,f,m.c4,(by rw[m.hw];simp),?_,CN w d i _ _ y,C,fun z=>⟨?_,(EX _ _).setCell (p:=⟨d,i,none⟩) M _⟩⟩
 ·rw[Cn w d i _ _ _ y];exact⟨_,F6 (by omega)⟩
 ·have A:Fr (· =d) w (w.setCell ⟨d,i,none⟩ (.bool z)):=Fr.set1 _ _ _ _;have D:=m.hf.stored i (.bool z);refine⟨Q,R,S,T,_,k,r,st,G,H,ch,I.set i (.bool z),⟨A.keep m.hw (o (by decide) _ _ m.hw),aU m.hk A (fun b c x _=>o (by decide) b c x),aU m.hr A (fun b c x _=>o (by decide) b c x),aU m.hs A (fun b c x _=>o (by decide) b c x),aU m.hd A (fun b c x _=>o (by decide) b c x),D.1,m.ne,m.ro,m.so,m.w0⟩,J,U,V,K,W,fun q P=>(B q P).fr A (fun b x e=>?_) (fun b c O=>o (by decide) b c O),n.pw,by rw[n.fx,List.map_set],n.rx,n.kr,n.kx,fun j q E hj hx=>?_⟩
  ·have e:=e;exact(B q P).notW y (.inr (.inr (.inr (.inl rfl)))) (e▸x)
  ·rw[E8,Cz (fun e=>E e.symm)];exact n.fl j q E hj hx
end
section
variable{w w1:World}{f s:Nat}{q:DQ}
def BP(m:Nat)(p:Int)(f s:Nat)(q:DQ)(w b:World):Prop:=∃a,dE w f (s+1) q a b∧(a.x=none∨(a.fl=false∧Am b (s+1) a∧a.pause=p∧(m=0→a.nn=false)))
theorem qi(h:cG w f s q)(J:s<50000)(x:1<f):∃m:Nat,Calls prog 34 #[.pointer (some ⟨q.A,0,none⟩)] w (fun e t=>e= .returned (.int .i64 m)∧t=w)∧∀(T:Nat→Prop) (r:World),Fr T w r→(∀b,q.S b→¬T b)→(∀b c,w.heap[b]?=some (.cells c 165 (0,0))→¬T b)→cN r→(q.nn=true→m=0)→∀p,Calls prog 53 #[.pointer (some ⟨q.D,0,none⟩),.int .i64 p] r fun e t=>e= .returned (.bool true)∧BP m p f s q r t:=by
 by_cases u:q.n=0
 ·obtain⟨_,_,_,R,d,v,c1,c2,c3,c4⟩:=h.d0 u;refine⟨0,kd v,fun T r j l o z _ p=>?_⟩;have k:=h.fr j l o;have i:=v.fr j (l q.A (.inr (.inl rfl)));obtain⟨K,L⟩:=k.p;obtain⟨M,lo,I,U,V,W,C⟩:=L.pp;refine(y7 (k.l0 u) i C k.nDA z (k.ng x (fun b e=> .inl e)) p).mono ?_;rintro e t ⟨rfl,N,j⟩;obtain⟨E,y,F⟩:=xO k u (.inl rfl) N ((i.fr j (fun e=>k.nDA e.symm)).dk c1 (by omega) c3 (by omega)) (j.mono (fun _ _ h=> .inl h));exact⟨rfl,E,F,.inl y⟩
 ·rcases h.g with⟨O,_⟩|⟨_,P,X,v,Q,y⟩
  ·exact absurd O u
  refine⟨P.ents.length,v.pend,fun T r j l o z G p=>?_⟩;have k:=h.fr j l o;have i:=v.fr j (l q.A (.inr (.inl rfl))) (l q.B (.inr (.inr (.inl rfl)))) (fun b x=>l b (.inr (.inr (.inr (.inl x)))));refine(vI k J z x u i (fun hi=>(Q hi).1) (fun e=>D3 (G e)) p).mono ?_;rintro e t ⟨rfl,E,H,F,y⟩;refine⟨rfl,E,F,y.imp_right (fun⟨a,b,c⟩=>⟨H,a,b,fun e=>c (D3 e)⟩)⟩
theorem wN(h:cG w f s q)(ho:Am w s q)(hs:s<50000)(hG:cN w)(o:q.nn=false):Calls prog 83 #[.pointer (some ⟨q.A,0,none⟩),.int .i64 q.pause] w fun e w1=>∃k v m,e= .returned (.tuple #[.pointer k,v])∧oQ w1 v m∧Fr (· =q.A) w w1∧((m=0∧v= .nilIface∧k≠none)∨(m=5∧k=none∧(∃t u,v= .iface t u)∧eT w1 v))∧∀J,Fr (fun _=>False) w1 J→∃Y,dE w f (s+1) q Y (J.setCell ⟨q.D,5,none⟩ (.pointer k))∧(Y.x≠none→Y.fl=true∧m=0):=by
 obtain⟨Z,a0,aa,ab,hi,ds,H,hd,hj,_,ht⟩:=ho;have ag:8≤q.n∧q.n≤400:=by simpa[dY]using hi
 have K:q.n≠0:=by omega
 refine sI ((xK (nn:=q.nn) (em:=q.em) (L:=q.L) (rs:=H) hd (by omega) hG q.pause (fun _=>hj) (fun e=>by rw[o]at e;cases e)).mono ?_);rintro e w1 ⟨k,v,m,y,rfl,z,⟨h2,ad⟩,h3,h4,h5,h6,h7,h8,U,ae⟩;have M:m=0∨m=5:=by
  unfold th at h8;rw[Cz (by omega),Cz (by rw[hi];simp),o]at h8;rcases h8 with h|⟨h,_⟩|⟨_,h⟩
  ·exact .inl h
  ·exact .inr h
  ·cases h
 refine⟨_,_,rfl,k,v,m,rfl,z,U,?_,fun J d=>?_⟩
 ·rcases ad with⟨I,V⟩|⟨I,V⟩
  ·exact .inl ⟨I,V,fun e=>h2.1 e I⟩
  ·exact .inr ⟨M.resolve_left I,h2.2 I,V.1,V.2 (M.resolve_left I)⟩
 ·have i:=h.notD;have ah:=lt_of_heap h.l;have E:=h.nDA;obtain⟨N,hp⟩:=h.p;have G:=((h.l.fr U E).fr d jI).set5 (.pointer k);obtain⟨W,hW⟩:∃W,W=J.setCell ⟨q.D,5,none⟩ (.pointer k):=⟨_,rfl⟩;rw[←hW]at G⊢;have j:Fr (· =q.D) J W:=by rw[hW];exact eh.set (Fr.refl _ _)
  have g:Fr (fun b=>b=q.D∨cu q b) w W:=((U.mono (fun _ _ h=> .inr (.inl h))).trans (d.mono (fun _ _ h=>h.elim)) fI).trans (j.mono (fun _ _ h=> .inl h)) fI;have ai:f≤w.heap.size:=by have:=h.sl q.D (.inl rfl);omega
  have O:=(h3.fr d jI jI fI).fr j (fun e=>E e.symm) (fun e=>i (.inr (.inl e.symm))) (fun b a e=>i (.inr (.inr (.inl (e▸a)))));have P:∀b,q.C b→∃c,W.heap[b]?=some (.cells c 101 (0,0)):=fun b a=>by obtain⟨c,hc⟩:=h.ct b a;refine⟨c,j.keep (d.keep (U.keep hc (fun e=>?_)) jI) (fun e=>i (.inr (.inr (.inl (e▸a)))))⟩;obtain⟨c2,af⟩:=hd.cell.1;have e:=e;subst e;have:=hc.symm.trans af;simp at this
  have Q:∀r∈q.L,r.may≠[]∧r.may.length≤2*(s+1)+2:=fun r hr=>⟨(h.ml r hr).1,by have:=(h.ml r hr).2;omega⟩;by_cases hk:m=0
  ·obtain⟨a1,a2,a3,a4,a5,X,F,a6,a7,a8,a9⟩:=ae hk;subst a6;have R:∀b,F b→¬b=q.D:=fun b a e=>by have:=a9 b a;omega
   have hE:=(a7.fr d jI jI fI fI).fr j (fun e=>E e.symm) (fun e=>i (.inr (.inl e.symm))) (fun b a e=>i (.inr (.inr (.inl (e▸a))))) R;have T:∀b,DQ.S {q with x:=some ⟨X,0,none⟩,fl:=true,F:=F} b→q.S b∨w.heap.size≤b:=DQ.S_of rfl (.inl rfl) (.inl rfl) q.sC (fun b a=> .inr (a9 b a)) q.sG q.sL q.sM;refine⟨{q with x:=some ⟨X,0,none⟩,fl:=true,F:=F},⟨rfl,T,⟨G,.inr ⟨K,y,H,O,fun _=>⟨hj.keep h5 h6 h7,.inr ⟨X,rfl,o,aa,ab,by show 0≤q.clock;omega,by show q.clock≤_;omega,.inl ⟨Z,bh H,?_,ht⟩⟩⟩,fun e=>by rw[hi]at e;cases e⟩,⟨N,(h.keepP g hp).mono (DC s)⟩,h.keepL g,E7 h.ln,Q,h.ls,h.lo,(a8.fr d fI).fr j R,P,fun b a=>?_,h.n⟩,g.mono (fun b _ h=>h.elim (fun e=> .inl e) cu.own)⟩,fun _=>⟨rfl,hk⟩⟩
   ·show EG W (s+1) X q.A q.B q.n q.clock q.pause (ge true q.Pp) (bh H) H y q.C F;rw[a0];exact hE
   ·rcases T b a with z|z
    ·exact h.sl b z
    ·omega
  ·obtain rfl:k=none:=h2.2 hk;have T:∀b,DQ.S {q with x:=none,F:=fun _=>False} b→q.S b∨w.heap.size≤b:=DQ.S_of rfl (.inl rfl) (.inl rfl) q.sC (fun _ h=>h.elim) q.sG q.sL q.sM;refine⟨{q with x:=none,F:=fun _=>False},⟨rfl,T,⟨G,.inr ⟨K,y,H,O,fun _=>⟨hj.keep h5 h6 h7,.inl rfl⟩,fun _=>rfl⟩,⟨N,(h.keepP g hp).mono (DC s)⟩,h.keepL g,E7 h.ln,Q,h.ls,h.lo,fun b a=>a.elim,P,fun b a=>?_,h.n⟩,g.mono (fun b _ h=>h.elim (fun e=> .inl e) cu.own)⟩,fun e=>absurd rfl e⟩;rcases T b a with z|z
   ·exact h.sl b z
   ·omega
end
end Go.Proofs.YteebjgfalllbjaaGreatDoor
