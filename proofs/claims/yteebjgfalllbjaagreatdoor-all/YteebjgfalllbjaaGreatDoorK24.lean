import Derived.Test.YteebjgfalllbjaaGreatDoorK19
import Derived.Test.YteebjgfalllbjaaGreatDoorK23
namespace Go.Proofs.YteebjgfalllbjaaGreatDoor
open Go.RowKit Go.Proofs.Tryz
set_option maxRecDepth 100000
set_option maxHeartbeats 4000000
theorem ik(X:Addr)(w:World):Calls prog 60 #[.pointer (some X),.nilIface] w fun e b=>e= .returned .nilIface∧b=w:=by go_enter func60,ntmps60;go_wp2;go_ret;exact⟨rfl,rfl⟩
theorem jg{ρ:Operand→Value}{o:Oper}{w:World}{x y:Operand}{c f:Array Value}(h:o.op= .binOp .neq 122 x y 122)(i:ρ x= .agg c)(j:ρ y= .agg f){b:Bool}(k:(binOp .neq 122 (.agg c) (.agg f)).run prog w= .ok (.bool b) w):(execOp ρ o).run prog w= .ok (.value (.bool b)) w:=by have l:=run_eqGuard_agg (P:=prog) w .neq 122 x y c f (by kernel_rfl);simp only[execOp,h,i,j,D9,l,k,CS,Du]
def lT(k:Int):Value:= .iface 59 (.int .i64 k)
theorem cZ(id:Int)(st:List SS)(b:aO id st=true):1≤id∧id≤1000∧1≤st.length∧st.length≤6∧∀p∈st,p.1.size≤8∧p.2.size≤8:=Dh b
section
variable{w:World}{X J V A B n R base e g sc:Nat}{d:Option Addr}{calls writes clock pause room:Int}{a ev:Value}{es:List (Nat×AS)}{s:Bool}{bs:List Value}
theorem sN(o:aX w X J R clock pause a)(id:Int)(st:List SS)(p:aY w d 2 (st.map dj))(b:aO id st=false):Calls prog 42 #[.pointer (some ⟨X,0,none⟩),.int .i64 id,.slice d st.length sc] w fun q r=>q= .returned (lT 1)∧Fr (fun _=>False) w r:=by
 have c2:w.cell? ⟨X,2,none⟩=some (.bool false):=o.c rfl;go_enter func42,ntmps42;go_wp2_with fail;refine(fm p id).mono ?_;rintro q t ⟨i,f⟩;rcases i with⟨j,_⟩|⟨_,rfl⟩
 ·rw[j]at b;cases b
 ·obtain⟨u,k,l,h⟩:=eN t 0 [] (by simp);have m:=f.trans h fI;unfold iZ;clear f h l c2 o p;go_wp2_with (first|(refine ae 122 (w':=u) _ _ rfl rfl ?_ ?_;exact k));go_ret;exact⟨rfl,m⟩
theorem sY(he:aX w X J R clock pause a)(id:Int)(st:List SS)(hl:aY w (some ⟨g,0,none⟩) 2 (st.map dj))(hr:aG w R base room ev es)(hs:cd es)(hn:es.length≤100000)(b:∀p∈es,p.2.st.length≤6)(y:aO id st=true)(S:∃p∈es,p.2.id=id):Calls prog 42 #[.pointer (some ⟨X,0,none⟩),.int .i64 id,.slice (some ⟨g,0,none⟩) st.length sc] w fun T w'=>∃p∈es,p.2.id=id∧T= .returned (if p.2.st=st then .nilIface else lT 2)∧Fr (fun _=>False) w w':=by
 have c2:w.cell? ⟨X,2,none⟩=some (.bool false):=he.c rfl;obtain⟨a4,a5,a6,U,h8⟩:=cZ id st y;go_enter func42,ntmps42;go_wp2_with fail;refine(fm hl id).mono ?_;rintro T O ⟨W,z⟩;rcases W with⟨_,rfl⟩|⟨o,_⟩;case inr=>rw[y]at o;cases o
 obtain⟨Y,C,D,E⟩:=eN O id st U;have l:=z.trans E fI;have r:=hr.frz l;have t:aX Y X J R clock pause a:=l.keep he jI;have Z:Y.cell? ⟨X,1,none⟩=some (.pointer (some ⟨R,0,none⟩)):=t.c rfl;clear z E c2;go_wp2_with (first|(refine ae 122 (w':=Y) _ _ rfl rfl ?_ ?_;exact C));refine(is r hs hn b id).mono ?_;rintro T F ⟨a0,i⟩;have G:=l.trans i fI;have a1:=r.frz i;have a2:aX F X J R clock pause a:=i.keep t jI;have H:=i.keep D jI;clear C D r t Z i l;rcases a0 with⟨p,u,k,rfl⟩|⟨a3,_⟩;case inr=>obtain⟨p,u,k⟩:=S;exact absurd k (a3 p u)
 rw[k];obtain⟨m,q,I,x⟩:=eN F id p.2.st (b p u);have K:=G.trans x fI;have L:=x.keep H jI;have M:m.rangeAt F.heap.size 0 (av id p.2.st.length (bz p.2.st)):=fun j v hv=>(Cn m _ (0+j) _ _ _ I).trans (by simpa using hv);have N:m.rangeAt O.heap.size 0 (av id st.length (bz st)):=fun j v hv=>(Cn m _ (0+j) _ _ _ L).trans (by simpa using hv);have l1:=bD id p.2.st.length _ (bf _ (b p u));have l2:=bD id st.length _ (bf _ U);have P:=vT id p.2.st st (b p u) U m;have Q:Hid (p∈es∧p.2.id=id):=⟨u,k⟩;clear a1 a2 H x G I L u k;by_cases f:p.2.st=st
 ·rw[Dl (fun h=>h f)]at P;have HE:=af f;clear f;go_wp2_with (first|(refine ae 122 (w':=m) _ _ rfl rfl ?_ ?_;exact q)|(refine CC rfl 122 (.tmp 9) rfl F.heap.size 0 ?_ _ _ M underlying122 rfl ?_ ?_;rfl;(rw[bK,l1]))|(refine CC rfl 122 (.tmp 7) rfl O.heap.size 0 ?_ _ _ N underlying122 rfl ?_ ?_;rfl;(rw[bK,l2]))|(refine cI rfl (v:= .bool false) (w':=m) (jg rfl rfl rfl P) ?_));go_ret;exact⟨p,Q.out.1,Q.out.2,by rw[CE HE.out];rfl,K⟩
 ·rw[Dg f]at P;have HE:=af f;clear f;go_wp2_with (first|(refine ae 122 (w':=m) _ _ rfl rfl ?_ ?_;exact q)|(refine CC rfl 122 (.tmp 9) rfl F.heap.size 0 ?_ _ _ M underlying122 rfl ?_ ?_;rfl;(rw[bK,l1]))|(refine CC rfl 122 (.tmp 7) rfl O.heap.size 0 ?_ _ _ N underlying122 rfl ?_ ?_;rfl;(rw[bK,l2]))|(refine cI rfl (v:= .bool true) (w':=m) (jg rfl rfl rfl P) ?_));go_ret;exact⟨p,Q.out.1,Q.out.2,by rw[Cz HE.out];rfl,K⟩
theorem qY(he:aX w X J R clock pause a)(id:Int)(st:List SS)(hl:aY w (some ⟨g,0,none⟩) 2 (st.map dj))(hr:aG w R base room ev es)(C:cd es)(hn:es.length≤100000)(D:∀p∈es,p.2.st.length≤6)(E:aO id st=true)(a0:∀p∈es,p.2.id≠id)(a1:¬2*(st.length:Int)≤room):Calls prog 42 #[.pointer (some ⟨X,0,none⟩),.int .i64 id,.slice (some ⟨g,0,none⟩) st.length sc] w fun Z w'=>Z= .returned (lT 3)∧Fr (fun _=>False) w w':=by
 have c2:w.cell? ⟨X,2,none⟩=some (.bool false):=he.c rfl;obtain⟨a8,a9,aa,F,h8⟩:=cZ id st E;go_enter func42,ntmps42;go_wp2_with fail;refine(fm hl id).mono ?_;rintro Z G ⟨a2,H⟩;rcases a2 with⟨_,rfl⟩|⟨q,_⟩;case inr=>rw[E]at q;cases q
 obtain⟨WS,I,K,L⟩:=eN G id st F;have l:=H.trans L fI;have t:=hr.frz l;have u:aX WS X J R clock pause a:=l.keep he jI;have a3:WS.cell? ⟨X,1,none⟩=some (.pointer (some ⟨R,0,none⟩)):=u.c rfl;clear H L c2;go_wp2_with (first|(refine ae 122 (w':=WS) _ _ rfl rfl ?_ ?_;exact I));refine(is t C hn D id).mono ?_;rintro Z w3 ⟨a4,h⟩;have M:=l.trans h fI;have N:=t.frz h;have O:aX w3 X J R clock pause a:=h.keep u jI;have P:=h.keep K jI;clear I K t u a3 h l;rcases a4 with⟨p,hp,a5,_⟩|⟨_,rfl⟩;case inl=>exact absurd a5 (a0 p hp)
 obtain⟨z,Q,a6,k⟩:=eN w3 0 [] (by simp);have T:=M.trans k fI;have m:=k.keep P jI;have x:=N.frz k;have y:aX z X J R clock pause a:=k.keep O jI;have W:z.cell? ⟨X,1,none⟩=some (.pointer (some ⟨R,0,none⟩)):=y.c rfl;have ab:=dW m F;have l2:=bD id st.length _ (bf _ F);have Y:z.rangeAt G.heap.size 0 (av id st.length (bz st)):=fun j v hv=>(Cn z _ (0+j) _ _ _ m).trans (by simpa using hv);clear N O P k M a6;go_wp2_with (first|(refine ae 122 (w':=z) _ _ rfl rfl ?_ ?_;exact Q)|(refine CC rfl 122 (.tmp 7) rfl G.heap.size 0 ?_ _ _ Y underlying122 rfl ?_ ?_;rfl;(rw[bK,l2])));obtain⟨U,HU⟩:=aw z.drew;have b:=eG HU;let S:World→Prop:=fun w'=>w'.cell? ⟨X,1,none⟩=some (.pointer (some ⟨R,0,none⟩))∧w'.heap[G.heap.size]?=some (.cells (av id st.length (bz st)).toArray 122 (0,0))
 have r:S U:=⟨b.cell W jI,b.keep m jI⟩;refine dZ S HU ?_;clear HU;refine bM 0 40 0 (.pointer (some ⟨X,0,none⟩)) rfl r ?_;refine d4 1 41 40 (.pointer (some ⟨X,0,none⟩)) rfl r ?_;refine bT 2 42 91 41 1 (.pointer (some ⟨X,1,none⟩)) rfl r ?_;refine cU 3 43 88 42 (.pointer (some ⟨R,0,none⟩)) ⟨X,1,none⟩ rfl (fun _ C=>C.1) underlying88 r ?_;refine ig 4 44 122 7 (.agg (av id st.length (bz st)).toArray) ⟨G.heap.size,0,none⟩ rfl (fun _ C=>dW C.2 F) r ?_;simp only[Act.put,aC,aB,aE];refine dN 5 45 59 #[.tmp 43,.tmp 44] #[.pointer (some ⟨R,0,none⟩),.agg (av id st.length (bz st)).toArray] rfl ?_;refine(oj (x.frz b) id st F).mono ?_;rintro Z w5 ⟨rfl,f⟩;have o:S w5:=⟨f.cell r.1 jI,f.keep r.2 jI⟩;refine⟨_,rfl,o,?_⟩;simp only[Act.put,aC,aB,aE];refine qg (S:=S) (i:=6) (oi:=⟨some 46,.unOp .not 4 (.tmp 45),_,_,_,none⟩) (v:= .bool (!decide (2*(st.length:Int)≤room))) rfl o ?_;simp only[Act.put,aC,aB,aE];refine dn ?_;have a7:=(T.trans b fI).trans f fI;have ad:=(x.frz b).frz f;have af:aX w5 X J R clock pause a:=f.keep (b.keep y jI) jI;have ag:=o.2;clear r o b f T x y m W Y;rw[Dl (show¬2*(st.length:Int)≤room by omega)];go_wp2;go_ret;exact⟨rfl,a7⟩
end
theorem iK:(prog.info? 42).map (fun i=>(i.zero,i.size,i.bytes))=some (some (.agg eR.cs.toArray),6,48):=by kernel_rfl
def tB(es:List (Nat×AS))(i:Nat):List Value:=((es.take i).map fun p=>p.2.told.cs).flatten
theorem ug(es:List (Nat×AS))(i:Nat)(p:Nat×AS)(a:es[i]?=some p):tB es (i+1)=tB es i++p.2.told.cs:=by simp[tB,List.take_add_one,a]
theorem xk(es:List (Nat×AS))(i:Nat)(hi:i≤es.length):(tB es i).length=i*6:=by
 induction i with
 |zero=>rfl
 |succ i b=>
  have a:i<es.length:=by omega
  rw[ug es i _ (Cp a),Cr,b (by omega),ST.len];omega
def BW(w:World)(es:List (Nat×AS))(i:Nat)(wr:World):Prop:=(∃rest,rest.length=(es.length-i)*6∧wr.heap[w.heap.size]?=some (.cells (tB es i++rest).toArray 42 (0,0)))∧Fr (fun _=>False) w wr
section
variable{w:World}{R base:Nat}{room:Int}{ev:Value}{es:List (Nat×AS)}
theorem kW(h:aG w R base room ev es)(Z:es.length≤100000)(S:∀p∈es,p.2.st.length≤6):Calls prog 64 #[.pointer (some ⟨R,0,none⟩)] w fun e K=>e= .returned (.slice (some ⟨w.heap.size,0,none⟩) es.length es.length)∧K.heap[w.heap.size]?=some (.cells (tB es es.length).toArray 42 (0,0))∧Fr (fun _=>False) w K:=by
 obtain⟨ao,T,rfl⟩:=h.form;obtain⟨n,hi,A,B,C⟩:=Dn iK;obtain⟨M,D⟩:=aw (madeCells (Value.agg eR.cs.toArray).cells (es.length*n.size));obtain⟨E,a⟩:∃W,Hid (W=w.alloc (.cells M 42)):=⟨_,rfl⟩;have q:(Instr.makeSlice 69 (.int .i64 es.length) (.int .i64 es.length)).run prog w= .ok (.slice (some ⟨w.heap.size,0,none⟩) es.length es.length) E:=by have U:=run_make (P:=prog) w 69 42 n (.agg eR.cs.toArray) underlying69 hi A .i64 .i64 es.length es.length (by omega) (by omega) (by rw[C];omega) (by omega);rw[a.out,D.out];simpa using U
 have F:M.size=es.length*6:=by rw[D.out,FN,B]
 have r:E.heap[w.heap.size]?=some (.cells M 42 (0,0)):=by rw[a.out];exact aa _ _
 have b:=j9 a;have L:Hid (BW w es 0 E):=⟨⟨M.toList,by rw[DM,F];rfl,by simpa[tB]using r⟩,b⟩;have c0:=h.c0;have c1:=(h.frz b).c0;have d:=af h;clear D a r h;go_enter func64,ntmps64;go_wp2_with (first|(refine eA 69 (.tmp 10) (.tmp 10) rfl rfl q ?_));go_loopw [17] (fun c wr=>∃i:Nat,i≤es.length∧c= .int .i64 i∧Hid (BW w es i wr)) (fun c _=>es.length-(intOf c).toNat);case atStart=>exact⟨0,by omega,rfl,L⟩
 case round=>
  obtain⟨i,hi,rfl,G⟩:=hrel;clear L q c0 c1 b;by_cases H:i<es.length
  ·have N:(i:Int)<es.length:=by omega
   obtain⟨p,f⟩:∃p,es[i]?=some p:=⟨_,Cp H⟩;have s:=Cq f;have g:=d.out.frz G.out.2;obtain⟨ga,rfl,I⟩:=jQ g.o (i:=i) (v:=mY p) (by rw[CK,f];rfl);unfold mY at I;have V:=g.stand s (S p s);clear g;obtain⟨⟨rest,t,j⟩,u⟩:=G.out;have x:=xk es i hi;have k:=au (P:=prog) (o:=i*6) (ty:=42) (vs:=p.2.told.cs) j (by rw[Cr,x,t,ST.len];omega) p.2.told.one bx;have y:splice (tB es i++rest) (i*6) p.2.told.cs=tB es (i+1)++rest.drop 6:=by rw[←x,nN _ _ _ _ rfl,ST.len,ug es i p f,Ep]
   rw[y]at k;have l:=CA wr w.heap.size _ (tB es (i+1)++rest.drop 6).toArray 42 (0,0) j;obtain⟨J,m⟩:=aw (wr.setRow w.heap.size (tB es (i+1)++rest.drop 6).toArray);have z:Fr (fun _=>False) w J:=by rw[m.out];exact u.setRow _ (fun h=>by omega) _
   rw[←m.out]at k l;have X:Hid (BW w es (i+1) J):=⟨⟨rest.drop 6,by rw[Dx,t];omega,l⟩,z⟩;clear m l z j u y;go_wp2_with (first|(refine CC rfl 138 _ rfl p.1 14 ?_ _ _ V underlying138 rfl ?_ ?_;rfl;exact aF)|(refine ae 42 (w':=J) _ _ rfl rfl ?_ ?_;exact k));go_roundw;case rel=>exact⟨i+1,by omega,by go_num,X⟩
   case measure=>simp[intOf];omega
  ·obtain rfl:i=es.length:=by omega
   go_wp2;go_ret;obtain⟨⟨rest,O,Q⟩,Y⟩:=G.out;rw[Em,F5]at O;rw[List.length_eq_zero_iff.1 O,D4]at Q;exact⟨rfl,Q,Y⟩
end
theorem A5{es:List (Nat×AS)}{i:Nat}{p:Nat×AS}(a:es[i]?=some p):∃z,tB es es.length=tB es i++(p.2.told.cs++z):=by
 obtain⟨hi,rfl⟩:=Co.1 a;have e:es=es.take i++es[i]::es.drop (i+1):=by rw[EQ,CX]
 refine⟨((es.drop (i+1)).map fun p=>p.2.told.cs).flatten,?_⟩;unfold tB;rw[Dj];conv=>lhs;rw[e]
 rw[CV,CY,FE,Ei]
section
variable{w:World}{x i a:Value}{Q:World→Prop}
theorem rb{X n m:Nat}{c:Option Addr}{id:Int}(h:Calls prog 42 #[.pointer (some ⟨X,0,none⟩),.int .i64 id,.slice c n m] w fun e b=>e= .returned .nilIface∧Q b):Calls prog 21 #[.pointer (some ⟨X,0,none⟩),.int .i64 id,.slice c n m] w fun e b=>e= .returned .nilIface∧Q b:=by go_enter func21,ntmps21;go_wp2_with fail;refine h.mono ?_;rintro e j ⟨rfl,d⟩;go_wp2_with fail;refine(fS _ _).mono ?_;rintro e f ⟨rfl,rfl⟩;have g:Hid (Q f):=d;clear d;go_wp2;go_ret;exact⟨rfl,g.out⟩
theorem fP{X n m:Nat}{d:Option Addr}{id k:Int}(g:k≠0)(h:Calls prog 42 #[.pointer (some ⟨X,0,none⟩),.int .i64 id,.slice d n m] w fun e c=>e= .returned (lT k)∧Q c):Calls prog 21 #[.pointer (some ⟨X,0,none⟩),.int .i64 id,.slice d n m] w fun e c=>∃v b,e= .returned v∧bZ c v k∧Q b∧Fr (fun _=>False) b c:=by go_enter func21,ntmps21;go_wp2_with fail;refine h.mono ?_;rintro e b ⟨rfl,f⟩;unfold lT;go_wp2_with fail;refine(cp _ k _).mono ?_;rintro e l ⟨rfl,rfl⟩;have j:Hid (Q b):=f;clear f;go_wp2;go_ret;exact⟨_,b,rfl,Or.inr ⟨_,_,rfl,aa _ _,g⟩,j.out,(Fr.refl _ _).alloc _⟩
end
theorem xM{α:Type}{P:List α→Prop}(b:P [])(c:∀l a,P l→P (l++[a]))(l:List α):P l:=by
 rw[←List.reverse_reverse l];generalize l.reverse=m;induction m with
 |nil=>exact b
 |cons a m d=>rw[List.reverse_cons];exact c _ _ d
def Bf(p:Nat×List SS):List Value:=di 2 (be p.1 p.2.length (bz p.2) 6) 4
theorem cP{a b:AS}{L:List AS}:a∈dS b L↔a=b∨a∈L:=by
 have h:a∈L↔a∈L.takeWhile (fun c=>decide (c.id<b.id))∨a∈L.dropWhile (fun c=>decide (c.id<b.id)):=by
  conv=>lhs;rw[←EL (p:=fun c=>decide (c.id<b.id)) (l:=L)]
  exact Cv
 simp only[dS,Cv,CF,h];constructor
 ·rintro(h|h|h)
  ·exact .inr (.inl h)
  ·exact .inl h
  ·exact .inr (.inr h)
 ·rintro(h|h|h)
  ·exact .inr (.inl h)
  ·exact .inl h
  ·exact .inr (.inr h)
theorem qR(f:AS→Nat)(b:AS)(L:List AS):((dS b L).map f).sum=f b+(L.map f).sum:=by
 have h:(L.map f).sum=((L.takeWhile (fun c=>decide (c.id<b.id))).map f).sum+((L.dropWhile (fun c=>decide (c.id<b.id))).map f).sum:=by
  conv=>lhs;rw[←EL (p:=fun c=>decide (c.id<b.id)) (l:=L)]
  rw[CV,Er]
 rw[h];simp[dS];omega
theorem qV{b:AS}{L:List AS}(h:L.Pairwise (fun a b=>a.id<b.id))(g:∀a∈L,a.id≠b.id):(dS b L).Pairwise (fun a b=>a.id<b.id):=by
 induction L with
 |nil=>simp[dS]
 |cons c L i=>
  rw[Ds]at h;have j:=g c (by simp);by_cases f:c.id<b.id
  ·have e:dS b (c::L)=c::dS b L:=by simp[dS,f]
   rw[e,Ds];refine⟨fun a d=>?_,i h.2 (fun a d=>g a (by simp[d]))⟩;rcases cP.1 d with rfl|d
   ·exact f
   ·exact h.1 a d
  ·have e:dS b (c::L)=b::c::L:=by simp[dS,f]
   rw[e,Ds];refine⟨fun a d=>?_,by rw[Ds];exact h⟩;rcases CF.1 d with rfl|d
   ·omega
   ·have:=h.1 a d;omega
theorem qW(p:Nat×AS)(es:List (Nat×AS)):(jp p es).map (·.2)=dS p.2 (es.map (·.2)):=by simp[jp,dS,List.takeWhile_map,List.dropWhile_map,Function.comp_def]
theorem tg{p:Nat×List SS}(b:aO p.1 p.2=true):jN (Bf p):=by obtain⟨_,_,_,c,d⟩:=cZ p.1 p.2 b;have a:=eE p.1 p.2.length (bz p.2) (fC d) 6 (by rw[bf _ c];omega) (by omega);exact⟨bX 2 _ a 4 (by omega),eF 2 _ (dA _ _ _ _) 4,fun _=>2,fun i hi=>iP 2 _ a i hi,by decide⟩
section
variable{w:World}{R base:Nat}{room:Int}{ev:Value}{es:List (Nat×AS)}
theorem mu(h:aG w R base room ev es){b:Nat}(a:ev.ownBlock=some b):base≤b∧∃c,w.heap[b]?=some (.cells c 136 (0,0)):=by
 rcases h.o.2 with⟨rfl,_⟩|⟨g,d,e,rfl,f,i,_⟩
 ·cases a
 ·cases a;exact⟨f,_,i⟩
theorem jo(h:aG w R base room ev es):ev.ownBlock≠some R∧(∀p∈es,p.1≠R)∧(∀p∈es,ev.ownBlock≠some p.1):=by
 refine⟨fun e=>?_,fun p a e=>?_,fun p a e=>?_⟩
 ·obtain⟨_,c,b⟩:=mu h e;have:=b.symm.trans h.r;simp at this
 ·have d:=(h.e p a).2;rw[e]at d;have:=d.symm.trans h.r;simp at this
 ·obtain⟨_,c,b⟩:=mu h e;have:=b.symm.trans (h.e p a).2;simp at this
theorem lV(h:aG w R base room ev es){b:Nat}(a:dc R ev es b):∃c t,w.heap[b]?=some (.cells c t (0,0))∧(t=176∨t=136∨t=140):=by
 rcases a with rfl|a|⟨p,d,rfl⟩
 ·exact⟨_,_,h.r,.inl rfl⟩
 ·obtain⟨_,c,f⟩:=mu h a;exact⟨c,_,f,.inr (.inl rfl)⟩
 ·exact⟨_,_,(h.e p d).2,.inr (.inr rfl)⟩
theorem zb(h:aG w R base room ev es){b:Nat}{c:Array Value}{t:TypeId}(e:w.heap[b]?=some (.cells c t (0,0)))(a:t≠176∧t≠136∧t≠140):¬dc R ev es b:=by
 intro f;obtain⟨i,j,g,d⟩:=lV h f;have:=e.symm.trans g;simp at this;rw[←this.2]at d;rcases d with h|h|h
 ·exact a.1 h
 ·exact a.2.1 h
 ·exact a.2.2 h
end
section
variable{w:World}{R base:Nat}{room:Int}{ev:Value}{es:List (Nat×AS)}
def eU(es:List (Nat×AS))(id:Int)(f:AS→AS):List (Nat×AS):=es.map fun p=>if p.2.id=id then(p.1,f p.2)else p
theorem mn(a b:AS)(f:a.st.length≤6)(c:b.id=a.id)(d:b.st=a.st):splice (co a) 14 b.told.cs=co b:=by
 have g:=bD a.id a.st.length _ (bf _ f);have e:co b=av a.id a.st.length (bz a.st)++b.told.cs:=by rw[co,c,d]
 rw[e,co,nN _ _ _ _ g];simp[ST.cs]
theorem zj{a b:AS}(h:(co a).toArray=(co b).toArray):a.id=b.id:=by
 have c:co a=co b:=by simpa using Ej Array.toList h
 simp only[co,av,En,List.cons.injEq]at c;have:=c.1;simpa using this
theorem aG.turn(h:aG w R base room ev es)(j:cd es){p:Nat×AS}(c:p∈es)(f:AS→AS)(k:(f p.2).id=p.2.id):aG (w.setRow p.1 (co (f p.2)).toArray) R base room ev (eU es p.2.id f)∧Fr (fun b=>b=p.1) w (w.setRow p.1 (co (f p.2)).toArray):=by
 have hF:Fr (fun b=>b=p.1) w (w.setRow p.1 (co (f p.2)).toArray):=Fr.setRow (S:=fun b=>b=p.1) (Fr.refl _ w) p.1 (fun _=>rfl) _;obtain⟨x,l,m⟩:=jo h;refine⟨⟨hF.keep h.r (fun e=>l p c e.symm),?_,?_⟩,hF⟩
 ·have n:=aU h.o hF (fun b _ _ s e=>m p c (by rw[s,e]));have d:(eU es p.2.id f).length=es.length:=by simp[eU]
  have t:(eU es p.2.id f).map mY=es.map mY:=by rw[eU,Dv];refine DU fun q _=>?_;show mY (if q.2.id=p.2.id then(q.1,f q.2)else q)=mY q;split<;>rfl
  rw[d,t];exact n
 ·intro q u;obtain⟨z,a,rfl⟩:=Cx.1 u;by_cases e:z.2.id=p.2.id
  ·obtain rfl:=cF j a c e;rw[CE rfl];exact⟨(h.e z a).1,CA _ _ _ _ _ _ (h.e z a).2⟩
  ·rw[Cz e];refine⟨(h.e z a).1,hF.keep (h.e z a).2 (fun d=>e ?_)⟩;have g:=d;have i:=(h.e z a).2;rw[g,(h.e p c).2]at i;have v:(co p.2).toArray=(co z.2).toArray:=by simp only[Cu,Obj.cells.injEq]at i;exact i.1
   exact(zj v).symm
theorem pJ(h:aG w R base room ev es)(k:cd es)(Q:es.length≤100000){ck:Int}(y:∀p∈es,p.2.Ok ck){p:Nat×AS}(i:p∈es)(reply:Int)(T:p.2.open)(U:p.2.moves reply=true):Calls prog 76 #[.pointer (some ⟨R,0,none⟩),.agg #[.int .i64 p.2.id,.int .i64 reply]] w fun e E=>e= .returned (.bool true)∧aG E R base room ev (eU es p.2.id (·.go reply))∧Fr (fun b=>b=p.1) w E:=by
 have d:Fr (fun _=>False) w (w.alloc (.cells #[.int .i64 p.2.id,.int .i64 reply] 196)):=(Fr.refl _ _).alloc _;have l:=kF (h.frz d) k Q y p.2.id reply;rw[oO k i rfl,Dg T,U,Bool.and_self]at l;obtain⟨id,m⟩:∃id,id=p.2.id:=⟨_,rfl⟩;have z:=aa w (.cells #[.int .i64 p.2.id,.int .i64 reply] 196);rw[←m]at l d z⊢;have n:=af m;clear m;go_enter func76,ntmps76;go_wp2_with fail;refine l.mono ?_;rintro e w2 ⟨rfl,F⟩;have G:=F.keep (aa _ _) jI;have m0:w2.cell? ⟨w.heap.size,0,none⟩=some (.int .i64 id):=(Cn _ _ 0 _ _ _ G).trans rfl;have H:=(h.frz d).frz F;have hF:=d.trans F fI;clear d F l h;have l:=gy H k Q id;go_wp2_with fail;refine l.mono ?_;rintro e V ⟨v,rfl,X,f⟩;have I:=H.frz f;have J:=hF.trans f fI;have A:=f.keep G jI;have m1:V.cell? ⟨w.heap.size,1,none⟩=some (.int .i64 reply):=(Cn _ _ 1 _ _ _ A).trans rfl;obtain rfl:v=mY p:=by
  rcases X with⟨q,hq,he,rfl⟩|⟨K,_⟩
  ·rw[cF k hq i (he.trans n.out)]
  ·exact absurd n.out.symm (K p i)
 clear l H X hF f G m0;unfold mY;go_wp2_with fail;have a:=y p i;have r:=fun W=>m8 W p.2.told reply a.s (fun h=>⟨(a.p h).1,by have:=(a.p h).2;have:=a.l6;show p.2.S.2≤6;omega⟩);rw[mF p.2 a,CE ⟨T,U⟩]at r;obtain⟨W,L⟩:=aw V.drew;have g:=eG L;let S:World→Prop:=fun E=>E.cell? ⟨w.heap.size,1,none⟩=some (.int .i64 reply)
 have j:S W:=g.cell m1 jI;refine dZ S L ?_;clear L;refine bM 0 15 5 (.pointer (some ⟨p.1,0,none⟩)) rfl j ?_;refine bM 1 16 5 (.pointer (some ⟨p.1,0,none⟩)) rfl j ?_;refine d4 2 17 16 (.pointer (some ⟨p.1,0,none⟩)) rfl j ?_;refine bT 3 18 140 17 1 (.pointer (some ⟨p.1,14,none⟩)) rfl j ?_;refine bT 5 20 196 3 1 (.pointer (some ⟨w.heap.size,1,none⟩)) rfl j ?_;refine cU 6 21 3 20 (.int .i64 reply) ⟨w.heap.size,1,none⟩ rfl (fun _ k=>k) underlying3 j ?_;simp only[Act.put,aC,aB,aE];refine cj 4 ?_;have M:=(I.frz g).stand i a.l6;refine ak (o:=⟨some 19,.load 138 (.tmp 18),_,_,_,none⟩) (v:= .agg p.2.told.cs.toArray) (w':=W) rfl rfl (aL 138 (.tmp 18) rfl ⟨p.1,14,none⟩ rfl (xf M)) ⟨j,?_⟩;simp only[Act.put,aC,aB,aE];refine dN 7 22 118 #[.tmp 19,.tmp 21] #[.agg p.2.told.cs.toArray,.int .i64 reply] rfl ?_;refine(r W).mono ?_;rintro e B ⟨rfl,t⟩;have c:S B:=t.cell j jI;refine⟨_,rfl,c,?_⟩;refine bM 8 14 22 (.tuple #[.agg (p.2.go reply).told.cs.toArray,.bool true]) rfl c ?_;refine kL 9 23 14 0 (.agg (p.2.go reply).told.cs.toArray) rfl c ?_;refine kL 10 24 14 1 (.bool true) rfl c ?_;refine d4 11 25 15 (.pointer (some ⟨p.1,0,none⟩)) rfl c ?_;refine bT 12 26 140 25 1 (.pointer (some ⟨p.1,14,none⟩)) rfl c ?_;simp only[Act.put,aC,aB,aE];refine cj 13 ?_;have N:=(I.frz g).frz t;have u:=au (P:=prog) (o:=14) (ty:=138) (vs:=(p.2.go reply).told.cs) (N.e p i).2 (by rw[pM _ a.l6];exact Cs 20) (ST.one _) (by rw[aF];rfl);rw[mn p.2 (p.2.go reply) a.l6 rfl rfl]at u;obtain⟨C,x⟩:=N.turn k i (·.go reply) rfl;have O:w.heap.size≠p.1:=fun e=>by have Y:=(I.e p i).2;rw[←e,A]at Y;simp at Y
 have D:S (B.setRow p.1 (co (p.2.go reply)).toArray):=x.cell c O;refine aA (o:=⟨none,.store 138 (.tmp 26) (.tmp 23),_,_,_,none⟩) (w':=B.setRow p.1 (co (p.2.go reply)).toArray) rfl rfl (ar 138 _ _ rfl ⟨p.1,14,none⟩ _ rfl rfl u) ⟨D,?_⟩;simp only[Act.put];refine dn ?_;have Z:Hid (aG (B.setRow p.1 (co (p.2.go reply)).toArray) R base room ev (eU es id (·.go reply))∧Fr (fun b=>b=p.1) w (B.setRow p.1 (co (p.2.go reply)).toArray)):=⟨by rw[n.out];exact C,(((J.trans g fI).trans t fI).mono (fun _ _ h=>h.elim)).trans x fI⟩;clear C x u D N r;go_wp2;go_ret;exact⟨rfl,Z.out.1,Z.out.2⟩
end
theorem pr:∀p<65,1≤p→Lib.bitLen p=ot p:=by decide
section
variable{w:World}{R base:Nat}{room:Int}{ev:Value}{es:List (Nat×AS)}
theorem vo(W:World)(a:AS)(clock pause:Int){b:Int}(h:a.Ok b)(j:b≤1000000)(k:1≤pause)(l:pause≤64)(c:0≤clock)(d:clock≤1000000):Calls prog 163 #[.agg a.told.cs.toArray,.int .i64 clock,.int .i64 pause] W fun e m=>e= .returned (.agg (a.vain clock pause).told.cs.toArray)∧Fr (fun _=>False) W m:=by
 obtain⟨id,st,⟨f,g⟩,tries,due⟩:=a;have o:0≤tries:=h.t0;have p:tries≤b:=h.t1;obtain⟨n,rfl⟩:∃n:Nat,tries=n:=⟨tries.toNat,by omega⟩;obtain⟨q,rfl⟩:∃q:Nat,pause=q:=⟨pause.toNat,by omega⟩;have r:=pr q (by omega) (by omega);have s:=z8 q (by omega) (by omega) n;have i:=vh W id f g st.length due n (min n (ot q)) clock q k l (by rw[Int.toNat_natCast,r];omega) (by omega) c d;have e:ST.off ⟨id,f,g,st.length,(n:Nat),due⟩ clock q (min n (ot q))=AS.told (AS.vain ⟨id,st,(f,g),(n:Int),due⟩ clock q):=by unfold ST.off AS.told AS.vain;simp only[Int.toNat_natCast,←s];congr 2;omega
 rw[e]at i;exact i
theorem rq(h:aG w R base room ev es)(n:cd es)(I:es.length≤100000){B:Int}(r:∀p∈es,p.2.Ok B)(s:B≤1000000){p:Nat×AS}(i:p∈es)(clock pause:Int)(J:1≤pause)(K:pause≤64)(t:0≤clock)(u:clock≤1000000):Calls prog 150 #[.pointer (some ⟨R,0,none⟩),.int .i64 p.2.id,.int .i64 clock,.int .i64 pause] w fun e C=>e= .returned (.tuple #[])∧aG C R base room ev (eU es p.2.id (·.vain clock pause))∧Fr (fun b=>b=p.1) w C:=by
 obtain⟨id,d⟩:∃id,id=p.2.id:=⟨_,rfl⟩;rw[←d];have f:=af d;clear d;have D:=gy h n I id;go_enter func150,ntmps150;go_wp2_with fail;refine D.mono ?_;rintro e O ⟨v,rfl,E,j⟩;have x:=h.frz j;obtain rfl:v=mY p:=by
  rcases E with⟨q,L,M,rfl⟩|⟨y,_⟩
  ·rw[cF n L i (M.trans f.out)]
  ·exact absurd f.out.symm (y p i)
 clear D h E;unfold mY;have a:=r p i;have F:=x.stand i a.l6;have G:=fun W=>vo W p.2 clock pause a s J K t u;go_wp2_with (first|(refine CC rfl 138 _ rfl p.1 14 ?_ _ _ F underlying138 rfl ?_ ?_;rfl;exact aF));refine(G _).mono ?_;rintro e N ⟨rfl,k⟩;have z:=x.frz k;have g:=au (P:=prog) (o:=14) (ty:=138) (vs:=(p.2.vain clock pause).told.cs) (z.e p i).2 (by rw[pM _ a.l6];exact Cs 20) (ST.one _) (by rw[aF];rfl);rw[mn p.2 (p.2.vain clock pause) a.l6 rfl rfl]at g;obtain⟨l,m⟩:=z.turn n i (·.vain clock pause) rfl;obtain⟨A,c⟩:=aw (N.setRow p.1 (co (p.2.vain clock pause)).toArray);have H:Hid (aG A R base room ev (eU es id (·.vain clock pause))∧Fr (fun b=>b=p.1) w A):=⟨by rw[f.out,c.out];exact l,by rw[c.out];exact((j.trans k fI).mono (fun _ _ h=>h.elim)).trans m fI⟩;rw[←c.out]at g;clear l m z x G F c;go_wp2_with (first|(refine ae 138 (w':=A) _ _ rfl rfl ?_ ?_;exact g));exact bodyPost_end (results_none rfl _ _ _) rfl ⟨rfl,H.out.1,H.out.2⟩
end
theorem gq{c:List (Nat×AS)}{L:List AS}(d:c.map (·.2)=L)(h:L.Pairwise (fun a b=>a.id<b.id)):cd c:=by rw[←d,Dw]at h;exact h
theorem cy{a:List (Nat×AS)}{L:List AS}(b:a.map (·.2)=L){p:Nat×AS}(c:p∈a):p.2∈L:=by rw[←b];exact Cx.2 ⟨p,c,rfl⟩
def lz(X J R V:Nat)(ev:Value)(a:List (Nat×AS))(b:Nat):Prop:=b=X∨b=J∨b=V∨dc R ev a b
end Go.Proofs.YteebjgfalllbjaaGreatDoor
