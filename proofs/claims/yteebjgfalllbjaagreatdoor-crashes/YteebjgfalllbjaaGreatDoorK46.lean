import Derived.Test.YteebjgfalllbjaaGreatDoorK44
namespace Go.Proofs.YteebjgfalllbjaaGreatDoor
open Go.RowKit Go.Proofs.Tryz
set_option maxRecDepth 100000
set_option maxHeartbeats 4000000
theorem WI.setF{w:World}{l s:Nat}{A B C E F:Value}{k r st m:Nat}{t u x:List Value}{I:List Nat}{y:List Value}(h:WI w l s A B C E F k r st m t u x I y)(i:Nat)(v:Value){d f n o p:Value}{G H st' z:Nat}{g a c:List Value}{q:List Nat}{j:List Value}(e:(#[A,B,C,E,F]:Array Value).setIfInBounds i v=#[d,f,n,o,p])(J:w.ownsRow l 3 1 d G g)(K:w.ownsRow l 3 1 f H a)(L:w.ownsRow l 165 2 n st' c)(M:w.ownsRow l 105 1 o z (q.map fun D=>Value.pointer (some ⟨D,0,none⟩)))(N:w.ownsRow l 4 1 p z j)(ne:∀b,d.ownBlock=some b→f.ownBlock≠some b)(O:∀v∈a,v.oneCell'=true)(so:∀v∈c,v.oneCell'=true):WI (w.setCell ⟨s,i,none⟩ v) l s d f n o p G H st' z g a c q j:=⟨by rw[ag w s i _ _ _ h.hw,e],bU h.hw (by decide) J,bU h.hw (by decide) K,bU h.hw (by decide) L,bU h.hw (by decide) M,bU h.hw (by decide) N,ne,O,so,h.w0⟩
theorem rY{w:World}{i f s:Nat}{u:List DQ}{v:List Bool}(h:dm w i f s u v)(X a b:Int)(S T:ByteArray):Calls prog 49 #[.pointer (some ⟨f,0,none⟩),.agg (fe 2 X a b S T)] w fun e x=>cV w i f s e x:=by
 have j:=h.size;have hF:Fr (fun _=>False) w (w.alloc (.cells (fe 2 X a b S T) 74)):=(Fr.refl _ _).alloc _;obtain⟨F,y,z,A,B,k,r,st,C,l,ch,m,d,n,G,H,D,I,g,c⟩:=h.frz hF (Cs _);have E:Hid (cV w i f s (.returned (.bool true)) ((w.alloc (.cells (fe 2 X a b S T) 74)).setCell ⟨f,0,none⟩ (.slice none 0 0))):=by refine⟨u,v,rfl,⟨_,y,z,A,B,0,r,st,[],l,ch,m,d.setF 0 _ rfl (CT _ _ _ _) d.hr d.hs d.hd d.hf (fun b o=>by simp[Value.ownBlock]at o) d.ro d.so,n,by omega,by omega,by omega,by omega,fun q t=>((g q t).setW d.hw _ _).mono (by omega),⟨c.pw,c.fx,c.rx,fun q t b o=>⟨fun e=>by simp[Value.ownBlock]at e,(c.kr q t b o).2⟩,⟨[],rfl⟩,c.fl⟩⟩,?_⟩;exact(bH hF j).setCell (p:=⟨f,0,none⟩) d.w0 _
 have c0:=d.c0;have J:=d.fz 0;clear d g c h hF;unfold fe at*
 go_enter func49,ntmps49;go_wp2;go_ret;exact E.out
theorem qJ{w:World}{i d s:Nat}{o:List DQ}{t:List Bool}(h:dm w i d s o t)(X a b:Int)(S T:ByteArray):Calls prog 49 #[.pointer (some ⟨d,0,none⟩),.agg (fe 5 X a b S T)] w fun e u=>cV w i d s e u:=by
 have j:=h.size;have hF:Fr (fun _=>False) w (w.alloc (.cells (fe 5 X a b S T) 74)):=(Fr.refl _ _).alloc _;obtain⟨x,y,G,z,A,k,r,st,l,m,ch,n,c,B,H,I,C,J,f,g⟩:=h.frz hF (Cs _);have D:Hid (cV w i d s (.returned (.bool true)) ((w.alloc (.cells (fe 5 X a b S T) 74)).setCell ⟨d,2,none⟩ (.slice none 0 0))):=by refine⟨o,t,rfl,⟨x,y,_,z,A,k,r,0,l,m,[],n,c.setF 2 _ rfl c.hk c.hr (CT _ _ _ _) c.hd c.hf c.ne c.ro (fun v E=>by cases E),rfl,by omega,by omega,by omega,by omega,fun q F=>((f q F).setW c.hw _ _).mono (by omega),g⟩,?_⟩;exact(bH hF j).setCell (p:=⟨d,2,none⟩) c.w0 _
 have c2:=c.c2;have K:=c.fz 2;clear c f g h hF;unfold fe at*
 go_enter func49,ntmps49;go_wp2;go_ret;exact D.out
theorem mv{w:World}{b d e size n:Nat}{v:Value}{f:List Value}(h:w.ownsRow b e size v n f)(k:d≤b):w.ownsRow d e size v n f:=by
 refine⟨h.1,?_⟩;rcases h.2 with i|⟨g,a,c,j,l,rest⟩
 ·exact .inl i
 ·exact .inr ⟨g,a,c,j,by omega,rest⟩
theorem jH{w:World}{b e size n:Nat}{v:Value}{a:List Value}(h:w.ownsRow b e size v n a):∃c d,v= .slice c n d:=by
 rcases h.2 with⟨rfl,rfl⟩|⟨g,f,i,rfl,_⟩
 ·exact⟨_,_,rfl⟩
 ·exact⟨_,_,rfl⟩
theorem uL:(prog.info? 165).map (fun i=>(i.zero,i.size,i.bytes))=some (some (.agg #[.string ⟨#[]⟩,.string ⟨#[]⟩]),2,32):=by kernel_rfl
theorem rH{w:World}{M z s:Nat}{qs:List DQ}{fs:List Bool}(h:dm w M z s qs fs)(hs:s<100000)(X a b:Int)(S T:ByteArray):Calls prog 49 #[.pointer (some ⟨z,0,none⟩),.agg (fe 4 X a b S T)] w fun e w'=>cV w M z s e w':=by
 have N:=h.size;obtain⟨W,HW⟩:=aw (w.alloc (.cells (fe 4 X a b S T) 74));have hF:=j9 HW;obtain⟨O,HO⟩:=aw w.heap.size;have hO:W.heap[O]?=some (.cells (fe 4 X a b S T) 74 (0,0)):=by rw[HW.out,HO.out];exact aa _ _
 obtain⟨kv,rv,sv,dv,fv,k,r,st,a1,a2,ch,a3,A,a4,hk,hr,ab,hm,P,Q⟩:=h.frz hF (Cs _);obtain⟨m,D⟩:=aw (an ch);rw[←D.out]at A;have t:=Ct N hF.size;obtain⟨E,F,G,H,I⟩:=Dn uL;have R:∀(u:Value) (i:World),i.ownsRow M 165 2 u st m→(∀g,u.ownBlock=some g→W.heap.size≤g)→Fr (fun _=>False) W i→∀(J l:Nat) (o:World),o.ownsRow M 165 2 (.slice (some ⟨J,0,none⟩) (st+1) l) (st+1) (m++[.string S,.string T])→(i.alloc (.cells #[.string S,.string T] 165)).grownBy o u.ownBlock→o.cell? ⟨z,2,none⟩=some sv∧o.frozen? ⟨z,2,none⟩=false∧Hid (cV w M z s (.returned (.bool true)) (o.setCell ⟨z,2,none⟩ (.slice (some ⟨J,0,none⟩) (st+1) l))):=by
  intro u i ad a5 d J l o n f;have K:=(d.alloc _).grown f (fun b hb e=>by have:=a5 b e;omega);have j:=A.frz K;refine⟨j.c2,j.fz 2,qs,fs,rfl,⟨kv,rv,_,dv,fv,k,r,st+1,a1,a2,ch++[(S,T)],a3,j.setF 2 _ rfl j.hk j.hr (by rw[dh,←D.out];exact n) j.hd j.hf j.ne j.ro ?_,by simp[a4],by omega,by omega,by omega,by omega,fun q hq=>(((P q hq).frz K).setW j.hw _ _).mono (by omega),Q⟩,?_⟩
  ·intro v L;rw[dh,←D.out]at L;rcases Cv.1 L with L|L
   ·exact A.so v L
   ·simp only[an,dj,CY,Ed,Ei,List.flatten_nil,D4,CF,Dy,EF]at L;rcases L with rfl|rfl<;>rfl
  ·exact(((bH hF N).trans (bH K t))).setCell (p:=⟨z,2,none⟩) A.w0 _
 have c2:=A.c2;have a6:=A.so;have U:∀i,Fr (fun _=>False) W i→i.cell? ⟨O,4,none⟩=some (.string S)∧i.cell? ⟨O,5,none⟩=some (.string T):=fun i d=>⟨d.cell (p:=⟨O,4,none⟩) (by rw[Cn W O 4 _ _ _ hO];rfl) id,d.cell (p:=⟨O,5,none⟩) (by rw[Cn W O 5 _ _ _ hO];rfl) id⟩;have V:=A.hs;have H4:=af U;have x:=af V;clear V U A P Q h hO;have B:(Instr.box 74 (.agg (fe 4 X a b S T))).run prog w= .ok (.pointer (some ⟨O,0,none⟩)) W:=by rw[HW.out,HO.out];rfl
 have ae:W.cell? ⟨O,0,none⟩=some (.int .i64 4):=by rw[HW.out,HO.out,Cn _ w.heap.size 0 _ _ _ (aa _ _)];rfl
 have C:∀(u:Value) (i:World),i.ownsRow W.heap.size 165 2 u st m→Fr (fun _=>False) W i→(i.alloc (.cells #[.string S,.string T] 165)).ownsRow W.heap.size 165 2 u st m∧W.heap.size≤(i.alloc (.cells #[.string S,.string T] 165)).heap.size:=fun u i h1 d=>⟨h1.alloc _,Ct d.size (by simp)⟩;have Y:=C;clear C;unfold fe at*
 go_enter func49,ntmps49;rcases x.out.2 with⟨rfl,rfl⟩|⟨g,Z,ag,rfl,ah,ai,aj,ak,al,ht⟩
 ·have a7:=D3 (by simpa using x.out.1);subst a7;have o4:=(H4.out W (Fr.refl _ _)).1;have o5:=(H4.out W (Fr.refl _ _)).2;go_wp2_with (first
   |(refine cX 74 (.tmp 1) (v:= .pointer (some ⟨O,0,none⟩)) (w':=W) rfl rfl ?_ ?_;exact B)
   |(at_builtin;refine Fa _ rfl (.tmp 49) (.tmp 55) 76 rfl W.heap.size 165 E (.agg #[.string ⟨#[]⟩,.string ⟨#[]⟩]) 2 32 underlying76 F G H I rfl (by decide) (.slice none 0 0) 0 [] rfl (CT _ _ _ _) ⟨W.heap.size,0,none⟩ 1 1 [.string S,.string T] rfl rfl ?_ ?_ (by decide) ?_ (by decide) ?_ _ rfl ?_;exact CZ (cs:=#[.string S,.string T]) (aa W _);(simp[Value.oneCell']);(unfold maxLen;decide);(simp);intro J l o n f a8 a9;obtain⟨q1,q2,q3⟩:=R (.slice none 0 0) W (CT _ _ _ _) (fun g hg=>by simp[Value.ownBlock]at hg) (Fr.refl _ _) J l o (mv n t) f))
  go_ret;exact q3.out
 ·have hc:=x.out.cells (g:=g) rfl;have a0:=x.out.1;go_wp2_with (first
   |(refine cX 74 (.tmp 1) (v:= .pointer (some ⟨O,0,none⟩)) (w':=W) rfl rfl ?_ ?_;exact B)
   |(at_builtin;refine DD W rfl (.tmp 42) (.tmp 46) 76 rfl W.heap.size 165 E (.agg #[.string ⟨#[]⟩,.string ⟨#[]⟩]) 2 32 underlying76 F G H I rfl (by decide) (.slice none 0 0) 0 [] rfl (CT _ _ _ _) ⟨g,0,none⟩ st Z m rfl a0 hc a6 ?_ ?_ (Cs _) ?_;(unfold maxLen;omega);omega;intro u i c y _;simp only[D5,Dr]at c;obtain⟨ao,cc,rfl⟩:=jH c;have d:Fr (fun _=>False) W i:=(Fr.refl _ _).grown y (fun _ _ h=>by cases h);have o4:=(H4.out i d).1;have o5:=(H4.out i d).2)
   |(at_builtin;refine Fa _ rfl (.tmp 49) (.tmp 55) 76 rfl W.heap.size 165 E (.agg #[.string ⟨#[]⟩,.string ⟨#[]⟩]) 2 32 underlying76 F G H I rfl (by decide) (.slice ao st cc) st m rfl (Y _ _ c d).1 ⟨i.heap.size,0,none⟩ 1 1 [.string S,.string T] rfl rfl ?_ ?_ (by decide) ?_ ?_ (Y _ _ c d).2 _ rfl ?_;exact CZ (cs:=#[.string S,.string T]) (aa i _);(simp[Value.oneCell']);(unfold maxLen;omega);omega;intro J l o n f a8 a9;obtain⟨q1,q2,q3⟩:=R (.slice ao st cc) i (mv c t) (fun g hg=>(c.lt g hg).1) d J l o (mv n t) f))
  go_ret;exact q3.out
theorem ri{w:World}{M d s:Nat}{qs:List DQ}{fs:List Bool}(h:dm w M d s qs fs)(hs:s<100000)(X a b:Int)(S T:ByteArray):Calls prog 49 #[.pointer (some ⟨d,0,none⟩),.agg (fe 1 X a b S T)] w fun e w'=>cV w M d s e w':=by
 have aj:=h.size;obtain⟨kv,rv,sv,dv,fv,k,r,st,ax,al,ch,ay,hI,az,hk,hr,aP,hm,aD,C⟩:=h;unfold fe;obtain⟨D,HV⟩:=aw kv;obtain⟨z,an⟩:=aw k;obtain⟨N,HX⟩:=aw ax;have aQ:z≤s:=by rw[an.out];assumption
 go_enter func49,ntmps49;go_wp2_with fail
 ·have aF:=zl;obtain⟨W,HW⟩:=aw ((w.alloc (.cells #[.int .i64 1,.int .i64 X,.int .i64 a,.int .i64 b,.string S,.string T] 74)).drew);obtain⟨O,HO⟩:=aw w.heap.size;have H:Fr (fun _=>False) w W:=by rw[HW.out];exact((Fr.refl _ _).alloc _).drew
  have i:=hI.frz H;have P:=fun q hq=>(aD q hq).frz H;have I:W.heap[O]?=some (.cells #[.int .i64 1,.int .i64 X,.int .i64 a,.int .i64 b,.string S,.string T] 74 (0,0)):=by rw[HW.out,HO.out];exact aa _ _
  have aR:=lt_of_heap I;have aG:=Ct aj H.size;have x:W.ownsRow M 3 1 D z N:=by rw[HV.out,an.out,HX.out];exact i.hk
  have a0:W.cell? ⟨d,0,none⟩=some D:=by rw[HV.out];exact i.c0
  have a9:O≠d:=by intro e;subst e;have:=i.hw.symm.trans I;simp at this
  have a1:∀b,D.ownBlock=some b→b=d→False:=by
   intro b l e;subst e;rcases x.2 with⟨rfl,_⟩|⟨g,j,ao,rfl,_,hg,_⟩
   ·simp[Value.ownBlock]at l
   ·simp only[Value.ownBlock,Cu]at l;subst l;have:=i.hw.symm.trans hg;simp at this
  have a2:∀b,D.ownBlock=some b→b=O→False:=by
   intro b l e;subst e;rcases x.2 with⟨rfl,_⟩|⟨g,j,ao,rfl,_,hg,_⟩
   ·simp[Value.ownBlock]at l
   ·simp only[Value.ownBlock,Cu]at l;subst l;have:=I.symm.trans hg;simp at this
  let S:World→Prop:=fun w'=>w'.cell? ⟨O,2,none⟩=some (.int .i64 a)
  have hS:S W:=by show W.cell? _=_;rw[Cn W O 2 _ _ _ I];rfl
  obtain⟨ab,ad,ae,Q,ap⟩:=Dn lX;have af:(Instr.loadAt 24 (.pointer (some ⟨d,0,none⟩))).run prog W= .ok D W:=aJ a0 underlying24 rfl;have a3:(Instr.buildSlice 24 1 #[(0,.int .i64 a)]).run prog W= .ok (.slice (some ⟨W.heap.size,0,none⟩) 1 1) (W.alloc (.cells #[.int .i64 a] 3)):=cw W 24 3 ab _ _ underlying24 ad ae (by rw[Q];rfl) (by rw[Q];decide) (by rw[Q];decide);have J:Fr (fun _=>False) W (W.alloc (.cells #[.int .i64 a] 3)):=(Fr.refl _ _).alloc _;have K:=J.keep i.hw id;have ai:(Instr.loadAt 24 (.pointer (some ⟨d,0,none⟩))).run prog (W.alloc (.cells #[.int .i64 a] 3))= .ok D (W.alloc (.cells #[.int .i64 a] 3)):=aJ (J.cell a0 id) underlying24 rfl;have A:=x.alloc (.cells #[.int .i64 a] 3);have v:=CZ (w:=W.alloc (.cells #[.int .i64 a] 3)) (B:=W.heap.size) (aa W (.cells #[.int .i64 a] 3));have E:S (W.alloc (.cells #[.int .i64 a] 3)):=J.cell (p:=⟨O,2,none⟩) hS id;have a4:M≤(W.alloc (.cells #[.int .i64 a] 3)).heap.size:=by simp;omega
  have a5:∀(n j:Nat) (m:World),m.ownsRow M 3 1 (.slice (some ⟨n,0,none⟩) (z+1) j) (z+1) (N++[.int .i64 a])→(W.alloc (.cells #[.int .i64 a] 3)).grownBy m D.ownBlock→(D.ownBlock=some n∨n=(W.alloc (.cells #[.int .i64 a] 3)).heap.size)→n<m.heap.size→m.heap[d]?=some (.cells #[kv,rv,sv,dv,fv] 80 (0,0))→∃R U,dm (m.setCell ⟨d,0,none⟩ (.slice (some ⟨n,0,none⟩) (z+1) j)) M d (s+2) R U∧Below M w (m.setCell ⟨d,0,none⟩ (.slice (some ⟨n,0,none⟩) (z+1) j)):=by
   intro n j m F f G a6 u;have aH:=(J.mono (fun _ _ h=>h.elim)).grown f (fun b _ l=>l);have L:Fr (fun b=>b=d∨D.ownBlock=some b) W (m.setCell ⟨d,0,none⟩ (.slice (some ⟨n,0,none⟩) (z+1) j)):=Fr.setCell (S:=fun b=>b=d∨D.ownBlock=some b) (aH.mono (fun _ _ h=>Or.inr h)) ⟨d,0,none⟩ (fun _=>Or.inl rfl) _;have aI:∀b c t,W.heap[b]?=some (.cells c t (0,0))→D.ownBlock=some b→t=3:=by
    intro b c t l V;rcases x.2 with⟨rfl,_⟩|⟨g,aO,ao,rfl,_,hg,_⟩
    ·simp[Value.ownBlock]at V
    ·simp only[Value.ownBlock,Cu]at V;subst V;rw[l]at hg;simp at hg;exact hg.2
   have aq:D.ownBlock=some n∨W.heap.size≤n:=by
    rcases G with e|e
    ·exact .inl e
    ·right;simp at e;omega
   have a7:∀{e':Nat},e'≠3→e'≠80→∀b c,W.heap[b]?=some (.cells c e' (0,0))→¬(b=d∨D.ownBlock=some b):=by
    rintro e' aK aM b c l (rfl|V)
    ·rw[i.hw]at l;simp at l;exact aM l.2.symm
    ·exact aK (aI b c e' l V)
   have au:(m.setCell ⟨d,0,none⟩ (.slice (some ⟨n,0,none⟩) (z+1) j)).ownsRow M 3 1 rv r al:=aU i.hr L (by
    rintro b c l a8 (rfl|V)
    ·rw[i.hw]at l;simp at l
    ·exact i.ne b (by rw[←HV.out];exact V) a8)
   have aN:∀b,(Value.slice (some ⟨n,0,none⟩) (z+1) j).ownBlock=some b→rv.ownBlock≠some b:=by
    intro b l a8;simp only[Value.ownBlock,Cu]at l;subst l;rcases aq with e|e
    ·exact i.ne n (by rw[←HV.out];exact e) a8
    ·have:=(i.hr.lt n a8).2;omega
   refine⟨qs,fs,⟨(.slice (some ⟨n,0,none⟩) (z+1) j),rv,sv,dv,fv,z+1,r,st,N++[.int .i64 a],al,ch,ay,⟨ag m d 0 _ _ _ u,bU u (by decide) F,au,aU i.hs L (fun b c l _=>a7 (by decide) (by decide) b c l),aU i.hd L (fun b c l _=>a7 (by decide) (by decide) b c l),aU i.hf L (fun b c l _=>a7 (by decide) (by decide) b c l),aN,i.ro,i.so,i.w0⟩,az,by omega,by omega,by omega,by omega,fun q hq=>((P q hq).fr L ?_ ?_).mono (by omega),⟨C.pw,C.fx,C.rx,fun q hq b l=>⟨fun e=>?_,(C.kr q hq b l).2⟩,(by obtain⟨zs,e⟩:=C.kx;exact⟨zs++[a],by rw[HX.out,e];simp⟩),C.fl⟩⟩,(bH H aj).trans (L.below aG ?_)⟩
   ·rintro b l (rfl|V)
    ·exact(P q hq).notW i.hw (.inl rfl) l
    ·exact(C.kr q hq b l).1 (by rw[←HV.out];exact V)
   ·exact fun b c hc=>a7 (by decide) (by decide) b c hc
   ·simp only[Value.ownBlock,Cu]at e;subst e;rcases aq with e|e
    ·exact(C.kr q hq n l).1 (by rw[←HV.out];exact e)
    ·have:=(P q hq).lt l;omega
   ·rintro b (rfl|V)
    ·exact i.w0
    ·exact(x.lt b V).1
  rw[←HO.out];refine dZ S HW ?_;refine bM 0 11 0 (.pointer (some ⟨d,0,none⟩)) rfl hS ?_;refine bM 1 12 0 (.pointer (some ⟨d,0,none⟩)) rfl hS ?_;refine d4 2 13 12 (.pointer (some ⟨d,0,none⟩)) rfl hS ?_;refine bT 3 14 80 13 0 (.pointer (some ⟨d,0,none⟩)) rfl hS ?_;refine bT 5 16 74 3 2 (.pointer (some ⟨O,2,none⟩)) rfl hS ?_;refine cU 6 17 3 16 (.int .i64 a) ⟨O,2,none⟩ rfl (fun _ hs=>hs) underlying3 hS ?_;simp only[Act.put,aC,aB,aE];refine Eh (rs:=[4,7]) (by kernel_rfl) (by simp) ?_;intro i4 av;simp only[CF,Dy,EF]at av;rcases av with rfl|rfl
  ·skip;refine ak (o:=⟨some 15,.load 24 (.tmp 14),_,_,_,none⟩) rfl rfl (aL 24 (.tmp 14) rfl ⟨d,0,none⟩ rfl af) ⟨hS,?_⟩;simp only[Act.put,aC,aB,aE];refine cj 7 ?_;refine ak (o:=⟨some 18,.buildSlice 24 1 #[(0,.tmp 17)],_,_,_,none⟩) rfl rfl (aS 24 1 #[(0,.tmp 17)] rfl #[(0,.int .i64 a)] (by simp[Act.eval]) a3) ⟨E,?_⟩;simp only[Act.put,aC,aB,aE];refine cj 8 ?_;refine cA (o:=⟨some 19,.call {callee:= .builtin .append,args:=#[.tmp 15,.tmp 18],argTypes:=#[24,24]},_,_,_,none⟩) rfl rfl ?_;refine Ek _ (.tmp 15) (.tmp 18) 24 rfl M 3 ab (.int .i64 0) 1 8 underlying24 ad ae Q ap rfl (by decide) D z N rfl A ⟨W.heap.size,0,none⟩ 1 1 [.int .i64 a] rfl rfl v (by simp[Value.oneCell']) (by decide) (by unfold maxLen;omega) (by omega) a4 _ rfl ?_;intro n j m F f G a6;have y:S m:=by show m.cell? ⟨O,2,none⟩=_;rw[f.cell_far ⟨O,2,none⟩ (by simp;omega) (fun e=>a2 _ e.symm rfl)];exact E
   refine⟨y,?_⟩;refine d4 9 20 11 (.pointer (some ⟨d,0,none⟩)) rfl y ?_;refine bT 10 21 80 20 0 (.pointer (some ⟨d,0,none⟩)) rfl y ?_;simp only[Act.put,aC,aB,aE];refine cj 11 ?_;have u:m.heap[d]?=some (.cells #[kv,rv,sv,dv,fv] 80 (0,0)):=by rw[f.block d (lt_of_heap K) (fun e=>a1 _ e.symm rfl)];exact K
   have Y:m.cell? ⟨d,0,none⟩=some D:=by rw[Cn m d 0 _ _ _ u,HV.out];rfl
   have Z:S (m.setCell ⟨d,0,none⟩ (.slice (some ⟨n,0,none⟩) (z+1) j)):=by show(m.setCell _ _).cell? ⟨O,2,none⟩=_;rw[Eg _ _ _ _ (fun e=>a9 (Ej Addr.block e).symm)];exact y
   refine aA (o:=⟨none,.store 24 (.tmp 21) (.tmp 19),_,_,_,none⟩) rfl rfl (ar 24 (.tmp 21) (.tmp 19) rfl ⟨d,0,none⟩ (.slice (some ⟨n,0,none⟩) (z+1) j) rfl rfl (ah Y (CN m d 0 _ _ u) (by kernel_rfl) rfl)) ⟨Z,?_⟩;simp only[Act.put];refine dn ?_;have HE:Hid (cV w M d s (.returned (.bool true)) (m.setCell ⟨d,0,none⟩ (.slice (some ⟨n,0,none⟩) (z+1) j))):=by obtain⟨R,U,e1,e2⟩:=a5 n j m F f G a6 u;exact⟨R,U,rfl,e1,e2⟩
   clear Z y Y u F f G a5 af ai a3 J K A v E a4 hS a2 a1 a0 x I i P H;go_wp2;go_ret;exact HE.out
  ·skip;refine ak (o:=⟨some 18,.buildSlice 24 1 #[(0,.tmp 17)],_,_,_,none⟩) rfl rfl (aS 24 1 #[(0,.tmp 17)] rfl #[(0,.int .i64 a)] (by simp[Act.eval]) a3) ⟨E,?_⟩;simp only[Act.put,aC,aB,aE];refine cj 4 ?_;refine ak (o:=⟨some 15,.load 24 (.tmp 14),_,_,_,none⟩) rfl rfl (aL 24 (.tmp 14) rfl ⟨d,0,none⟩ rfl ai) ⟨E,?_⟩;simp only[Act.put,aC,aB,aE];refine cj 8 ?_;refine cA (o:=⟨some 19,.call {callee:= .builtin .append,args:=#[.tmp 15,.tmp 18],argTypes:=#[24,24]},_,_,_,none⟩) rfl rfl ?_;refine Ek _ (.tmp 15) (.tmp 18) 24 rfl M 3 ab (.int .i64 0) 1 8 underlying24 ad ae Q ap rfl (by decide) D z N rfl A ⟨W.heap.size,0,none⟩ 1 1 [.int .i64 a] rfl rfl v (by simp[Value.oneCell']) (by decide) (by unfold maxLen;omega) (by omega) a4 _ rfl ?_;intro n j m F f G a6;have y:S m:=by show m.cell? ⟨O,2,none⟩=_;rw[f.cell_far ⟨O,2,none⟩ (by simp;omega) (fun e=>a2 _ e.symm rfl)];exact E
   refine⟨y,?_⟩;refine d4 9 20 11 (.pointer (some ⟨d,0,none⟩)) rfl y ?_;refine bT 10 21 80 20 0 (.pointer (some ⟨d,0,none⟩)) rfl y ?_;simp only[Act.put,aC,aB,aE];refine cj 11 ?_;have u:m.heap[d]?=some (.cells #[kv,rv,sv,dv,fv] 80 (0,0)):=by rw[f.block d (lt_of_heap K) (fun e=>a1 _ e.symm rfl)];exact K
   have Y:m.cell? ⟨d,0,none⟩=some D:=by rw[Cn m d 0 _ _ _ u,HV.out];rfl
   have Z:S (m.setCell ⟨d,0,none⟩ (.slice (some ⟨n,0,none⟩) (z+1) j)):=by show(m.setCell _ _).cell? ⟨O,2,none⟩=_;rw[Eg _ _ _ _ (fun e=>a9 (Ej Addr.block e).symm)];exact y
   refine aA (o:=⟨none,.store 24 (.tmp 21) (.tmp 19),_,_,_,none⟩) rfl rfl (ar 24 (.tmp 21) (.tmp 19) rfl ⟨d,0,none⟩ (.slice (some ⟨n,0,none⟩) (z+1) j) rfl rfl (ah Y (CN m d 0 _ _ u) (by kernel_rfl) rfl)) ⟨Z,?_⟩;simp only[Act.put];refine dn ?_;have HE:Hid (cV w M d s (.returned (.bool true)) (m.setCell ⟨d,0,none⟩ (.slice (some ⟨n,0,none⟩) (z+1) j))):=by obtain⟨R,U,e1,e2⟩:=a5 n j m F f G a6 u;exact⟨R,U,rfl,e1,e2⟩
   clear Z y Y u F f G a5 af ai a3 J K A v E a4 hS a2 a1 a0 x I i P H;go_wp2;go_ret;exact HE.out
theorem pi{w:World}{R d s:Nat}{qs:List DQ}{fs:List Bool}(h:dm w R d s qs fs)(hs:s<99000)(X a b:Int)(S T:ByteArray)(az: -9223372036854775808≤a)(aD:a≤9223372036854775807):Calls prog 49 #[.pointer (some ⟨d,0,none⟩),.agg (fe 3 X a b S T)] w fun e w'=>cV w R d s e w':=by
 have an:=h.size;obtain⟨kv,rv,sv,dv,fv,k,r,st,ao,aF,ch,aG,hI,aH,hk,hr,aW,hm,aI,F⟩:=h;unfold fe;obtain⟨G,HV⟩:=aw rv;obtain⟨C,ap⟩:=aw r;obtain⟨K,HX⟩:=aw aF;have aX:C≤s:=by rw[ap.out];assumption
 go_enter func49,ntmps49;go_wp2_with fail
 ·have aK:=zl;obtain⟨W,HW⟩:=aw ((w.alloc (.cells #[.int .i64 3,.int .i64 X,.int .i64 a,.int .i64 b,.string S,.string T] 74)).drew);obtain⟨O,HO⟩:=aw w.heap.size;have L:Fr (fun _=>False) w W:=by rw[HW.out];exact((Fr.refl _ _).alloc _).drew
  have i:=hI.frz L;have U:=fun q hq=>(aI q hq).frz L;have M:W.heap[O]?=some (.cells #[.int .i64 3,.int .i64 X,.int .i64 a,.int .i64 b,.string S,.string T] 74 (0,0)):=by rw[HW.out,HO.out];exact aa _ _
  have aY:=lt_of_heap M;have aM:=Ct an L.size;have y:W.ownsRow R 3 1 G C K:=by rw[HV.out,ap.out,HX.out];exact i.hr
  have a2:W.cell? ⟨d,1,none⟩=some G:=by rw[HV.out];exact i.c1
  have ad:O≠d:=by intro e;subst e;have:=i.hw.symm.trans M;simp at this
  have a3:∀b,G.ownBlock=some b→b=d→False:=by
   intro b l e;subst e;rcases y.2 with⟨rfl,_⟩|⟨g,j,aq,rfl,_,hg,_⟩
   ·simp[Value.ownBlock]at l
   ·simp only[Value.ownBlock,Cu]at l;subst l;have:=i.hw.symm.trans hg;simp at this
  have a4:∀b,G.ownBlock=some b→b=O→False:=by
   intro b l e;subst e;rcases y.2 with⟨rfl,_⟩|⟨g,j,aq,rfl,_,hg,_⟩
   ·simp[Value.ownBlock]at l
   ·simp only[Value.ownBlock,Cu]at l;subst l;have:=M.symm.trans hg;simp at this
  let S:World→Prop:=fun w'=>w'.cell? ⟨O,2,none⟩=some (.int .i64 a)
  have hS:S W:=by show W.cell? _=_;rw[Cn W O 2 _ _ _ M];rfl
  obtain⟨ae,af,ai,V,au⟩:=Dn lX;have aj:(Instr.loadAt 24 (.pointer (some ⟨d,1,none⟩))).run prog W= .ok G W:=aJ a2 underlying24 rfl;have a5:(Instr.buildSlice 24 1 #[(0,.int .i64 a)]).run prog W= .ok (.slice (some ⟨W.heap.size,0,none⟩) 1 1) (W.alloc (.cells #[.int .i64 a] 3)):=cw W 24 3 ae _ _ underlying24 af ai (by rw[V];rfl) (by rw[V];decide) (by rw[V];decide);have N:Fr (fun _=>False) W (W.alloc (.cells #[.int .i64 a] 3)):=(Fr.refl _ _).alloc _;have P:=N.keep i.hw id;have al:(Instr.loadAt 24 (.pointer (some ⟨d,1,none⟩))).run prog (W.alloc (.cells #[.int .i64 a] 3))= .ok G (W.alloc (.cells #[.int .i64 a] 3)):=aJ (N.cell a2 id) underlying24 rfl;have D:=y.alloc (.cells #[.int .i64 a] 3);have x:=CZ (w:=W.alloc (.cells #[.int .i64 a] 3)) (B:=W.heap.size) (aa W (.cells #[.int .i64 a] 3));have H:S (W.alloc (.cells #[.int .i64 a] 3)):=N.cell (p:=⟨O,2,none⟩) hS id;have a6:R≤(W.alloc (.cells #[.int .i64 a] 3)).heap.size:=by simp;omega
  have a7:∀(n j:Nat) (m:World),m.ownsRow R 3 1 (.slice (some ⟨n,0,none⟩) (C+1) j) (C+1) (K++[.int .i64 a])→(W.alloc (.cells #[.int .i64 a] 3)).grownBy m G.ownBlock→(G.ownBlock=some n∨n=(W.alloc (.cells #[.int .i64 a] 3)).heap.size)→n<m.heap.size→m.heap[d]?=some (.cells #[kv,rv,sv,dv,fv] 80 (0,0))→∃Y Z,dm (m.setCell ⟨d,1,none⟩ (.slice (some ⟨n,0,none⟩) (C+1) j)) R d (s+2) Y Z∧Below R w (m.setCell ⟨d,1,none⟩ (.slice (some ⟨n,0,none⟩) (C+1) j)):=by
   intro n j m I f J a8 u;have aN:=(N.mono (fun _ _ h=>h.elim)).grown f (fun b _ l=>l);have Q:Fr (fun b=>b=d∨G.ownBlock=some b) W (m.setCell ⟨d,1,none⟩ (.slice (some ⟨n,0,none⟩) (C+1) j)):=Fr.setCell (S:=fun b=>b=d∨G.ownBlock=some b) (aN.mono (fun _ _ h=>Or.inr h)) ⟨d,1,none⟩ (fun _=>Or.inl rfl) _;have aO:∀b c t,W.heap[b]?=some (.cells c t (0,0))→G.ownBlock=some b→t=3:=by
    intro b c t l E;rcases y.2 with⟨rfl,_⟩|⟨g,aV,aq,rfl,_,hg,_⟩
    ·simp[Value.ownBlock]at E
    ·simp only[Value.ownBlock,Cu]at E;subst E;rw[l]at hg;simp at hg;exact hg.2
   have av:G.ownBlock=some n∨W.heap.size≤n:=by
    rcases J with e|e
    ·exact .inl e
    ·right;simp at e;omega
   have a9:∀{e':Nat},e'≠3→e'≠80→∀b c,W.heap[b]?=some (.cells c e' (0,0))→¬(b=d∨G.ownBlock=some b):=by
    rintro e' aP aQ b c l (rfl|E)
    ·rw[i.hw]at l;simp at l;exact aQ l.2.symm
    ·exact aP (aO b c e' l E)
   have ax:(m.setCell ⟨d,1,none⟩ (.slice (some ⟨n,0,none⟩) (C+1) j)).ownsRow R 3 1 kv k ao:=aU i.hk Q (by
    rintro b c l ab (rfl|E)
    ·rw[i.hw]at l;simp at l
    ·exact i.ne b ab (by rw[←HV.out];exact E))
   have aR:∀b,kv.ownBlock=some b→(Value.slice (some ⟨n,0,none⟩) (C+1) j).ownBlock≠some b:=by
    intro b ab l;simp only[Value.ownBlock,Cu]at l;subst l;rcases av with e|e
    ·exact i.ne n ab (by rw[←HV.out];exact e)
    ·have:=(i.hk.lt n ab).2;omega
   have aT:∀v∈K++[.int .i64 a],v.oneCell'=true:=by
    intro v E;rcases Cv.1 E with E|E
    ·rw[HX.out]at E;exact i.ro v E
    ·rw[Db.1 E];rfl
   refine⟨qs,fs,⟨kv,(.slice (some ⟨n,0,none⟩) (C+1) j),sv,dv,fv,k,C+1,st,ao,K++[.int .i64 a],ch,aG,⟨ag m d 1 _ _ _ u,ax,bU u (by decide) I,aU i.hs Q (fun b c l _=>a9 (by decide) (by decide) b c l),aU i.hd Q (fun b c l _=>a9 (by decide) (by decide) b c l),aU i.hf Q (fun b c l _=>a9 (by decide) (by decide) b c l),aR,aT,i.so,i.w0⟩,aH,by omega,by omega,by omega,by omega,fun q hq=>((U q hq).fr Q ?_ ?_).mono (by omega),⟨F.pw,F.fx,?_,fun q hq b l=>⟨(F.kr q hq b l).1,fun e=>?_⟩,F.kx,F.fl⟩⟩,(bH L an).trans (Q.below aM ?_)⟩
   ·rintro b l (rfl|E)
    ·exact(U q hq).notW i.hw (.inl rfl) l
    ·exact(F.kr q hq b l).2 (by rw[←HV.out];exact E)
   ·exact fun b c hc=>a9 (by decide) (by decide) b c hc
   ·obtain⟨rl,e1,e2⟩:=F.rx;refine⟨rl++[a],by rw[HX.out,e1];simp,?_,fun z hz=>?_⟩
    ·have h1:=i.hr.1;rw[e1,CR]at h1;rw[Cr,CM];omega
    ·rcases Cv.1 hz with hz|hz
     ·exact e2.2 z hz
     ·rw[Db.1 hz];exact⟨az,aD⟩
   ·simp only[Value.ownBlock,Cu]at e;subst e;rcases av with e|e
    ·exact(F.kr q hq n l).2 (by rw[←HV.out];exact e)
    ·have:=(U q hq).lt l;omega
   ·rintro b (rfl|E)
    ·exact i.w0
    ·exact(y.lt b E).1
  rw[←HO.out];refine dZ S HW ?_;refine bM 0 29 0 (.pointer (some ⟨d,0,none⟩)) rfl hS ?_;refine bM 1 30 0 (.pointer (some ⟨d,0,none⟩)) rfl hS ?_;refine d4 2 31 30 (.pointer (some ⟨d,0,none⟩)) rfl hS ?_;refine bT 3 32 80 31 1 (.pointer (some ⟨d,1,none⟩)) rfl hS ?_;refine bT 5 34 74 3 2 (.pointer (some ⟨O,2,none⟩)) rfl hS ?_;refine cU 6 35 3 34 (.int .i64 a) ⟨O,2,none⟩ rfl (fun _ hs=>hs) underlying3 hS ?_;simp only[Act.put,aC,aB,aE];refine Eh (rs:=[4,7]) (by kernel_rfl) (by simp) ?_;intro i4 ay;simp only[CF,Dy,EF]at ay;rcases ay with rfl|rfl
  ·skip;refine ak (o:=⟨some 33,.load 24 (.tmp 32),_,_,_,none⟩) rfl rfl (aL 24 (.tmp 32) rfl ⟨d,1,none⟩ rfl aj) ⟨hS,?_⟩;simp only[Act.put,aC,aB,aE];refine cj 7 ?_;refine ak (o:=⟨some 36,.buildSlice 24 1 #[(0,.tmp 35)],_,_,_,none⟩) rfl rfl (aS 24 1 #[(0,.tmp 35)] rfl #[(0,.int .i64 a)] (by simp[Act.eval]) a5) ⟨H,?_⟩;simp only[Act.put,aC,aB,aE];refine cj 8 ?_;refine cA (o:=⟨some 37,.call {callee:= .builtin .append,args:=#[.tmp 33,.tmp 36],argTypes:=#[24,24]},_,_,_,none⟩) rfl rfl ?_;refine Ek _ (.tmp 33) (.tmp 36) 24 rfl R 3 ae (.int .i64 0) 1 8 underlying24 af ai V au rfl (by decide) G C K rfl D ⟨W.heap.size,0,none⟩ 1 1 [.int .i64 a] rfl rfl x (by simp[Value.oneCell']) (by decide) (by unfold maxLen;omega) (by omega) a6 _ rfl ?_;intro n j m I f J a8;have A:S m:=by show m.cell? ⟨O,2,none⟩=_;rw[f.cell_far ⟨O,2,none⟩ (by simp;omega) (fun e=>a4 _ e.symm rfl)];exact H
   refine⟨A,?_⟩;refine d4 9 38 29 (.pointer (some ⟨d,0,none⟩)) rfl A ?_;refine bT 10 39 80 38 1 (.pointer (some ⟨d,1,none⟩)) rfl A ?_;simp only[Act.put,aC,aB,aE];refine cj 11 ?_;have u:m.heap[d]?=some (.cells #[kv,rv,sv,dv,fv] 80 (0,0)):=by rw[f.block d (lt_of_heap P) (fun e=>a3 _ e.symm rfl)];exact P
   have a0:m.cell? ⟨d,1,none⟩=some G:=by rw[Cn m d 1 _ _ _ u,HV.out];rfl
   have a1:S (m.setCell ⟨d,1,none⟩ (.slice (some ⟨n,0,none⟩) (C+1) j)):=by show(m.setCell _ _).cell? ⟨O,2,none⟩=_;rw[Eg _ _ _ _ (fun e=>ad (Ej Addr.block e).symm)];exact A
   refine aA (o:=⟨none,.store 24 (.tmp 39) (.tmp 37),_,_,_,none⟩) rfl rfl (ar 24 (.tmp 39) (.tmp 37) rfl ⟨d,1,none⟩ (.slice (some ⟨n,0,none⟩) (C+1) j) rfl rfl (ah a0 (CN m d 1 _ _ u) (by kernel_rfl) rfl)) ⟨a1,?_⟩;simp only[Act.put];refine dn ?_;have HE:Hid (cV w R d s (.returned (.bool true)) (m.setCell ⟨d,1,none⟩ (.slice (some ⟨n,0,none⟩) (C+1) j))):=by obtain⟨Y,Z,e1,e2⟩:=a7 n j m I f J a8 u;exact⟨Y,Z,rfl,e1,e2⟩
   clear a1 A a0 u I f J a7 aj al a5 N P D x H a6 hS a4 a3 a2 y M i U L;go_wp2;go_ret;exact HE.out
  ·skip;refine ak (o:=⟨some 36,.buildSlice 24 1 #[(0,.tmp 35)],_,_,_,none⟩) rfl rfl (aS 24 1 #[(0,.tmp 35)] rfl #[(0,.int .i64 a)] (by simp[Act.eval]) a5) ⟨H,?_⟩;simp only[Act.put,aC,aB,aE];refine cj 4 ?_;refine ak (o:=⟨some 33,.load 24 (.tmp 32),_,_,_,none⟩) rfl rfl (aL 24 (.tmp 32) rfl ⟨d,1,none⟩ rfl al) ⟨H,?_⟩;simp only[Act.put,aC,aB,aE];refine cj 8 ?_;refine cA (o:=⟨some 37,.call {callee:= .builtin .append,args:=#[.tmp 33,.tmp 36],argTypes:=#[24,24]},_,_,_,none⟩) rfl rfl ?_;refine Ek _ (.tmp 33) (.tmp 36) 24 rfl R 3 ae (.int .i64 0) 1 8 underlying24 af ai V au rfl (by decide) G C K rfl D ⟨W.heap.size,0,none⟩ 1 1 [.int .i64 a] rfl rfl x (by simp[Value.oneCell']) (by decide) (by unfold maxLen;omega) (by omega) a6 _ rfl ?_;intro n j m I f J a8;have A:S m:=by show m.cell? ⟨O,2,none⟩=_;rw[f.cell_far ⟨O,2,none⟩ (by simp;omega) (fun e=>a4 _ e.symm rfl)];exact H
   refine⟨A,?_⟩;refine d4 9 38 29 (.pointer (some ⟨d,0,none⟩)) rfl A ?_;refine bT 10 39 80 38 1 (.pointer (some ⟨d,1,none⟩)) rfl A ?_;simp only[Act.put,aC,aB,aE];refine cj 11 ?_;have u:m.heap[d]?=some (.cells #[kv,rv,sv,dv,fv] 80 (0,0)):=by rw[f.block d (lt_of_heap P) (fun e=>a3 _ e.symm rfl)];exact P
   have a0:m.cell? ⟨d,1,none⟩=some G:=by rw[Cn m d 1 _ _ _ u,HV.out];rfl
   have a1:S (m.setCell ⟨d,1,none⟩ (.slice (some ⟨n,0,none⟩) (C+1) j)):=by show(m.setCell _ _).cell? ⟨O,2,none⟩=_;rw[Eg _ _ _ _ (fun e=>ad (Ej Addr.block e).symm)];exact A
   refine aA (o:=⟨none,.store 24 (.tmp 39) (.tmp 37),_,_,_,none⟩) rfl rfl (ar 24 (.tmp 39) (.tmp 37) rfl ⟨d,1,none⟩ (.slice (some ⟨n,0,none⟩) (C+1) j) rfl rfl (ah a0 (CN m d 1 _ _ u) (by kernel_rfl) rfl)) ⟨a1,?_⟩;simp only[Act.put];refine dn ?_;have HE:Hid (cV w R d s (.returned (.bool true)) (m.setCell ⟨d,1,none⟩ (.slice (some ⟨n,0,none⟩) (C+1) j))):=by obtain⟨Y,Z,e1,e2⟩:=a7 n j m I f J a8 u;exact⟨Y,Z,rfl,e1,e2⟩
   clear a1 A a0 u I f J a7 aj al a5 N P D x H a6 hS a4 a3 a2 y M i U L;go_wp2;go_ret;exact HE.out
theorem sS:(prog.info? 105).map (fun i=>(i.zero,i.size,i.bytes))=some (some (.pointer none),1,8):=by kernel_rfl
theorem vS:(prog.info? 4).map (fun i=>(i.zero,i.size,i.bytes))=some (some (.bool false),1,1):=by kernel_rfl
theorem rX(A a n:Nat)(w:World):(Instr.build 111 #[(0,.pointer (some ⟨A,0,none⟩)),(1,.pointer (some ⟨a,0,none⟩)),(2,.int .i64 n),(3,.bool true)]).run prog w= .ok (.agg (lc A a n true (.pointer none) 0 0 (.slice none 0 0))) w:=by kernel_rfl
theorem xu(A a n:Nat)(w:World):(Instr.box 111 (.agg (lc A a n true (.pointer none) 0 0 (.slice none 0 0)))).run prog w= .ok (.pointer (some ⟨w.heap.size,0,none⟩)) (w.alloc (.cells (lc A a n true (.pointer none) 0 0 (.slice none 0 0)) 111)):=rfl
section
variable{P:Program}{ρ:Operand→Value}{o:Oper}{w w':World}{v:Value}
theorem rP(t:TypeId)(b:Array (Nat×Operand))(d:o.op= .build t b)(c:Array (Nat×Value))(a:(b.map fun(i,x)=>(i,ρ x))=c)(e:(Instr.build t c).run P w= .ok v w'):(execOp ρ o).run P w= .ok (.value v) w':=by simp only[execOp,d,a,D9,e,CS,Du]
theorem yu(t:TypeId)(x:Operand)(a:o.op= .box t x){u:Value}(b:ρ x=u)(c:(Instr.box t u).run P w= .ok v w'):(execOp ρ o).run P w= .ok (.value v) w':=by simp only[execOp,a,b,D9,c,CS,Du]
end
def q9(D A B a n:Nat)(b:Value):DQ:=⟨D,A,if n=0 then A else B,a,n,true,false,none,0,0,false,.slice none 0 0,[],false,fun _=>False,fun _=>False,iB a (.slice none 0 0) (.slice none 0 0) b⟩
theorem zd{w:World}{c k s D A B e n:Nat}{f:Value}{l:List Int}(E:aH w D A e n true false (.pointer none) 0 0 false (.slice none 0 0))(m:ij w A B n (.slice none 0 0) 0 0)(d:cD w B n (List.replicate (n*128) (.int .u8 0)))(a:w.heap[e]?=some (.cells #[.slice none 0 0,.slice none 0 0,f,.int .i64 0] 48 (0,0)))(g:w.ownsRow k 3 1 f l.length (l.map fun x=>Value.int .i64 x))(q:k≤w.heap.size)(F:c≤k)(t:rj l)(G:n<1000)(H:1<c)(R:c≤D)(I:c≤A)(J:c≤B)(T:c≤e):cG w c s (q9 D A B e n f):=by
 have i:mX w s e (iB e (.slice none 0 0) (.slice none 0 0) f) []:=⟨l,⟨[],[],0⟩,k,t,⟨q,_,_,_,⟨a,CT _ _ _ _,CT _ _ _ _,g⟩,fun _=>Iff.rfl⟩,rfl,CH _,CH _,CH _⟩;have j:∀b,(q9 D A B e n f).S b→c≤b:=by
  rintro b (h|h|h|h|h|h|h|⟨r,u,_⟩)
  ·have h:b=D:=h;omega
  ·have h:b=A:=h;omega
  ·have h:b=if n=0 then A else B:=h
   split at h<;>omega
  ·exact h.elim
  ·exact h.elim
  ·rcases h with h|h|h|h
   ·omega
   ·cases h
   ·cases h
   ·have:=(g.lt b h).1;omega
  ·cases h
  ·cases u
 by_cases y:n=0
 ·subst y;exact⟨E,.inl ⟨rfl,rfl,⟨_,_,_,_,_,_,_,_,m,DL _,by omega,DL _,by omega⟩,rfl,fun _ h=>h⟩,⟨[],i⟩,LG.nil _ _,CH _,(fun r d=>by cases d),(fun r d=>by cases d),.nil,fun _ h=>h.elim,fun _ h=>h.elim,j,G⟩
 ·have K:(q9 D A B e n f).B=B:=Cz y;have L:=lt_of_heap m;have z:bi w A B n c (.slice none 0 0) ⟨⟨0,0,0,-1,0,0,n⟩,[],List.replicate (n*128) (.int .u8 0)⟩:=⟨aP.of m,d,⟨CT _ _ _ _,by show(0:Nat)<_;omega,(fun p a=>absurd a (by simp)),(fun p a=>absurd a (by simp)),(fun p a=>absurd a (by simp))⟩,by omega,Cs _⟩;have M:eQ (List.replicate (n*128) (Value.int .u8 0)):=fun v N=>by rw[(D6.1 N).2];exact⟨0,by decide,rfl⟩
  have O:aI (List.replicate (n*128) (Value.int .u8 0)) 0=zB:=by unfold aI zB;rw[F5,D2,List.take_replicate];congr 1;omega
  have C:P1 n ⟨⟨0,0,0,-1,0,0,n⟩,[],List.replicate (n*128) (.int .u8 0)⟩:=⟨⟨by show(List.replicate (n*128) (Value.int .u8 0)).length=n*128;simp,Cs _,M,fun p a=>absurd a (by simp)⟩,O,fun p a=>absurd a (by simp)⟩;refine⟨E,.inr ⟨y,⟨⟨0,0,0,-1,0,0,n⟩,[],List.replicate (n*128) (.int .u8 0)⟩,[],?_,fun _=>⟨⟨cK,CH _,.inr ⟨rfl,.inl C⟩⟩,.inl rfl⟩,fun _=>rfl⟩,⟨[],i⟩,LG.nil _ _,CH _,(fun r d=>by cases d),(fun r d=>by cases d),.nil,fun _ h=>h.elim,fun _ h=>h.elim,j,G⟩;rw[K];exact⟨⟨DL _,by show(0:Int)≤_;omega,DL _,by show(0:Int)≤_;omega,DL _,by show(0:Int)≤_;omega,CH _⟩,c,_,z,(fun b Q=>by cases Q),H,I,J⟩
theorem dm.disk{w J:World}{A f s:Nat}{V W sv R K:Value}{k r st:Nat}{L M B:List Value}{ch:List SS}{a:List DQ}{fs:List Bool}{q:DQ}(m:WI J A f V W sv R K k r st a.length L M (an ch) (a.map DQ.D) B)(hk:k≤s)(hr:r≤s)(a4:ch.length=st)(aq:st≤s)(hm:a.length≤s)(a5:∀q∈a,cG J A s q)(C:C6 V W L M B a fs)(ar:fs.length=a.length)(hq:cG J A s q)(a6:q.x=none)(a7:∀b,q.S b→V.ownBlock≠some b∧W.ownBlock≠some b)(a8:∀p∈a,Bp p q)(hB:Below A w J)(d:A≤J.heap.size){N Q:World}{F i gm T:Nat}(a9:N.ownsRow A 105 1 (.slice (some ⟨F,0,none⟩) (a.length+1) i) (a.length+1) ((a.map DQ.D).map (fun D=>Value.pointer (some ⟨D,0,none⟩))++[.pointer (some ⟨q.D,0,none⟩)]))(aa:(J.alloc (.cells #[.pointer (some ⟨q.D,0,none⟩)] 105)).grownBy N R.ownBlock)(ab:Q.ownsRow A 4 1 (.slice (some ⟨gm,0,none⟩) (a.length+1) T) (a.length+1) (B++[.bool false]))(Y:((N.setCell ⟨f,3,none⟩ (.slice (some ⟨F,0,none⟩) (a.length+1) i)).alloc (.cells #[.bool false] 4)).grownBy Q K.ownBlock):Q.cell? ⟨f,4,none⟩=some K∧Q.frozen? ⟨f,4,none⟩=false∧Hid (cV w A f s (.returned (.bool true)) (Q.setCell ⟨f,4,none⟩ (.slice (some ⟨gm,0,none⟩) (a.length+1) T))):=by
 have cn:∀{w:World} {e size n:Nat} {v:Value} {xs:List Value},w.ownsRow A e size v n xs→∀b c t,w.heap[b]?=some (.cells c t (0,0))→v.ownBlock=some b→t=e:=by
  intro w e size n v xs h b c t d l;rcases h.2 with⟨rfl,_⟩|⟨g,ap,au,rfl,_,hg,_⟩
  ·simp[Value.ownBlock]at l
  ·simp only[Value.ownBlock,Cu]at l;subst l;rw[d]at hg;simp at hg;exact hg.2
 have Z:=(((Fr.refl _ _).alloc _)).grown aa (fun b _ h=>h);have u:=cn m.hd;have G:=cn m.hf;have ad:∀{e:Nat},e≠105→∀b c,J.heap[b]?=some (.cells c e (0,0))→¬R.ownBlock=some b:=fun he b c d l=>he (u b c _ d l);have a0:=Z.keep m.hw (ad (by decide) _ _ m.hw);have av:WI (N.setCell ⟨f,3,none⟩ (.slice (some ⟨F,0,none⟩) (a.length+1) i)) A f V W sv (.slice (some ⟨F,0,none⟩) (a.length+1) i) K k r st a.length L M (an ch) (a.map DQ.D) B→True:=fun _=>trivial;have a1:Fr (fun b=>b=f∨R.ownBlock=some b) J (N.setCell ⟨f,3,none⟩ (.slice (some ⟨F,0,none⟩) (a.length+1) i)):=Fr.setCell (S:=fun b=>b=f∨R.ownBlock=some b) (Z.mono (fun _ _ h=>Or.inr h)) ⟨f,3,none⟩ (fun _=>Or.inl rfl) _;have H:=Fr.grown (S:=fun b=>b=f∨R.ownBlock=some b∨K.ownBlock=some b) ((a1.mono (fun b _ h=>by rcases h with h|h;exact .inl h;exact .inr (.inl h))).alloc _) Y (fun b _ h=>Or.inr (Or.inr h));have O:∀{e:Nat},e≠105→e≠4→e≠80→∀b c,J.heap[b]?=some (.cells c e (0,0))→¬(b=f∨R.ownBlock=some b∨K.ownBlock=some b):=by
  rintro e ae af ah b c d (rfl|l|l)
  ·rw[m.hw]at d;simp at d;exact ah d.2.symm
  ·exact ae (u b c _ d l)
  ·exact af (G b c _ d l)
 have a2:(N.setCell ⟨f,3,none⟩ (.slice (some ⟨F,0,none⟩) (a.length+1) i)).heap[f]?=some (.cells #[V,W,sv,.slice (some ⟨F,0,none⟩) (a.length+1) i,K] 80 (0,0)):=ag N f 3 _ _ _ a0;have ai:(N.setCell ⟨f,3,none⟩ (.slice (some ⟨F,0,none⟩) (a.length+1) i)).ownsRow A 105 1 (.slice (some ⟨F,0,none⟩) (a.length+1) i) (a.length+1) ((a.map DQ.D).map (fun D=>Value.pointer (some ⟨D,0,none⟩))++[.pointer (some ⟨q.D,0,none⟩)]):=bU a0 (by decide) a9;have aj:(N.setCell ⟨f,3,none⟩ (.slice (some ⟨F,0,none⟩) (a.length+1) i)).ownsRow A 4 1 K a.length B:=aU m.hf a1 (by
  rintro b c d l (rfl|hd)
  ·rw[m.hw]at d;simp at d
  ·have:=u b c _ d hd;simp at this)
 have z:=cn aj;have a3:=Fr.grown (S:=fun b=>K.ownBlock=some b) ((Fr.refl _ _).alloc _) Y (fun b _ h=>h);have y:=a3.keep a2 (fun l=>by have:=z _ _ _ a2 l;simp at this);have ak:=aU ai a3 (fun b c d _ l=>by have:=z _ _ _ d l;simp at this);refine⟨by rw[Cn Q f 4 _ _ _ y];rfl,CN Q f 4 _ _ y,a++[q],fs++[false],rfl,⟨V,W,sv,.slice (some ⟨F,0,none⟩) (a.length+1) i,.slice (some ⟨gm,0,none⟩) (a.length+1) T,k,r,st,L,M,ch,B++[.bool false],?_,a4,by omega,by omega,by omega,by simp;omega,?_,⟨?_,by rw[C.fx];simp,C.rx,?_,C.kx,?_⟩⟩,?_⟩
 ·have el:(a++[q]).length=a.length+1:=by simp
  have em:(a++[q]).map DQ.D=a.map DQ.D++[q.D]:=by simp
  rw[el,em];refine⟨ag Q f 4 _ _ _ y,bU y (by decide) (aU m.hk H (fun b c d _=>O (by decide) (by decide) (by decide) b c d)),bU y (by decide) (aU m.hr H (fun b c d _=>O (by decide) (by decide) (by decide) b c d)),bU y (by decide) (aU m.hs H (fun b c d _=>O (by decide) (by decide) (by decide) b c d)),?_,bU y (by decide) ab,m.ne,m.ro,m.so,m.w0⟩;rw[CV];exact bU y (by decide) ak
 ·intro p E;have I:cG J A s p:=by
   rcases Cv.1 E with E|E
   ·exact a5 p E
   ·rw[Db.1 E];exact hq
  refine((I.fr H ?_ (fun b c X=>O (by decide) (by decide) (by decide) b c X)).setW y _ _).mono (by omega);intro b d hS;obtain⟨c,t,X,ht⟩:=I.ty d;rcases hS with rfl|l|l
  ·exact I.notW m.hw (.inl rfl) d
  ·exact I.notW X (.inr (.inr (.inl (u b c _ X l)))) d
  ·exact I.notW X (.inr (.inr (.inr (.inl (G b c _ X l))))) d
 ·rw[Dt];exact⟨C.pw,List.pairwise_singleton _ _,fun p E q' al=>by rw[Db.1 al];exact a8 p E⟩
 ·intro p E b d;rcases Cv.1 E with E|E
  ·exact C.kr p E b d
  ·rw[Db.1 E]at d;exact a7 b d
 ·intro j p U hx;by_cases ao:j<a.length
  ·rw[CI ao]at U;rw[CI (by omega)];exact C.fl j p U hx
  ·rw[CG (by omega)]at U;have:=(Co.1 U).1;simp at this;rw[this]at U;simp at U;subst U;exact absurd a6 hx
 ·refine(hB.trans (H.below d ?_)).setCell (p:=⟨f,4,none⟩) m.w0 _;rintro b (rfl|l|l)
  ·exact m.w0
  ·exact(m.hd.lt b l).1
  ·exact(m.hf.lt b l).1
theorem sx{w:World}{y d s:Nat}{m:List DQ}{fs:List Bool}(h:dm w y d s m fs)(aW:1<y)(hs:s<100000)(X a b:Int)(S T:ByteArray):Calls prog 49 #[.pointer (some ⟨d,0,none⟩),.agg (fe 6 X a b S T)] w fun e w'=>cV w y d s e w':=by
 have aq:=h.size;obtain⟨W1,U⟩:∃W,Hid (W=w.alloc (.cells (fe 6 X a b S T) 74)):=⟨_,rfl⟩;obtain⟨O,HO⟩:=aw w.heap.size;have a1:(Instr.box 74 (.agg (fe 6 X a b S T))).run prog w= .ok (.pointer (some ⟨O,0,none⟩)) W1:=by rw[U.out,HO.out];rfl
 have aX:W1.cell? ⟨O,0,none⟩=some (.int .i64 6):=by rw[U.out,HO.out,Cn _ w.heap.size 0 _ _ _ (aa _ _)];rfl
 unfold fe at*
 go_enter func49,ntmps49;go_wp2_with (first
  |(refine cX 74 (.tmp 1) (v:= .pointer (some ⟨O,0,none⟩)) (w':=W1) rfl rfl ?_ ?_;exact a1))
 obtain⟨W,HW⟩:=aw W1.drew;have ab:Fr (fun _=>False) w W:=by rw[HW.out,U.out];exact((Fr.refl _ _).alloc _).drew
 obtain⟨kv,rv,sv,dv,fv,k,r,st,be,bf,ch,V,Q,aY,hk,hr,aZ,hm,ad,Y⟩:=h.frz ab (Cs _);have ar:W.heap[O]?=some (.cells #[.int .i64 6,.int .i64 X,.int .i64 a,.int .i64 b,.string S,.string T] 74 (0,0)):=by rw[HW.out,U.out,HO.out];exact aa _ _
 have ae:W.cell? ⟨O,2,none⟩=some (.int .i64 a):=by rw[Cn W O 2 _ _ _ ar];rfl
 have af:=Ct aq ab.size;let S:World→Prop:=fun w'=>w'.cell? ⟨O,2,none⟩=some (.int .i64 a)∧w'.cell? ⟨d,1,none⟩=some rv
 have Z:S W:=⟨ae,Q.c1⟩;have H:∀w',Fr (fun _=>False) W w'→S w':=fun w' hf=>⟨hf.cell ae id,hf.cell Q.c1 id⟩;refine dZ S HW ?_;refine bT 0 66 74 3 2 (.pointer (some ⟨O,2,none⟩)) rfl Z ?_;refine cU 1 67 3 66 (.int .i64 a) ⟨O,2,none⟩ rfl (fun _ hs=>hs.1) underlying3 Z ?_;refine bM 3 69 0 (.pointer (some ⟨d,0,none⟩)) rfl Z ?_;refine d4 4 70 69 (.pointer (some ⟨d,0,none⟩)) rfl Z ?_;refine bT 5 71 80 70 1 (.pointer (some ⟨d,1,none⟩)) rfl Z ?_;refine cU 6 72 24 71 rv ⟨d,1,none⟩ rfl (fun _ hs=>hs.2) underlying24 Z ?_;refine bT 8 74 74 3 2 (.pointer (some ⟨O,2,none⟩)) rfl Z ?_;refine cU 9 75 3 74 (.int .i64 a) ⟨O,2,none⟩ rfl (fun _ hs=>hs.1) underlying3 Z ?_;simp only[Act.put,aC,aB,aE];refine dN 2 68 39 #[.tmp 67] #[.int .i64 a] rfl ?_;refine(s9 a W).mono ?_;rintro e w2 ⟨A,B,rfl,hA,hB,au,ag,u⟩;refine⟨_,rfl,H w2 u,?_⟩;simp only[Act.put,aC,aB,aE];refine dN 7 73 18 #[.tmp 72] #[rv] rfl ?_;refine(nf (Q.frz u).hr Q.ro (by omega)).mono ?_;rintro e w3 ⟨F,lv,rfl,hP,av,I,J⟩;have n:=u.trans J fI;refine⟨_,rfl,H w3 n,?_⟩;simp only[Act.put,aC,aB,aE];refine dN 10 76 79 #[.tmp 75] #[.int .i64 a] rfl ?_;refine(vQ a w3).mono ?_;rintro e w' ⟨rfl,rfl⟩;have ah:=H w' n;refine⟨_,rfl,ah,?_⟩;simp only[Act.put,aC,aB,aE];refine eW (S:=S) (i:=11) (oi:=⟨some 77,.build 111 #[(0,.tmp 68),(1,.tmp 73),(2,.tmp 76),(3,.const (.bool true))],_,_,_,none⟩) (v:= .agg (lc A F (cR a) true (.pointer none) 0 0 (.slice none 0 0))) rfl (Or.inl ⟨rfl,fun w' _=>rP 111 _ rfl #[(0,.pointer (some ⟨A,0,none⟩)),(1,.pointer (some ⟨F,0,none⟩)),(2,.int .i64 (cR a)),(3,.bool true)] (by simp[Act.eval]) (rX A F (cR a) w')⟩) ah ?_;simp only[Act.put,aC,aB,aE];refine cj 12 ?_
 have ax:Fr (fun _=>False) W (w'.alloc (.cells (lc A F (cR a) true (.pointer none) 0 0 (.slice none 0 0)) 111)):=n.alloc _;have ai:=H _ ax;refine ak (o:=⟨some 78,.box 111 (.tmp 77),_,_,_,none⟩) rfl rfl (yu 111 (.tmp 77) rfl rfl (xu A F (cR a) w')) ⟨ai,?_⟩;refine mB 13 6 78 (.pointer (some ⟨w'.heap.size,0,none⟩)) rfl ai ?_;simp only[Act.put,aC,aB,aE];refine dn ?_;obtain⟨K,aj⟩:=aw (w'.alloc (.cells (lc A F (cR a) true (.pointer none) 0 0 (.slice none 0 0)) 111));obtain⟨D,HD⟩:=aw w'.heap.size;have ay:aH K D A F (cR a) true false (.pointer none) 0 0 false (.slice none 0 0):=by rw[aj.out,HD.out];exact aa _ _
 have l:=j9 aj;have L:=n.trans l fI;have bg:W.heap.size≤D:=by rw[HD.out];exact n.size
 have az:=(au.fr J id).fr l id;have aA:cD K B (cR a) (List.replicate (cR a*128) (.int .u8 0)):=⟨l.keep (J.keep ag.1 id) id,ag.2⟩;have aD:=l.keep av id;have a2:=aU I l (fun _ _ _ _ h=>h);have a5:=fun b R=>Ct u.size (I.lt b R).1;obtain⟨rl,M,a6⟩:=Y.rx;have a7:r=rl.length:=by have:=Q.hr.1;rw[M,CR]at this;omega
 have a8:K.ownsRow w2.heap.size 3 1 lv rl.length (rl.map fun x=>Value.int .i64 x):=by rw[←M,←a7];exact a2
 have aF:fs.length=m.length:=by have:=Q.hf.1;rw[Y.fx,CR]at this;omega
 have hq:cG K y s (q9 D A B F (cR a) lv):=zd ay az aA aD a8 (Ct J.size l.size) (Ct af u.size) a6 (tZ a) aW (by omega) (by omega) (by omega) (by have:=u.size;omega);have z:∀b,(q9 D A B F (cR a) lv).S b→W.heap.size≤b:=by
  have l5:=u.size;rintro b (h|h|h|h|h|h|h|⟨r,b1,_⟩)
  ·have h:b=D:=h;omega
  ·have h:b=A:=h;omega
  ·have h:b=if cR a=0 then A else B:=h
   split at h<;>omega
  ·exact h.elim
  ·exact h.elim
  ·rcases h with h|h|h|h
   ·omega
   ·cases h
   ·cases h
   ·exact a5 b h
  ·cases h
  ·cases b1
 have aG:∀b,(q9 D A B F (cR a) lv).S b→kv.ownBlock≠some b∧rv.ownBlock≠some b:=fun b R=>⟨fun e=>by have:=(Q.hk.lt b e).2;have:=z b R;omega,fun e=>by have:=(Q.hr.lt b e).2;have:=z b R;omega⟩;have E:=Q.frz L;have a9:=fun q hq=>(ad q hq).frz L;have aI:∀p∈m,Bp p (q9 D A B F (cR a) lv):=fun p hp b R b2=>by have:=(ad p hp).lt R;have:=z b b2;omega
 have aJ:=(bH ab aq).trans (bH L af);have b3:=Ct af L.size;have c3:=E.c3;have al:=E.hd;have aK:=E.hf;have an:=E.hw;have aL:Hid (∀{f wm:World} {G j gm ao:Nat},f.ownsRow y 105 1 (.slice (some ⟨G,0,none⟩) (m.length+1) j) (m.length+1) ((m.map DQ.D).map (fun D=>Value.pointer (some ⟨D,0,none⟩))++[.pointer (some ⟨D,0,none⟩)])→(K.alloc (.cells #[.pointer (some ⟨D,0,none⟩)] 105)).grownBy f dv.ownBlock→wm.ownsRow y 4 1 (.slice (some ⟨gm,0,none⟩) (m.length+1) ao) (m.length+1) (V++[.bool false])→((f.setCell ⟨d,3,none⟩ (.slice (some ⟨G,0,none⟩) (m.length+1) j)).alloc (.cells #[.bool false] 4)).grownBy wm fv.ownBlock→wm.cell? ⟨d,4,none⟩=some fv∧wm.frozen? ⟨d,4,none⟩=false∧Hid (cV w y d s (.returned (.bool true)) (wm.setCell ⟨d,4,none⟩ (.slice (some ⟨gm,0,none⟩) (m.length+1) ao)))):=fun x1 x2 x3 x4=>dm.disk (q:=q9 D A B F (cR a) lv) E hk hr aY aZ hm a9 Y aF hq rfl aG aI aJ b3 x1 x2 x3 x4;clear hq aG z aF a8 M a6 a7 a5 a2 I E a9 aI aJ ay az aA aD l L Z H ah ai ax au ag u J n av Q ad Y ae ar aX a1 h;rw[←aj.out,←HD.out];obtain⟨ip,aM,aN,aO,aP⟩:=Dn sS;obtain⟨ib,aQ,aR,aS,aT⟩:=Dn vS;have C:∀(G j:Nat) (f:World),(K.alloc (.cells #[.pointer (some ⟨D,0,none⟩)] 105)).grownBy f dv.ownBlock→f.cell? ⟨d,3,none⟩=some dv∧f.frozen? ⟨d,3,none⟩=false∧f.cell? ⟨d,4,none⟩=some fv∧Hid (((f.setCell ⟨d,3,none⟩ (.slice (some ⟨G,0,none⟩) (m.length+1) j)).alloc (.cells #[.bool false] 4)).ownsRow y 4 1 fv m.length V)∧y≤((f.setCell ⟨d,3,none⟩ (.slice (some ⟨G,0,none⟩) (m.length+1) j)).alloc (.cells #[.bool false] 4)).heap.size:=by
  intro G j f b4;have aV:∀b c t,K.heap[b]?=some (.cells c t (0,0))→dv.ownBlock=some b→t=105:=by
   intro b c t R hv;rcases al.2 with⟨rfl,_⟩|⟨g,bb,bh,rfl,_,hg,_⟩
   ·simp[Value.ownBlock]at hv
   ·simp only[Value.ownBlock,Cu]at hv;subst hv;rw[R]at hg;simp at hg;exact hg.2
  have ap:=(((Fr.refl _ _).alloc _)).grown b4 (fun b _ h=>h);have a0:=ap.keep an (fun hv=>by have:=aV _ _ _ an hv;simp at this);refine⟨by rw[Cn f d 3 _ _ _ a0];rfl,CN f d 3 _ _ a0,by rw[Cn f d 4 _ _ _ a0];rfl,?_,?_⟩
  ·exact(bU a0 (by decide) (aU aK ap (fun b c R _ hv=>by have:=aV _ _ _ R hv;simp at this))).alloc _
  ·have:=ap.size;simp;omega
 have HA:Hid (∀(G j:Nat) (f:World),(K.alloc (.cells #[.pointer (some ⟨D,0,none⟩)] 105)).grownBy f dv.ownBlock→f.cell? ⟨d,3,none⟩=some dv∧f.frozen? ⟨d,3,none⟩=false∧f.cell? ⟨d,4,none⟩=some fv∧Hid (((f.setCell ⟨d,3,none⟩ (.slice (some ⟨G,0,none⟩) (m.length+1) j)).alloc (.cells #[.bool false] 4)).ownsRow y 4 1 fv m.length V)∧y≤((f.setCell ⟨d,3,none⟩ (.slice (some ⟨G,0,none⟩) (m.length+1) j)).alloc (.cells #[.bool false] 4)).heap.size):=C;have b5:Hid ((K.alloc (.cells #[.pointer (some ⟨D,0,none⟩)] 105)).ownsRow y 105 1 dv m.length ((m.map DQ.D).map (fun D=>Value.pointer (some ⟨D,0,none⟩)))):=al.alloc _;clear C al aK an;go_wp2_with (first
  |(at_builtin;refine Fa _ rfl (.tmp 83) (.tmp 85) 77 rfl y 105 ip (.pointer none) 1 8 underlying77 aM aN aO aP rfl (by decide) dv m.length ((m.map DQ.D).map (fun D=>Value.pointer (some ⟨D,0,none⟩))) rfl b5.out ⟨K.heap.size,0,none⟩ 1 1 [.pointer (some ⟨D,0,none⟩)] rfl rfl ?_ ?_ (by decide) ?_ ?_ ?_ _ rfl ?_;exact CZ (cs:=#[.pointer (some ⟨D,0,none⟩)]) (aa K _);(simp[Value.oneCell']);(unfold maxLen;omega);omega;(simp;omega);intro G j f b6 N bi bj;obtain⟨a3,bk,a4,b7,b8⟩:=HA.out G j f N)
  |(at_builtin;refine Fa _ rfl (.tmp 93) (.tmp 94) 78 rfl y 4 ib (.bool false) 1 1 underlying78 aQ aR aS aT rfl (by decide) fv m.length V rfl b7.out ⟨f.heap.size,0,none⟩ 1 1 [.bool false] rfl rfl ?_ ?_ (by decide) ?_ ?_ b8 _ rfl ?_;exact CZ (cs:=#[.bool false]) (by simpa using aa (f.setCell ⟨d,3,none⟩ (.slice (some ⟨G,0,none⟩) (m.length+1) j)) (.cells #[.bool false] 4));(simp[Value.oneCell']);(unfold maxLen;omega);omega;intro gm ao wm b9 ba bc bd;obtain⟨z1,z2,z3⟩:=aL.out b6 N b9 ba))
 go_ret;exact z3.out
end Go.Proofs.YteebjgfalllbjaaGreatDoor
