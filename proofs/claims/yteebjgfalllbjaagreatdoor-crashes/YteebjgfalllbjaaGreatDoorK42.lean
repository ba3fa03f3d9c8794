import Derived.Test.YteebjgfalllbjaaGreatDoorK39
import Derived.Test.YteebjgfalllbjaaGreatDoorK40
import Derived.Test.YteebjgfalllbjaaGreatDoorK41
namespace Go.Proofs.YteebjgfalllbjaaGreatDoor
open Go.RowKit Go.Proofs.Tryz
set_option maxRecDepth 100000
set_option maxHeartbeats 8000000
section
variable{n:Nat}{nn em:Bool}{L:List RS}{f j:DS}{rs:List ba}
theorem JD.jz_nil{a:List (List Value)}(h:JD n f a)(c:f.ents=[]):JZ n f a:=by
 rcases h with h|⟨d,r,e,_,_,b,_⟩
 ·exact h
 ·rw[c]at b;cases b
theorem Jn.keep(h:Jn n nn em L f rs)(c:j.ents=f.ents)(e:j.bs=f.bs)(g:j.d.cap=f.d.cap):Jn n nn em L j rs:=by
 obtain⟨a,b,h⟩:=h;refine⟨a,b,?_⟩;rcases h with⟨i,m,p,o,q⟩|⟨i,l|⟨m,l⟩|⟨l,o⟩⟩
 ·exact .inl ⟨i,m,p.keep c e g,o,q.imp_left (fun h=>h.keep c e g)⟩
 ·exact .inr ⟨i,.inl (l.keep c e g)⟩
 ·exact .inr ⟨i,.inr (.inl ⟨m,l.keep c e g⟩)⟩
 ·exact .inr ⟨i,.inr (.inr ⟨l.keep c e g,o⟩)⟩
theorem Jn.read(h:Jn n nn em L f rs)(e:0<n)(a:nn=true→f.ents=[]):(JD n f (rs.map ba.bytes)∧(bw L rs∨(em=true∧rs=[])))∨(nn=true∧aI (bv f.bs f.ents) 0=zB):=by
 rcases h.2.2 with⟨b,g,i,d,l⟩|⟨b,c|⟨g,c⟩|⟨c,d⟩⟩
 ·exact .inl ⟨i,.inl d⟩
 ·exact .inr ⟨b,c.view e⟩
 ·refine .inr ⟨b,?_⟩;rw[a b];exact c.2.1 0 e
 ·exact .inl ⟨(c.jz (a b)).jd,d⟩
end
section
variable{w:World}{k A B n:Nat}{f:DS}{C:Nat→Prop}
theorem pB{b:Fn}{i l:Array Value}{a:Value}{d:DP}(p:Int)(c:¬p<1)(g:¬64<p)(m:aP w A B n a d)(o:n<8∨400<n):Calls prog 46 #[.iface 31 (.pointer (some ⟨A,0,none⟩)),.int .i64 p,.func b i l] w fun e h=>∃v,e= .returned (.tuple #[.pointer none,v])∧bZ h v 7∧Fr (fun _=>False) w h:=by
 have q:decide (p<1)=false:=by simpa using c
 have r:decide (64<p)=false:=by simpa using g
 go_enter func46,ntmps46;go_wp2_with fail;refine(qd m o).mono ?_;rintro e t ⟨rfl,s⟩;go_wp2_with fail;refine(cp _ 7 _).mono ?_;rintro e u ⟨rfl,rfl⟩;go_wp2;go_ret2;exact⟨_,rfl,Or.inr ⟨_,_,rfl,aa _ _,by decide⟩,s.alloc _⟩
def EV(w:World)(a:Int)(v:Value):Prop:=(a=0∧v= .nilIface)∨(a≠0∧(∃t u,v= .iface t u)∧(a=5→eT w v))
theorem bZ.ev{w:World}{v:Value}{a:Int}(h:bZ w v a)(b:a≠0∧a≠5):EV w a v:=by
 rcases h with⟨_,e⟩|⟨_,_,rfl,_⟩
 ·exact absurd e b.1
 ·exact .inr ⟨b.1,⟨_,_,rfl⟩,fun e=>absurd e b.2⟩
theorem eT.ev{w:World}{v:Value}(h:eT w v):EV w 5 v:=by obtain⟨_,_,_,rfl,_⟩:=id h;exact .inr ⟨by decide,⟨_,_,rfl⟩,fun _=>h⟩
def C0(p:Int)(nn em:Bool)(L:List RS)(rs:List ba)(h:Value)(k A B n:Nat)(f:DS)(C:Nat→Prop)(w:World)(e:Ending)(a:World):Prop:=∃g v c j,e= .returned (.tuple #[.pointer g,v])∧oQ a v c∧((g=none↔c≠0)∧EV a c v)∧DG a (k+1) A B n j C∧j.d.writes=f.d.writes∧j.ents=f.ents∧j.bs=f.bs∧j.d.cap=f.d.cap∧th p n nn c f j∧Fr (· =A) w a∧(c=0→1≤p∧p≤64∧dY n=true∧JD n j (rs.map ba.bytes)∧(bw L rs∨(em=true∧rs=[]))∧∃X F,g=some ⟨X,0,none⟩∧EG a (k+1) X A B n 0 p h (bh rs) rs j C F∧FU a F∧∀b,F b→w.heap.size≤b)
theorem xK{u:Fn}{Q R:Array Value}{nn em:Bool}{L:List RS}{rs:List ba}(h:DG w k A B n f C)(Y:k<60000)(S:cN w)(p:Int)(x:dY n=true→Jn n nn em L f rs)(J:nn=true→f.ents=[]):Calls prog 46 #[.iface 31 (.pointer (some ⟨A,0,none⟩)),.int .i64 p,.func u Q R] w fun e t=>C0 p nn em L rs (.func u Q R) k A B n f C w e t:=by
 have T:=h.monoK (DC k);obtain⟨s,r,l,K,U,y,z,D⟩:=h;by_cases o:p<1∨64<p
 ·refine(l9 p o).mono ?_;rintro e t ⟨v,rfl,a,m⟩;exact⟨none,v,8,f,rfl,a.tell,⟨by simp,a.ev (by decide)⟩,T.fr m jI jI fI,rfl,rfl,rfl,rfl,by simp[th,o],m.mono (fun _ _ h=>h.elim),(fun e=>by cases e)⟩
 ·have E:¬p<1:=fun h=>o (.inl h);have G:¬64<p:=fun h=>o (.inr h);by_cases hi:dY n=true
  ·have b:8≤n∧n≤400:=by simpa[dY]using hi
   have x:=x hi;have H:¬f.d.good→∀i,i<n→li i:=fun _ i Z=>jM (by omega);rcases x.read (by omega) J with⟨V,hm⟩|⟨M,hz⟩
   ·refine(A8 ⟨s,r,l,K,U,y,z,D⟩ V Y p (by omega) (by omega) b.1 b.2 x.1 x.2.1 H S).mono ?_;rintro e t ⟨m,⟨X,F,c,rfl,hc,W,N,hF⟩|⟨v,c,rfl,hc,a,_,ht,I⟩⟩
    ·refine⟨some ⟨X,0,none⟩,.nilIface,0,f.after c,rfl,bZ.tell (.inl ⟨rfl,rfl⟩),⟨by simp,.inl ⟨rfl,rfl⟩⟩,W.disk,(f.d.nx_calls c).2.1,rfl,rfl,f.d.nx_cap c,by simp[th,o,hi],m,fun _=>⟨by omega,by omega,hi,qy V c,hm,X,F,rfl,W,N,hF⟩⟩
    ·refine⟨none,v,5,f.after (c+1),rfl,a.tell,⟨by simp,a.ev⟩,I,(f.d.nx_calls (c+1)).2.1,rfl,rfl,f.d.nx_cap (c+1),by simp[th,o,hi,ht],m,(fun e=>by cases e)⟩
   ·refine(sr p E G K (s.q (by omega)) b.1 b.2 hz H (fun g hg e=>by have e:=e;have:=hg.le;omega) S).mono ?_;rintro e t ⟨v,rfl,O,m,a⟩;have I:DG t (k+1) A B n (f.after 1) C:=⟨s.moved (iu f 1) (by decide) (Nat.le_add_right _ _),r,l,O,U,y,z,D⟩;rcases a with a|⟨a,hb⟩
    ·exact⟨none,v,6,f.after 1,rfl,a.tell,⟨by simp,a.ev (by decide)⟩,I,(f.d.nx_calls 1).2.1,rfl,rfl,f.d.nx_cap 1,by simp[th,o,hi,M],m,(fun e=>by cases e)⟩
    ·exact⟨none,v,5,f.after 1,rfl,a.tell,⟨by simp,a.ev⟩,I,(f.d.nx_calls 1).2.1,rfl,rfl,f.d.nx_cap 1,by have:f.d.told<(f.after 1).d.told:=gu hb;simp[th,o,hi,this],m,(fun e=>by cases e)⟩
  ·have P:dY n=false:=by simpa using hi
   have b:n<8∨400<n:=by have:¬(8≤n∧n≤400):=fun e=>hi (by simp[dY,e]);omega
   refine(pB p E G K.d b).mono ?_;rintro e t ⟨v,rfl,a,m⟩;exact⟨none,v,7,f,rfl,a.tell,⟨by simp,a.ev (by decide)⟩,T.fr m jI jI fI,rfl,rfl,rfl,rfl,by simp[th,o,P],m.mono (fun _ _ h=>h.elim),(fun e=>by cases e)⟩
end
theorem uV{w:World}{k X D A B n Z:Nat}{nn em fd:Bool}{x0 Lv:Value}{x clock p:Int}{cv:Value}{L:List RS}{rs:List ba}{f:DS}{C F:Nat→Prop}{b0:Nat}(I:aH w D A Z n nn em x0 x clock fd Lv)(R:EG w k X A B n 0 p cv (bh rs) rs f C F)(J:LG w b0 Lv L)(hn:L.length≤100000)(S:∀r∈L,r.may.length≤1000000)(t:L.Pairwise (fun a b=>a.id<b.id))(y:bE rs)(K:bw L rs∨(em=true∧rs=[]))(M:em=true→f.ents=[])(T:¬(D=A∨D=B∨C D)):Calls prog 82 #[.pointer (some ⟨D,0,none⟩),.pointer (some ⟨X,0,none⟩),.int .i64 p] w fun e s=>e= .returned (.bool true)∧∃U,((U=L∧bw L rs)∨(U=[]∧rs=[]))∧iI (decide (f.ents=[])) (stOf rs) U D A Z n nn em (some ⟨X,0,none⟩) p w e s:=by
 obtain⟨ao,a1,rfl,_⟩:=aN J.o;have hd:=R.disk;have G:∀W,Fr (· =D) w W→Calls prog 34 #[.pointer (some ⟨A,0,none⟩)] W fun e s=>e= .returned (.int .i64 (f.ents.length:Nat))∧s=W:=fun W V=>(hd.fr V (fun e=>T (.inl e.symm)) (fun e=>T (.inr (.inl e.symm))) (fun b hb e=>T (.inr (.inr (e▸hb))))).pend;have a0:(bh rs).length≤200:=by have:=R.1.len;exact this.1
 have c:Calls prog 35 #[.pointer (some ⟨X,0,none⟩),.int .i64 1048576] w fun e s=>lx ((bh rs).map AS.told) w e s:=by have:=R.all 1048576;rwa[CO (by omega)]at this
 have P:=vB y;by_cases d:em=true∧bh rs=[]
 ·obtain⟨rfl,N⟩:=d;have Y:rs=[]:=by
   rcases K with K|⟨_,h⟩
   ·have Q:=(gH y).lf;have H:=(gH y).nd;rw[N]at Q H;simp at Q H;rw[←H]at Q;exact D3 (by simpa using Q)
   ·exact h
  have v:=M rfl;rw[N]at c;rw[v]at G;have:=xe (F:=stOf rs) I p c G;refine this.mono ?_;rintro e s l;refine⟨l.1,[],.inr ⟨rfl,Y⟩,?_⟩;rw[v];exact l
 ·have q:bw L rs:=by
   rcases K with K|⟨h1,h2⟩
   ·exact K
   ·exact absurd ⟨h1,by rw[h2];rfl⟩ d
  have E:=vH y q t;rw[←E]at c;have m:∀r∈L,stOf rs r.id∈r.may∧r.may.length≤1000000:=fun r hr=>⟨q.may r hr,S r hr⟩;have g:∀W,Fr (fun _=>False) w W→Calls prog 34 #[.pointer (some ⟨A,0,none⟩)] W fun e s=>e= .returned (.int .i64 (f.ents.length:Nat))∧s=W:=fun W V=>G W (V.mono (fun _ _ h=>h.elim));have z:L.length≤1000000:=by omega
  by_cases v:f.ents=[]
  ·rw[v]at g;by_cases i:ee (stOf rs) L=[]
   ·have u:em=false:=by
     cases em with
     |false=>rfl
     |true=>
      refine absurd ⟨rfl,?_⟩ d;rw[E]at i;exact List.map_eq_nil_iff.1 i
    subst u;refine(xU I J.sagas z m t P i p c g).mono ?_;rintro e s l;refine⟨l.1,L,.inl ⟨rfl,q⟩,?_⟩;rw[v];exact l
   ·refine(zM I J.sagas z m t P i p c g).mono ?_;rintro e s l;refine⟨l.1,L,.inl ⟨rfl,q⟩,?_⟩;rw[v];exact l
  ·have u:em=false:=by
    cases em with
    |false=>rfl
    |true=>exact absurd (M rfl) v
   subst u;have O:¬((f.ents.length:Nat):Int)=0:=fun e=>v (D3 (by omega));by_cases i:ee (stOf rs) L=[]
   ·refine(yz I J.sagas z m t P O i p c g).mono ?_;rintro e s l;refine⟨l.1,L,.inl ⟨rfl,q⟩,?_⟩;rw[Dl v];exact l
   ·refine(zh I J.sagas z m t P O i p c g).mono ?_;rintro e s l;refine⟨l.1,L,.inl ⟨rfl,q⟩,?_⟩;rw[Dl v];exact l
section
variable{w w':World}{f s:Nat}{q:DQ}
def Am(w:World)(s:Nat)(q:DQ):Prop:=q.fd=false∧q.clock=0∧1≤q.pause∧q.pause≤64∧dY q.n=true∧∃a b,DG w s q.A q.B q.n a q.C∧Jn q.n q.nn q.em q.L a b∧(q.nn=true→a.ents=[])∧ci false (bh b) q.L
theorem cG.ng(h:cG w f s q)(e:1<f){T:Nat→Prop}(a:∀b,T b→q.S b):NG T:=fun g c d=>by have:=h.sl g (a g d);have:=c.le;omega
theorem lu.ne{a:Bool}{F:Int→SP}{L c:List RS}(h:lu a F L c):∀b∈c,∃r∈L,us a (F r.id) r b:=fun b d=>by obtain⟨r,e,g,_⟩:=h.mem b d;exact⟨r,e,g⟩
theorem lu.mane{F:Int→SP}{L e:List RS}(h:lu false F L e)(d:L.Pairwise kt):e.Pairwise kt:=by
 induction h with
 |nil=>exact .nil
 |snoc h m g n=>
  rw[Dt]at d⊢;refine⟨n d.1,by simp,fun a o b i=>?_⟩;simp at i;subst i;obtain⟨r,p,t⟩:=h.ne a o;obtain⟨_,_,_,_,_,_,_,j⟩:=t;obtain⟨_,_,_,_,_,_,_,c⟩:=m;rw[Cz (by simp)]at j c;intro u k l;rw[j.2.1]at k;rw[c.2.1]at l;exact d.2.2 r p _ (by simp) u k l
 |skip h g _ _=>cases g
theorem vI{ds:DS}{O:List ba}(h:cG w f s q)(hs:s<50000)(hG:cN w)(k:1<f)(al:q.n≠0)(hd:DG w s q.A q.B q.n ds q.C)(hj:dY q.n=true→Jn q.n q.nn q.em q.L ds O)(V:q.nn=true→ds.ents=[])(p:Int):Calls prog 53 #[.pointer (some ⟨q.D,0,none⟩),.int .i64 p] w fun e w'=>e= .returned (.bool true)∧∃q',q'.fl=false∧dE w f (s+1) q q' w'∧(q'.x=none∨(Am w' (s+1) q'∧q'.pause=p∧(ds.ents=[]→q'.nn=false))):=by
 have G:=h.notD;have aI:=lt_of_heap h.l;obtain⟨an,hp⟩:=h.p;obtain⟨aJ,lo,aF,pe,pl,pa,ao⟩:=hp.pp;have ax:¬(q.Pp=q.A):=fun e=>by obtain⟨c,hc⟩:=hd.cell.1;rw[←e]at hc;have:=ao.symm.trans hc;simp at this
 have W:q.D≠q.A:=fun e=>G (.inl e);refine(y8 (S:=(· =q.A)) (Post:=fun xo kk z w2=>∃w1,Fr (· =q.D) w w1∧Fr (· =q.A) w1 w2∧DG w2 (s+1) q.A q.B q.n z q.C∧z.ents=ds.ents∧z.bs=ds.bs∧z.d.cap=ds.d.cap∧(kk=0→1≤p∧p≤64∧dY q.n=true∧JD q.n z (O.map ba.bytes)∧(bw q.L O∨(q.em=true∧O=[]))∧∃X F,xo=some ⟨X,0,none⟩∧EG w2 (s+1) X q.A q.B q.n 0 p (uq q.Pp) (bh O) O z q.C F∧FU w2 F∧∀b,F b→w.heap.size≤b)) (Qf:=fun xa w3 w'=>∃L0,((L0=q.L∧bw q.L O)∨(L0=[]∧O=[]))∧iI (decide (ds.ents=[])) (stOf O) L0 q.D q.A q.Pp q.n q.nn q.em (some xa) p w3 (.returned (.bool true)) w') h.l hd ao ⟨W,fun e=>G (.inr (.inl e)),fun e=>G (.inr (.inr (.inl e)))⟩ hG (h.ng k (fun b e=> .inl e)) (h.ng k (fun b e=> .inr (.inl e))) W ax p ?_ ?_).mono ?_
 ·intro w1 I;have ay:=hd.fr I (fun e=>W e.symm) (fun e=>G (.inr (.inl e.symm))) (fun b k e=>G (.inr (.inr (.inl (e▸k)))));refine(ny ((xK (nn:=q.nn) (em:=q.em) (L:=q.L) (rs:=O) ay (by omega) (hG.fr I (h.ng k (fun b e=> .inl e))) p hj V).mono ?_));rintro e w' hQ;obtain⟨xo,v,kk,z,rfl,Y,⟨h2,_⟩,h3,h4,h5,h6,h7,h8,h9,az⟩:=hQ;refine⟨_,_,rfl,xo,v,kk,z,s+1,rfl,Y,h2,by omega,h3,h4,by rw[h5],h8,⟨w1,I,h9,h3,h5,h6,h7,fun hk=>?_⟩,h9⟩;obtain⟨a1,a2,a3,a4,a5,X,F,a6,a7,a8,a9⟩:=az hk;exact⟨a1,a2,a3,a4,a5,X,F,a6,a7,a8,fun b k=>Ct I.size (a9 b k)⟩
 ·rintro w2 w3 xa z ⟨w1,I,Z,ap,he,ad,ae,hk⟩ H aq;obtain⟨a1,a2,a3,a4,a5,X,F,a6,a7,a8,a9⟩:=hk rfl;simp only[Cu]at a6;subst a6;have hJ:=hj a3;have aA:=a7.fr H jI jI fI fI;have K:Fr (fun b=>b=q.D∨cu q b) w w3:=((I.mono (fun _ _ h=> .inl h)).trans (Z.mono (fun _ _ h=> .inr (.inl h))) fI).trans (H.mono (fun _ _ h=>h.elim)) fI;have:=uV (p:=p) aq aA (h.keepL K) (by have:=h.ln;omega) (fun r M=>by have:=(h.ml r M).2;omega) h.lo hJ.1 a5 (fun e=>by
   rw[he];rcases hJ.2.2 with⟨_,e2,_⟩|⟨e1,_⟩
   ·rw[e]at e2;cases e2
   ·exact V e1) (by rintro(e|e|e);exact W e;exact G (.inr (.inl e));exact G (.inr (.inr (.inl e))))
  refine this.mono ?_;rintro e w' ⟨rfl,L0,Y,h2⟩;rw[he]at h2;exact⟨rfl,L0,Y,h2⟩
 ·rintro e w' ⟨rfl,w1,wS,xo,kk,z,_,_,aG,⟨aK,I,Z,ap,he,ad,ae,hk⟩,af⟩;have ar:Fr (fun b=>b=q.D∨cu q b) w wS:=(I.mono (fun _ _ h=> .inl h)).trans (Z.mono (fun _ _ h=> .inr (.inl h))) fI;rcases af with⟨aL,rfl,hl,H⟩|⟨rfl,xa,w3,rfl,H,aq,L0,T,⟨_,ag,L',au,j,aa,Q,a0⟩⟩
  ·have K:=ar.trans (H.mono (fun _ _ h=>h.elim)) fI;have hq:∀b,DQ.S {q with x:=none,fl:=false,F:=fun _=>False} b→q.S b∨w.heap.size≤b:=DQ.S_of rfl (.inl rfl) (.inl rfl) q.sC (fun _ h=>h.elim) q.sG q.sL q.sM;refine⟨rfl,{q with x:=none,fl:=false,F:=fun _=>False},rfl,⟨rfl,hq,⟨hl,.inr ⟨al,z,O,ap.fr H jI jI fI,fun hi=>⟨(hj hi).keep he ad ae,.inl rfl⟩,fun _=>rfl⟩,⟨an,(h.keepP K hp).mono (DC s)⟩,h.keepL K,E7 h.ln,fun r M=>⟨(h.ml r M).1,by have:=(h.ml r M).2;omega⟩,h.ls,h.lo,fun b k=>k.elim,fun b k=>?_,fun b k=>?_,h.n⟩,K.mono (fun b _ h=>h.elim (fun e=> .inl e) cu.own)⟩,.inl rfl⟩
   ·obtain⟨c,hc⟩:=h.ct b k;refine⟨c,H.keep (Z.keep (I.keep hc (fun e=>G (.inr (.inr (.inl (e▸k)))))) (fun e=>?_)) jI⟩;obtain⟨c2,ah⟩:=hd.cell.1;have e:=e;subst e;have:=hc.symm.trans ah;simp at this
   ·rcases hq b k with Y|Y
    ·exact h.sl b Y
    ·have:=h.sl q.D (.inl rfl);omega
  ·obtain⟨a1,a2,a3,a4,a5,X,F,a6,a7,a8,a9⟩:=hk rfl;simp only[Cu]at a6;subst a6;have hJ:=hj a3;have hi:=a3;obtain⟨i,u⟩:∃i,i=decide (ds.ents=[]):=⟨_,rfl⟩;rw[←u]at au j Q;have ab:=ar.trans (H.mono (fun _ _ h=>h.elim)) fI;have K:=ab.trans (a0.mono (fun _ _ h=> .inl h)) fI;have aB:=ab.size;have aM:f≤w.heap.size:=by have:=h.sl q.D (.inl rfl);omega
   have av:∀b,F b→¬b=q.D:=fun b k e=>by have:=a9 b k;omega
   have hE:=(a7.fr H jI jI fI fI).fr a0 (fun e=>W e.symm) (fun e=>G (.inr (.inl e.symm))) (fun b k e=>G (.inr (.inr (.inl (e▸k))))) av;have P:=h.keepL K;have R:bw L' O∧ci false (bh O) L':=by
    rcases T with⟨rfl,N⟩|⟨rfl,ai⟩
    ·exact⟨j.may hJ.1 N,j.tells hJ.1 N⟩
    ·subst ai;exact⟨j.may hJ.1 bw.nil,j.tells hJ.1 bw.nil⟩
   have J:∀r∈L0,r∈q.L:=fun r M=>by
    rcases T with⟨rfl,_⟩|⟨rfl,_⟩
    ·exact M
    ·cases M
   have aj:Jn q.n (q.nn&& !i) (q.em&& !i) L' z O:=by
    refine⟨hJ.1,hJ.2.1,.inl ?_⟩;cases y:i with
    |true=>
     rw[y]at u;have ak:=Dh u.symm;exact⟨by simp,by simp,a4,R.1,.inl (a4.jz_nil (by rw[he,ak]))⟩
    |false=>
     rw[y]at u j;have ak:ds.ents≠[]:=of_decide_eq_false u.symm;have aw:q.nn=false:=by
      cases hn:q.nn with
      |false=>rfl
      |true=>exact absurd (V hn) ak
     rcases hJ.2.2 with⟨_,e2,_,N,hz⟩|⟨e1,_⟩
     ·refine⟨by rw[aw];rfl,by rw[e2];rfl,a4,R.1,?_⟩;rcases hz with hz|⟨aC,r,e3,aD⟩
      ·exact .inl (hz.keep he ad ae)
      ·refine .inr ⟨aC,r,e3,?_⟩;rcases T with⟨rfl,_⟩|⟨rfl,ai⟩
       ·exact j.may0 aD
       ·rw[ai]at e3;simp at e3
     ·rw[aw]at e1;cases e1
   have aE:LG w' f ag L':=by
    refine⟨bg aa (by omega),fun U E=>?_,fun U E=>?_,?_,fun U E=>?_⟩
    ·obtain⟨r,M,e1,e2,e3,e4,_⟩:=j.ne U E;rw[e2,e3,e4];exact P.s r (J r M)
    ·obtain⟨r,M,e1,e2,e3,e4,e5,e6,e7,N⟩:=j.ne U E;cases y:i with
     |true=>
      rw[y,CE rfl]at N;exact bg (((Q y).1 U E).o (by rw[N.1,e5]) N.2) (by omega)
     |false=>
      rw[y,Cz (by simp)]at N;have:=P.m r (J r M);unfold cm at this⊢;rw[N.1,N.2.1,N.2.2];exact this
    ·cases y:i with
     |true=>exact(Q y).2
     |false=>
      rw[y]at j;rcases T with⟨rfl,_⟩|⟨rfl,_⟩
      ·exact j.mane h.a.ne
      ·exact j.mane .nil
    ·obtain⟨r,M,e1,e2,e3,e4,_⟩:=j.ne U E;rw[e4];exact P.n r (J r M)
   have aH:L'.length≤q.L.length:=by
    have:=j.len;rcases T with⟨rfl,_⟩|⟨rfl,_⟩
    ·exact this
    ·simp at this;rw[this];exact CH _
   have hq:∀b,DQ.S {q with nn:=q.nn&& !i,em:=q.em&& !i,x:=some ⟨X,0,none⟩,pause:=p,clock:=0,fd:=false,Lv:=ag,L:=L',fl:=false,F:=F} b→q.S b∨w.heap.size≤b:=DQ.S_of rfl (.inl rfl) (.inl rfl) q.sC (fun b k=> .inr (a9 b k)) q.sG (fun b k=> .inr (Ct aB (aa.lt b k).1)) (fun b ⟨U,E,k⟩=>by
    obtain⟨r,M,e1,e2,e3,e4,e5,e6,e7,N⟩:=j.ne U E;cases y:i with
    |true=>
     obtain⟨g,Y,h2,_⟩:=(Q y).1 U E;obtain⟨o,sp,e⟩:=k;rw[h2]at e;simp at e;exact .inr (by omega)
    |false=>
     rw[y,Cz (by simp)]at N;obtain⟨o,sp,e⟩:=k;exact q.sM b ⟨r,J r M,o,sp,by rw[←N.2.1];exact e⟩)
   refine⟨rfl,{q with nn:=q.nn&& !i,em:=q.em&& !i,x:=some ⟨X,0,none⟩,pause:=p,clock:=0,fd:=false,Lv:=ag,L:=L',fl:=false,F:=F},rfl,⟨rfl,hq,⟨au,.inr ⟨al,z,O,hE.disk,fun _=>⟨aj,.inr ⟨X,rfl,?_,a1,a2,DL _,Int.natCast_nonneg _,.inl ⟨rfl,bh O,hE,R.2⟩⟩⟩,fun e=>by rw[hi]at e;cases e⟩,⟨an,(h.keepP K hp).mono (DC s)⟩,aE,by have Y:=h.ln;show L'.length≤s+1;omega,fun U E=>?_,fun U E=>?_,?_,fun b k=>?_,fun b k=>?_,fun b k=>?_,h.n⟩,K.mono (fun b _ h=>h.elim (fun e=> .inl e) cu.own)⟩,.inr ⟨⟨rfl,rfl,a1,a2,hi,z,O,hE.disk,aj,fun e=>?_,R.2⟩,rfl,fun e=>?_⟩⟩
   ·rcases aj.2.2 with⟨e,_⟩|⟨e,_⟩
    ·exact e
    ·have e:=e;simp at e;have:=V e.1;rw[u]at e;simp[this]at e
   ·obtain⟨r,M,e1,e2,e3,e4,e5,e6,e7,N⟩:=j.ne U E;cases y:i with
    |true=>rw[y,CE rfl]at N;rw[N.1];simp
    |false=>
     rw[y,Cz (by simp)]at N;rw[N.1];have:=h.ml r (J r M);exact⟨this.1,by omega⟩
   ·obtain⟨r,M,e1,e2,e3,e4,_⟩:=j.ne U E;rw[e1,e4];exact h.ls r (J r M)
   ·rcases T with⟨rfl,_⟩|⟨rfl,_⟩
    ·exact j.sorted h.lo
    ·exact j.sorted .nil
   ·obtain⟨c,t,hc,ht⟩:=a8 b k;exact⟨c,t,a0.keep (H.keep hc jI) (av b k),ht⟩
   ·obtain⟨c,hc⟩:=h.ct b k;refine⟨c,a0.keep (H.keep (Z.keep (I.keep hc (fun e=>G (.inr (.inr (.inl (e▸k)))))) (fun e=>?_)) jI) (fun e=>G (.inr (.inr (.inl (e▸k)))))⟩;obtain⟨c2,ah⟩:=hd.cell.1;have e:=e;subst e;have:=hc.symm.trans ah;simp at this
   ·rcases hq b k with Y|Y
    ·exact h.sl b Y
    ·omega
   ·have e:(q.nn&& !i)=true:=e;simp at e;rw[he];exact V e.1
   ·show(q.nn&& !i)=false;rw[u];simp[e]
end
section
variable{w w':World}{c s X n:Nat}{q:DQ}{clock pause:Int}{d:Value}{L:List AS}{rs:List ba}{F:Nat→Prop}
theorem ED.sta(h:ED w X n clock pause d L rs F)(id:Int):Calls prog 24 #[.pointer (some ⟨X,0,none⟩),.int .i64 id] w fun e w'=>oh L id w e w':=by
 obtain⟨b,J,R,g,i,ev,k,l,m,a,_⟩:=h;have j:k.length=L.length:=by rw[←a,CR]
 have o:=b.len;have:=oa (w:=w) (X:=X) ((Cn w X 1 _ _ _ l).trans rfl) m (gq a b.so) (by omega) (fun p f=>(b.mem (cy a f)).1.l6) id;rwa[a]at this
theorem ED.all(h:ED w X n clock pause d L rs F)(a:Int):Calls prog 35 #[.pointer (some ⟨X,0,none⟩),.int .i64 a] w fun e w'=>lx ((L.take a.toNat).map AS.told) w e w':=by
 obtain⟨g,J,R,i,j,ev,k,m,o,b,_⟩:=h;have l:k.length=L.length:=by rw[←b,CR]
 have r:=g.len;have:=ya (w:=w) (X:=X) ((Cn w X 1 _ _ _ m).trans rfl) o (by omega) (fun p f=>(g.mem (cy b f)).1.l6) a;have e:(ch k).take a.toNat=(L.take a.toNat).map AS.told:=by rw[←b,List.map_take,Dv];rfl
 rwa[e]at this
theorem cG.stay(h:cG w c s q)(a:Fr (fun _=>False) w w'):dE w c (s+1) q q w':=⟨rfl,fun _ h=> .inl h,(h.fr a fI (fun _ _ _ h=>h)).mono (DC s),a.mono (fun _ _ h=>h.elim)⟩
theorem cG.eng(h:cG w c s q)(k:q.x≠none):q.n≠0∧dY q.n=true∧∃X i,q.x=some ⟨X,0,none⟩∧ci q.fd i q.L∧i.Pairwise (fun a b=>a.id<b.id)∧i.length≤200∧(∀id,Calls prog 24 #[.pointer (some ⟨X,0,none⟩),.int .i64 id] w fun e w'=>oh i id w e w')∧∀j,Calls prog 35 #[.pointer (some ⟨X,0,none⟩),.int .i64 j] w fun e w'=>lx ((i.take j.toNat).map AS.told) w e w':=by
 rcases h.g with⟨_,e,_⟩|⟨l,v,rs,y,t,m⟩
 ·exact absurd e k
 have hi:dY q.n=true:=by
  cases hi:dY q.n with
  |true=>rfl
  |false=>exact absurd (m hi) k
 refine⟨l,hi,?_⟩;rcases(t hi).2 with e|⟨X,r,_,_,_,_,_,⟨o,i,f,p⟩|⟨o,i,u,z,f,p⟩⟩
 ·exact absurd e k
 ·exact⟨X,i,r,by rw[o];exact p,f.1.so,f.1.len.1,f.sta,f.all⟩
 ·exact⟨X,i,r,by rw[o];exact p.tells f.1,f.1.so,f.1.len.1,f.sta,f.all⟩
theorem yO(h:cG w c s q)(B:s<50000)(j:cN w)(k:q.x≠none)(id:Int):Calls prog 86 #[.pointer (some ⟨q.D,0,none⟩),.int .i64 id] w fun e w'=>e= .returned (.bool true)∧dE w c (s+1) q q w':=by
 obtain⟨_,_,X,C,m,p,t,u,b,_⟩:=h.eng k;obtain⟨E,v,f,_⟩:=aN h.a.o;have g:=h.l;have i:=h.a;rw[f]at g i;refine(Ak g i.sagas (fun r y=>by have:=(h.ml r y).2;omega) (by have:=h.ln;omega) h.lo j id ?_).mono ?_
 ·rw[m];exact(b id).mono fun e w' z=>p.stat z
 ·rintro e w' ⟨rfl,A⟩;exact⟨rfl,h.stay A⟩
theorem vR(h:cG w c s q)(B:s<50000)(m:q.x≠none)(b:Int):Calls prog 87 #[.pointer (some ⟨q.D,0,none⟩),.int .i64 b] w fun e w'=>e= .returned (.bool true)∧dE w c (s+1) q q w':=by
 obtain⟨_,_,X,p,t,u,g,v,_,f⟩:=h.eng m;obtain⟨C,y,i,_⟩:=aN h.a.o;have j:=h.l;have k:=h.a;rw[i]at j k;refine(yg j k.sagas (fun r z=>by have:=(h.ml r z).2;omega) (by have:=h.ln;omega) b ((p.take b.toNat).map AS.told) (by rw[CR,Cy];omega) (u.lst g h.lo) ?_).mono ?_
 ·rw[t];exact f b
 ·rintro e w' ⟨rfl,A⟩;exact⟨rfl,h.stay A⟩
end
def B6(fd:Bool)(id:Int)(st:List SS)(r:RS)(a:Int):Prop:=(fd=true∧a=4)∨(fd=false∧((aO id st=false∧a=1)∨(aO id st=true∧a=if r.st=st then 0 else 2)))
theorem qB{Post:Int→World→Prop}{S:Nat→Prop}{w:World}{D A n R b:Nat}{nn em fd:Bool}{x:Value}{pause clock td:Int}{ao bo:Option Addr}{a1 cb:Nat}{L:List RS}{lo:Option Addr}{lm s:Nat}{pe pl pa:Value}(h:aH w D A R n nn em x pause clock fd (.slice ao L.length a1))(hP:w.heap[R]?=some (.cells #[.slice lo lm s,pe,pl,pa] 48 (0,0)))(hl:LG w b (.slice ao L.length a1) L)(hn:L.length≤100000)(a7:∀r∈L,r.may.length≤1000000)(hs:L.Pairwise (fun a b=>a.id<b.id))(hG:cN w)(aE:NG S)(id:Int)(st:List SS)(a8:cC w b bo cb st)(aT:st.length≤100000)(u:∀b c t,w.heap[b]?=some (.cells c t (0,0))→lQ t→¬S b)(U:∀b,S b→b<w.heap.size)(a9:∀W,Fr (fun _=>False) w W→Calls prog 37 #[.pointer (some ⟨A,0,none⟩)] W fun e w2=>e= .returned (.int .i64 td)∧w2=W){r:RS}(J:r∈L)(m:r.id=id)(aU:r.S.1≠0)(hE:∀(V:World) (g:Nat),Fr (fun _=>False) w V→w.heap.size≤g→V.heap[g]?=some (.cells (an (st++[eX,eX])).toArray 58 (0,0))→Calls prog 21 #[x,.int .i64 id,.slice (some ⟨g,0,none⟩) st.length (st.length+2)] V fun e w'=>zY (fun kk _=>B6 fd id st r kk) Post S (fun _=>False) A g V e w'):Calls prog 84 #[.pointer (some ⟨D,0,none⟩),.int .i64 id,.slice bo st.length cb] w fun e w'=>∃kk,B6 fd id st r kk∧Ay Post D A R n nn em x pause clock fd (.slice ao L.length a1) kk w e w':=by
 have c6:=h.c6;have c7:=h.c7;have c8:=h.c8;have c9:=h.c9;have HD:=af h;have HL:=af hl;have aV:=af a7;have y:=af hs;have HP:=af hP;have HM:=af u;have HT:=af a8;have aa:=hE;clear h hl hs hP u a8 hE a7;go_enter func84,ntmps84;go_wp2_with fail;refine(eK (HL.out.sagas.r) (by omega) pause clock fd id).mono ?_;rintro e V ⟨k,t,rfl,hp,K⟩;clear c6 c7 c8 c9;have M:=HD.out.fr K jI;have c9:=M.c9;have c0:=M.c0;have aF:=af M;have z:=af K;have aX:=af hp;have ab:=a9 V K;have ad:=(bL y.out hp).1;have ae:=(bL y.out hp).2;clear M K hp a9;have c1:=aF.out.c1;have p0:V.cell? ⟨R,0,none⟩=some (.slice lo lm s):=(Cn V R 0 _ _ _ (z.out.keep HP.out jI)).trans rfl;have aG:t=true:=by
  cases t
  ·exact absurd m (ae rfl r J)
  ·rfl
 subst aG;obtain⟨r1,N,X⟩:=ad rfl;obtain⟨j0,ag⟩:=E6.1 J;obtain rfl:r1=r:=ex y.out N ag (by rw[X,m]);have aY:(k:Int)<L.length:=by have:=(Co.1 N).1;omega
 obtain⟨g0,off,ah,ai⟩:=HL.out.sagas.get N;have c2:=(aW ai z.out) 2 _ rfl;rw[ah]at c9;have O:Hid (r1∈L∧r1.id=id):=⟨J,m⟩;clear ad ae J m X ag N ah ai;go_wp2_with fail;refine ab.mono ?_;rintro e aZ ⟨rfl,hw⟩;rw[hw];clear hw ab;go_wp2_with fail;refine(kJ (HT.out.rows.frz z.out) (by omega)).mono ?_;rintro e w2 ⟨g,rfl,hg,Y,aj⟩;have a2:=z.out.trans aj fI;have ak:=Ct z.out.size hg;have c5:=(HD.out.fr a2 jI).c5;have Z:=af Y;have f:=af a2;clear c0 c1 c9 p0 hg aj a2 Y c2;go_wp2_with fail;refine(aa w2 g f.out ak Z.out).mono ?_;rintro e P ⟨v,kk,b0,rfl,hv,hk,al,B,i⟩;have ap:=HM.out _ _ _ HD.out (.inl rfl);have aq:=HM.out _ _ _ HP.out (.inr (.inl rfl));have ar:¬S g:=fun h=>by have:=U g h;omega
 have a3:∀b c t,w2.heap[b]?=some (.cells c t (0,0))→lQ t→¬S b:=fun b c t C ht h=>by have:=U b h;rw[f.out.block b this jI]at C;exact HM.out b c t C ht h
 have aI:=af ((HD.out.fr f.out jI).fr i ap);have au:=af ((HT.out.fr f.out (fun _ _ _ h=>h)).fr i (fun b c C=>a3 b c _ C (.inr (.inr (.inr (.inr (.inl rfl)))))));have aJ:=af ((HL.out.frz f.out).fr i (fun b c t C ht=>a3 b c t C (by rcases ht with h|h|h<;>subst h<;>simp[lQ])));have a4:=af (i.keep Z.out ar);have aK:=af ((hG.fr f.out ka).fr i aE);have aL:=af (i.keep (f.out.keep HP.out jI) aq);have aM:=af B;have aN:=al;have b1:=hv.1;have HV:=af hv;have aO:=af i;clear c5 ap aq ar a3 i B aa hv al;go_wp2_with fail;refine(mS au.out.rows (by omega) a4.out).mono ?_;rintro e w4 ⟨rfl,Q⟩;have av:NG (fun b=>b=g):=fun x hx e=>by have e:x=g:=e;have h1:=hG.lt;have:=hx.le;omega
 have aw:=HV.out.2 w4 Q (aK.out.fr Q av);have aP:=af Q;clear Q av HV;go_wp2_with fail;refine aw.mono ?_;rintro e w5 ⟨rfl,ax⟩;go_wp2_with fail;refine(eS kk _).mono ?_;rintro e b2 ⟨rfl,hw⟩;rw[hw];clear hw aw;have E:=af (aP.out.trans (ax.mono (fun _ _ h=>h.elim)) fI);have ay:¬D=g:=fun e=>by have:=lt_of_heap HD.out;omega
 have az:¬R=g:=fun e=>by have:=lt_of_heap HP.out;omega
 have a5:∀b c t,P.heap[b]?=some (.cells c t (0,0))→t=223∨t=165∨t=220→¬b=g:=fun b c t C ht e=>by subst e;rw[a4.out]at C;rcases ht with h|h|h<;>subst h<;>simp at C
 have F:=af (aI.out.fr E.out ay);have aA:=af (au.out.fr E.out (fun b c C=>a5 b c _ C (.inr (.inl rfl))));have aB:=af (aJ.out.fr E.out a5);have aQ:=af (E.out.keep aL.out az);have d6:=F.out.c6;have d7:=F.out.c7;have d8:=F.out.c8;have d9:=F.out.c9;clear ax ay az a5;go_wp2_with fail;refine(iA aB.out.sagas (by omega) aA.out.rows pause clock fd id).mono ?_;rintro e w6 ⟨k2,t2,aR,he,p⟩;have G:=af (E.out.trans (p.mono (fun _ _ h=>h.elim)) fI);have H:=af (F.out.fr p jI);have b3:=af (aB.out.frz p);have b4:=af (aA.out.fr p (fun _ _ _ h=>h));have e1:=H.out.c1;have z0:w6.cell? ⟨R,0,none⟩=some (.slice lo lm s):=(Cn w6 R 0 _ _ _ (p.keep aQ.out jI)).trans rfl;have d:=he (match L[k2]?with|some r=>decide (r.st=st)|none=>false) (by intro r hr;rw[hr]);have I:=bL y.out aR;have b5:=af (Ct (Ct f.out.size aO.out.size) G.out.size);have o:Hid (∀(T:Nat→Prop) (w':World),Fr T P w'→Post kk P∧w.heap.size≤g∧(∃cs,P.heap[g]?=some (.cells cs 58 (0,0)))∧Fr T P w'):=fun T w' hf=>⟨aM.out,ak,⟨_,a4.out⟩,hf⟩;clear d6 d7 d8 d9 he p;have aS:t2=true:=by
  cases t2
  ·exact absurd O.out.2 (I.2 rfl r1 O.out.1)
  ·rfl
 subst aS;obtain⟨r2,a6,a0⟩:=I.1 rfl;obtain⟨j3,aC⟩:=E6.1 O.out.1;obtain rfl:r2=r1:=ex y.out a6 aC (by rw[a0,O.out.2]);rw[a6]at d;clear I a6 a0 aC aN;have HK:=af hk;rcases hk with⟨j,l⟩|⟨aD,⟨j,l⟩|⟨j,l⟩⟩
 ·subst j;subst l;subst d;simp only[dL];go_wp2;go_ret;obtain⟨x1,x2,x3,x4⟩:=o.out (fun b=>b=D∨b=g) _ (G.out.mono (fun _ _ h=> .inr h));exact⟨4,HK.out,rfl,P,g,x1,x2,x3,x4,H.out⟩
 ·subst aD;subst l;rw[j]at d;subst d;simp only[dL];clear j;go_wp2;go_ret;obtain⟨x1,x2,x3,x4⟩:=o.out (fun b=>b=D∨b=g) _ (G.out.mono (fun _ _ h=> .inr h));exact⟨1,HK.out,rfl,P,g,x1,x2,x3,x4,H.out⟩
 ·subst aD;rw[j]at d;by_cases q:r2.st=st
  ·rw[CE q]at l;subst l;simp only[show decide (r2.st=st)=true by simp[q]]at d;subst d;simp only[dL];clear j q;go_wp2;go_ret;obtain⟨x1,x2,x3,x4⟩:=o.out (fun b=>b=D∨b=g) _ (G.out.mono (fun _ _ h=> .inr h));exact⟨0,HK.out,rfl,P,g,x1,x2,x3,x4,H.out⟩
  ·rw[Cz q]at l;subst l;simp only[show decide (r2.st=st)=false by simp[q]]at d;subst d;simp only[dL];clear j q;go_wp2;go_ret;obtain⟨x1,x2,x3,x4⟩:=o.out (fun b=>b=D∨b=g) _ (G.out.mono (fun _ _ h=> .inr h));exact⟨2,HK.out,rfl,P,g,x1,x2,x3,x4,H.out⟩
section
variable{L d L':List RS}{id:Int}{j k:Nat}{t:Bool}{sn r:RS}
theorem uU(n:d.Pairwise (fun a b=>a.id<b.id))(o:∀r∈d,r.id≠id)(y:fM d id j t)(v:sn.id=id):(d.take j++sn::d.drop j).Pairwise (fun a b=>a.id<b.id)∧(∀r,r∈d.take j++sn::d.drop j↔r=sn∨r∈d)∧(d.take j++sn::d.drop j).length=d.length+1:=by
 obtain⟨F,z,A,_⟩:=y;have c:=n;rw[←CX j d,Dt]at c;have B:∀r∈d.take j,r.id<id:=fun r e=>by
  obtain⟨i,hi⟩:=E6.1 e;rw[DE]at hi;split at hi
  ·rename_i p;exact z i r p hi
  ·cases hi
 have C:∀r∈d.drop j,id<r.id:=fun r e=>by
  have D:=o r (D8 e);cases g:d.drop j with
  |nil=>rw[g]at e;cases e
  |cons a l=>
   have m:d[j]?=some a:=by
    have:(d.drop j)[0]?=some a:=by rw[g];rfl
    simpa using this
   have E:=A a m;rw[g]at e;have x:=c.2.1;rw[g,Ds]at x;rcases CF.1 e with rfl|e
   ·omega
   ·have:=x.1 r e;omega
 refine⟨?_,fun r=>?_,by simp;omega⟩
 ·rw[Dt,Ds];refine⟨c.1,⟨fun r e=>by rw[v];exact C r e,c.2.1⟩,fun a m b u=>?_⟩;rcases CF.1 u with rfl|u
  ·rw[v];exact B a m
  ·exact c.2.2 a m b u
 ·rw[Cv,CF];constructor
  ·rintro(h|h|h)
   ·exact .inr (CU h)
   ·exact .inl h
   ·exact .inr (D8 h)
  ·rintro(h|h)
   ·exact .inr (.inl h)
   ·rw[←CX j d,Cv]at h;rcases h with h|h
    ·exact .inl h
    ·exact .inr (.inr h)
theorem vi(i:L.Pairwise (fun a b=>a.id<b.id))(n:L[k]?=some r):(L.take k++L.drop (k+1)).Pairwise (fun a b=>a.id<b.id)∧(∀p,p∈L.take k++L.drop (k+1)↔p∈L∧p.id≠r.id)∧(L.take k++L.drop (k+1)).length+1=L.length∧(L.take k++L.drop (k+1)).Sublist L:=by
 obtain⟨o,e⟩:=Co.1 n;have c:L=L.take k++r::L.drop (k+1):=by rw[←e,←Dk o,CX]
 have g:(L.take k++L.drop (k+1)).Sublist L:=by
  conv=>rhs;rw[c]
  exact List.Sublist.append_left (List.sublist_cons_self _ _) _
 refine⟨i.sublist g,fun p=>?_,by rw[Cr,Cy,Dx];omega,g⟩;have l:=i;rw[c,Dt,Ds]at l;constructor
 ·intro h;refine⟨g.subset h,?_⟩;rcases Cv.1 h with h|h
  ·have:=l.2.2 p h r (by simp);omega
  ·have:=l.2.1.1 p h;omega
 ·rintro⟨h,m⟩;rw[c,Cv,CF]at h;rw[Cv];rcases h with h|h|h
  ·exact .inl h
  ·exact absurd (by rw[h]) m
  ·exact .inr h
theorem zq{w:World}{f:Nat}{v:Value}(l:∀r,r∈d.take j++sn::d.drop j↔r=sn∨r∈d)(g:(d.take j++sn::d.drop j).length=d.length+1)(y:w.ownsRow f 223 7 v (d.length+1) (az (d.take j++sn::d.drop j)))(z:∀r∈d,cC w f r.sa r.sc r.st)(m:∀r∈d,cm w f r)(e:d.Pairwise kt)(A:∀r∈d,r.st.length≤100000)(n:cC w f sn.sa sn.sc sn.st)(o:cm w f sn)(p:sn.st.length≤100000)(h:∀r∈d,kt r sn):LG w f v (d.take j++sn::d.drop j):=by
 have i:∀r∈d,kt sn r:=fun r c a B C=>h r c a C B;refine⟨by rw[g];exact y,fun r c=>?_,fun r c=>?_,?_,fun r c=>?_⟩
 ·rcases(l r).1 c with rfl|c
  ·exact n
  ·exact z r c
 ·rcases(l r).1 c with rfl|c
  ·exact o
  ·exact m r c
 ·rw[←CX j d,Dt]at e;rw[Dt,Ds];refine⟨e.1,⟨fun r c=>i r (D8 c),e.2.1⟩,fun a x b u=>?_⟩;rcases CF.1 u with rfl|u
  ·exact h a (CU x)
  ·exact e.2.2 a x b u
 ·rcases(l r).1 c with rfl|c
  ·exact p
  ·exact A r c
end
section
variable{w:World}{f s:Nat}{q:DQ}
theorem pq{l:World}{A B n k:Nat}{v:DS}{C F:Nat→Prop}(u:DG l k A B n v C)(m:∀b,C b→∃c,l.heap[b]?=some (.cells c 101 (0,0)))(o:FU l F){b:Nat}{c:Array Value}{t:TypeId}(h:l.heap[b]?=some (.cells c t (0,0)))(a:t=111∨t=58∨t=220):b≠A∧b≠B∧¬C b∧¬F b:=by
 refine⟨fun e=>?_,fun e=>?_,fun e=>?_,fun e=>?_⟩
 ·obtain⟨p,g⟩:=u.cell.1;rw[e]at h;have:=h.symm.trans g;simp at this;rw[this.2]at a;revert a;decide
 ·obtain⟨p,g⟩:=u.cell.2;rw[e]at h;have:=h.symm.trans g;simp at this;rw[this.2]at a;revert a;decide
 ·obtain⟨p,g⟩:=m b e;have:=h.symm.trans g;simp at this;rw[this.2]at a;revert a;decide
 ·obtain⟨p,x,g,i⟩:=o b e;have:=h.symm.trans g;simp at this;rw[this.2]at a;unfold iJ at i;rcases a with rfl|rfl|rfl<;>revert i<;>decide
theorem oX(h:cG w f s q)(a0:q.n≠0)(hi:dY q.n=true){X:Nat}(hX:q.x=some ⟨X,0,none⟩)(a1:q.nn=false)(a2:1≤q.pause)(a3:q.pause≤64)(a4:0≤q.clock)(aj:q.clock≤s){y O:World}{g:Nat}{mb:Nat→Prop}{z:DS}{I J:Nat→Prop}{rs':List ba}(hg:w.heap.size≤g)(a5:∃cs,y.heap[g]?=some (.cells cs 58 (0,0)))(hC:∀b,I b→q.C b∨w.heap.size≤b)(hF:∀b,J b→q.F b∨w.heap.size≤b)(E:Fr (cu q) w y)(P:FU y J)(Q:∀b,I b→∃c,y.heap[b]?=some (.cells c 101 (0,0)))(u:Fr (fun b=>b=q.D∨b=g∨mb b) y O)(R:∀b,mb b→∃r∈q.L,r.mb b){fd':Bool}{Lv':Value}{L':List RS}(hl:aH O q.D q.A q.Pp q.n q.nn q.em (.pointer q.x) q.pause q.clock fd' Lv')(a6:LG O f Lv' L')(T:L'.length≤s+1)(a7:∀r∈L',r.may≠[]∧r.may.length≤2*(s+1)+2)(a8:∀r∈L',aO r.id r.st=true)(a9:L'.Pairwise (fun a b=>a.id<b.id))(aa:∀b,Lv'.ownBlock=some b→q.S b∨w.heap.size≤b)(ab:∀b,(∃r∈L',r.mb b)→q.S b∨w.heap.size≤b)(U:DG y (s+1) q.A q.B q.n z I)(hJ:Jn q.n q.nn q.em L' z rs')(ad:(fd'=false∧∃o,EG y (s+1) X q.A q.B q.n q.clock q.pause (ge q.fl q.Pp) o rs' z I J∧ci false o L')∨(fd'=true∧∃o H ck,ED y X q.n ck q.pause (ge q.fl q.Pp) o H J∧bw L' H)):dE w f (s+1) q {q with fd:=fd',Lv:=Lv',L:=L',C:=I,F:=J} O:=by
 have ak:=lt_of_heap h.l;have al:f≤w.heap.size:=by have:=h.sl q.D (.inl rfl);omega
 have ae:∃c,y.heap[q.D]?=some (.cells c 111 (0,0)):=⟨_,E.keep h.l h.notD⟩;have V:∀b,(b=q.D∨b=g∨mb b)→∃c t,y.heap[b]?=some (.cells c t (0,0))∧(t=111∨t=58∨t=220):=fun b i=>by
  rcases i with rfl|rfl|i
  ·obtain⟨c,v⟩:=ae;exact⟨c,_,v,.inl rfl⟩
  ·obtain⟨c,v⟩:=a5;exact⟨c,_,v,.inr (.inl rfl)⟩
  ·obtain⟨r,hr,af⟩:=R b i;obtain⟨_,c,v⟩:=(h.a.m r hr).blk af;exact⟨c,_,E.keep v (h.notE v (lq (.inr (.inr (.inl rfl))))),.inr (.inr rfl)⟩
 have Z:∀b,(b=q.D∨b=g∨mb b)→b≠q.A∧b≠q.B∧¬I b∧¬J b:=fun b i=>by obtain⟨c,t,v,K⟩:=V b i;exact pq U Q P v K
 have hA:¬(q.A=q.D∨q.A=g∨mb q.A):=fun h=>(Z _ h).1 rfl;have hB:¬(q.B=q.D∨q.B=g∨mb q.B):=fun h=>(Z _ h).2.1 rfl;have M:∀b,I b→¬(b=q.D∨b=g∨mb b):=fun b i h=>(Z _ h).2.2.1 i;have N:∀b,J b→¬(b=q.D∨b=g∨mb b):=fun b i h=>(Z _ h).2.2.2 i;have hq:∀b,DQ.S {q with fd:=fd',Lv:=Lv',L:=L',C:=I,F:=J} b→q.S b∨w.heap.size≤b:=DQ.S_of rfl (.inl rfl) (.inl rfl) (fun b i=>(hC b i).imp_left (fun h=> .inr (.inr (.inr (.inl h))))) (fun b i=>(hF b i).imp_left (fun h=> .inr (.inr (.inr (.inr (.inl h)))))) q.sG aa ab;obtain⟨W,hp⟩:=h.p;have Y:=h.keepP (E.mono (fun _ _ h=> .inr h)) hp;have ag:mX O s q.Pp q.G W:=Y.fr u (fun b i e=>by
  obtain⟨c,t,v,K⟩:=Y.ty i;obtain⟨c2,t2,ah,ai⟩:=V b e;have:=v.symm.trans ah;simp at this;rw[this.2]at K;unfold PT at K;rcases ai with rfl|rfl|rfl<;>revert K<;>decide)
 refine⟨rfl,hq,⟨hl,.inr ⟨a0,z,rs',U.fr u hA hB M,fun _=>⟨hJ,.inr ⟨X,hX,a1,a2,a3,a4,by push_cast;omega,?_⟩⟩,fun e=>by rw[hi]at e;cases e⟩,⟨W,ag.mono (DC s)⟩,a6,T,a7,a8,a9,P.fr u N,fun b i=>?_,fun b i=>?_,h.n⟩,?_⟩
 ·rcases ad with⟨e,o,hE,K⟩|⟨e,o,H,ck,hE,hm⟩
  ·exact .inl ⟨e,o,hE.fr u hA hB M N,K⟩
  ·exact .inr ⟨e,o,H,ck,hE.fr u N,hm⟩
 ·obtain⟨c,v⟩:=Q b i;exact⟨c,u.keep v (M b i)⟩
 ·rcases hq b i with h1|h1
  ·exact h.sl b h1
  ·omega
 ·refine(E.mono (fun _ _ h=>cu.own h)).trans u (fun b i e=>?_);rcases e with rfl|rfl|e
  ·exact .inl rfl
  ·omega
  ·exact .inr (.inr (.inr (.inr (.inr (.inr (.inr (R b e)))))))
end
inductive Bz (q:DQ) (X:Nat) (Le:List AS) (rs:List ba) (f:DS) (id:Int) (st:List SS) (s:Nat) (w3:World) (kk:Int) (ds':DS) (C' F':Nat→Prop):Prop
 |failed (h1:q.fd=true) (h2:kk=4) (h3:ds'=f) (h4:∃ck,ED w3 X q.n ck q.pause (ge q.fl q.Pp) Le rs F') (h5:bw q.L rs)
 |kept {Le':List AS} {rs':List ba} (h1:q.fd=false) (h2:ye Le rs id st q.n kk Le' rs') (h3:EG w3 (s+1) X q.A q.B q.n q.clock q.pause (ge q.fl q.Pp) Le' rs' ds' C' F') (h4:rs'≠rs→eZ q.n ds' (rs'.map ba.bytes)) (h5:rs'=rs→ds'=f) (h6:ci false Le q.L)
 |cut (h1:q.fd=false) (h2:kk=5) (h3:f.d.told<ds'.d.told) (h4:aO id st=true) (h5:∀a∈Le,a.id≠id) (h6:gr q.n q.clock (dS (bS id st) Le) (rs++[ba.take id.toNat st])) (h7:(JD q.n ds' (rs.map ba.bytes)∧(JZ q.n f (rs.map ba.bytes)→JZ q.n ds' (rs.map ba.bytes)))∨JD q.n ds' ((rs++[ba.take id.toNat st]).map ba.bytes)) (h8:ED w3 X q.n q.clock q.pause (ge q.fl q.Pp) Le rs F') (h9:ci false Le q.L)
def wa(q:DQ)(X:Nat)(Le:List AS)(rs:List ba)(f:DS)(id:Int)(st:List SS)(s:Nat)(w:World)(h:Int)(a:World):Prop:=∃d e g,Bz q X Le rs f id st s a h d e g∧(∀b,e b→q.C b∨w.heap.size≤b)∧(∀b,g b→q.F b∨w.heap.size≤b)∧Fr (cu q) w a∧FU a g∧(∀b,e b→∃c,a.heap[b]?=some (.cells c 101 (0,0)))∧DG a (s+1) q.A q.B q.n d e
section
variable{w:World}{k s:Nat}{q:DQ}{X:Nat}{Le:List AS}{rs:List ba}{f:DS}{id:Int}{st:List SS}
theorem A7{d:World}{g:Nat}(b:d.heap[g]?=some (.cells (an (st++[eX,eX])).toArray 58 (0,0))):aY d (some ⟨g,0,none⟩) 2 (st.map dj):=by
 intro i cs hi;rw[CK]at hi;obtain⟨p,e,rfl⟩:=Do.1 hi;have c:=(Co.1 e).1;obtain⟨h,l⟩:=jU b (i:=i) (p:=p) (by rw[CI c];exact e);refine⟨g,0,rfl,fun j v a=>?_⟩;match j,a with
 |0,a=>simp[dj]at a;subst a;rw[D5,Nat.add_zero];exact h
 |1,a=>simp[dj]at a;subst a;rw[D5];exact l
theorem yp(h:cG w k s q)(hs:s<50000)(hG:cN w)(hi:dY q.n=true)(hd:DG w s q.A q.B q.n f q.C)(O:(q.fd=false∧EG w s X q.A q.B q.n q.clock q.pause (ge q.fl q.Pp) Le rs f q.C q.F∧ci false Le q.L)∨(q.fd=true∧(∃ck,ED w X q.n ck q.pause (ge q.fl q.Pp) Le rs q.F)∧bw q.L rs)){w1:World}{g:Nat}(j:Fr (fun _=>False) w w1)(hg:w.heap.size≤g)(z:w1.heap[g]?=some (.cells (an (st++[eX,eX])).toArray 58 (0,0))):Calls prog 21 #[.pointer (some ⟨X,0,none⟩),.int .i64 id,.slice (some ⟨g,0,none⟩) st.length (st.length+2)] w1 fun e u=>∃v P Q,e= .returned v∧uh (· =g) u v P∧(P=5→f.d.told<Q)∧(∀W,Fr (fun b=>(b=q.D∨∃r∈q.L,r.mb b)∨b=g) u W→Calls prog 37 #[.pointer (some ⟨q.A,0,none⟩)] W fun e w2=>e= .returned (.int .i64 Q)∧w2=W)∧wa q X Le rs f id st s w P u∧Fr (cu q) w1 u:=by
 have ae:8≤q.n∧q.n≤400:=by simpa[dY]using hi
 have R:¬cu q g:=fun e=>by have:=h.lt e.own;omega
 have told:∀{u:World} {x:DS} {N:Nat→Prop},Fr (cu q) w1 u→DG u (s+1) q.A q.B q.n x N→(∀b,N b→∃c,u.heap[b]?=some (.cells c 101 (0,0)))→∀W,Fr (fun b=>(b=q.D∨∃r∈q.L,r.mb b)∨b=g) u W→Calls prog 37 #[.pointer (some ⟨q.A,0,none⟩)] W fun e w2=>e= .returned (.int .i64 x.d.told)∧w2=W:=by
  intro u x N o S a5 W a6;have hT:∀b,((b=q.D∨∃r∈q.L,r.mb b)∨b=g)→∃c t,u.heap[b]?=some (.cells c t (0,0))∧(t=111∨t=58∨t=220):=fun b p=>by
   rcases p with(rfl|⟨r,hr,p⟩)|rfl
   ·exact⟨_,_,o.keep (j.keep h.l jI) h.notD,.inl rfl⟩
   ·obtain⟨_,c,y⟩:=(h.a.m r hr).blk p;exact⟨c,_,o.keep (j.keep y jI) (h.notE y (lq (.inr (.inr (.inl rfl))))),.inr (.inr rfl)⟩
   ·exact⟨_,_,o.keep z R,.inr (.inl rfl)⟩
  have hN:∀b,((b=q.D∨∃r∈q.L,r.mb b)∨b=g)→b≠q.A∧b≠q.B∧¬N b∧¬(fun _=>False) b:=fun b p=>by obtain⟨c,t,y,J⟩:=hT b p;exact pq (F:=fun _=>False) S a5 (fun _ h=>h.elim) y J
  exact(S.fr a6 (fun h=>(hN _ h).1 rfl) (fun h=>(hN _ h).2.1 rfl) (fun b p h=>(hN _ h).2.2.1 p)).told
 have E:∀{u:World},Fr (cu q) w1 u→∀b c t,u.heap[b]?=some (.cells c t (0,0))→t=262∨t=119→¬b=g:=fun o b c t y J e=>by subst e;have:=y.symm.trans (o.keep z R);simp at this;rw[this.2]at J;revert J;decide
 rcases O with⟨G,O,J⟩|⟨G,⟨ck,O⟩,hm⟩
 ·have H:=O.fr j jI jI fI fI;refine(H.sub (by omega) (fun hl=>jM (by omega)) (hG.fr j ka) id st (st.length+2) (A7 z) (fun _=>⟨g,rfl⟩)).mono ?_;rintro e u ⟨v,x,N,F',rfl,hC,hF,af,o,K⟩;have i:Fr (cu q) w1 u:=o;have T:=(j.mono (fun _ _ h=>h.elim)).trans i fI;have U:∀b,(N b∧∃c,u.heap[b]?=some (.cells c 101 (0,0)))→q.C b∨w.heap.size≤b:=fun b p=>(hC b p.1).imp_right (fun h=>Ct j.size h);rcases K with⟨P,ag,ah,V,Y,a7,a8,hj⟩|⟨V,_,Z,a0,a9,a1,aa,ab,ad⟩
  ·have M:=a8.tyC;refine⟨v,P,x.d.told,rfl,V.tellX (fun b c y=>E i b c _ y (.inr rfl)),fun e=>?_,told i M.disk (fun b p=>p.2),⟨x,_,F',.kept G Y M hj.1 hj.2 J,U,fun b p=>(hF b p).imp_right (fun h=>Ct j.size h),T,a7,fun b p=>p.2,M.disk⟩,i⟩;exfalso;rcases Y with⟨_,h,_⟩|⟨_,a,_,_,h,_⟩|⟨_,_,⟨h,_⟩|⟨h,_⟩⟩
   ·omega
   ·split at h<;>omega
   ·omega
   ·omega
  ·have a2:=ab.tyC;have a3:=ad.tyF;exact⟨v,5,x.d.told,rfl,V.tellX (E i),fun _=>Z,told i a2 (fun b p=>p.2),⟨x,_,_,.cut G rfl Z a0 a9 a1 aa a3 J,U,fun b p=>(hF b p.1).imp_right (fun h=>Ct j.size h),T,fun b p=>p.2,fun b p=>p.2,a2⟩,i⟩
 ·have H:=O.fr j fI;refine(H.sub id st.length (st.length+2)).mono ?_;rintro e u ⟨v,rfl,V,o⟩;have i:Fr (cu q) w1 u:=o.mono (fun _ _ h=>h.elim);have a4:DG u (s+1) q.A q.B q.n f q.C:=((hd.fr j jI jI fI).fr o jI jI fI).monoK (DC s);have I:∀b,q.C b→∃c,u.heap[b]?=some (.cells c 101 (0,0)):=fun b p=>by obtain⟨c,y⟩:=h.ct b p;exact⟨c,o.keep (j.keep y jI) jI⟩
  exact⟨v,4,f.d.told,rfl,V.tellX (fun b c y=>E i b c _ y (.inr rfl)),(fun e=>by cases e),told i a4 I,⟨f,q.C,q.F,.failed G rfl rfl ⟨ck,H.fr o fI⟩ hm,fun _ h=> .inl h,fun _ h=> .inl h,(j.mono (fun _ _ h=>h.elim)).trans i fI,(h.fu.fr j fI).fr o fI,I,a4⟩,i⟩
end
section
variable{L f L':List RS}{id:Int}{sn:RS}{st:List SS}{Le:List AS}{rs:List ba}{n:Nat}{clock:Int}
structure lW(L f L':List RS)(id:Int)(sn:RS):Prop where
 m:∀r,r∈L'↔r=sn∨r∈f
 m1:∀r,r∈f↔r∈L∧r.id≠id
 s:sn.id=id
theorem lW.turn(h:lW L f L' id sn):Ar L L' id (fun r=>r=sn):=by
 refine⟨fun r a b=>?_,fun r a e=>?_,fun r a b=>(h.m r).2 (.inr ((h.m1 r).2 ⟨a,b⟩)),sn,(h.m sn).2 (.inl rfl),h.s⟩
 ·rcases(h.m r).1 a with rfl|a
  ·exact absurd h.s b
  ·exact((h.m1 r).1 a).1
 ·rcases(h.m r).1 a with rfl|a
  ·rfl
  ·exact absurd e ((h.m1 r).1 a).2
def Ah(L:List RS)(id:Int)(sn:RS):Prop:=∀b,bw L b→stOf b id∈sn.may∧∀a∈bh b,a.id=id→a.st=sn.st
theorem lW.same(h:lW L f L' id sn)(b:Ah L id sn)(a:bw L rs):bw L' rs:=a.turn h.turn (fun r _ e=>by subst e;exact b rs a)
theorem lW.take(h:lW L f L' id sn)(b:1≤id)(c:bw L rs)(a:bE (rs++[ba.take id.toNat st]))(d:((1,1):SP)∈sn.may)(j:sn.st=st):bw L' (rs++[ba.take id.toNat st]):=by
 have e:((id.toNat:Nat):Int)=id:=by omega
 refine c.take (P:=fun r=>r=sn) a (by rw[e];exact h.turn) (fun r _ e=>by subst e;exact⟨d,j⟩)
theorem lW.tellsN(h:lW L f L' id sn)(j:ci false Le L)(d:∀a∈Le,a.id≠id)(o:sn.S=(1,1))(t:sn.st=st)(v:sn.tries=0)(x:sn.due=0):ci false (dS (bS id st) Le) L':=by
 refine⟨fun a b r c e=>?_,fun r c l=>?_,fun a b=>?_⟩
 ·rcases cP.1 b with rfl|b
  ·have:r=sn:=h.turn.new r c e.symm;subst this;unfold ud;rw[Cz (by simp)];unfold AS.told RS.st' bS;simp only[o,t,v,x,h.s]
  ·exact j.hit a b r (h.turn.old r c (by rw[←e];exact d a b)) e
 ·refine j.miss r (h.turn.old r c (fun e=>?_)) (fun a b=>l a (cP.2 (.inr b)));exact l (bS id st) (cP.2 (.inl rfl)) e.symm
 ·rcases cP.1 b with rfl|b
  ·exact⟨sn,(h.m sn).2 (.inl rfl),h.s⟩
  ·obtain⟨r,c,e⟩:=j.all a b;exact⟨r,h.turn.kept r c (by rw[e];exact d a b),e⟩
theorem lW.tells0(h:lW L f L' id sn)(j:ci false Le L)(c:∀a∈Le,a.id≠id)(l:sn.S.1=0):ci false Le L':=by
 refine⟨fun a d r b e=>j.hit a d r (h.turn.old r b (by rw[←e];exact c a d)) e,fun r b m=>?_,fun a d=>?_⟩
 ·by_cases e:r.id=id
  ·rw[h.turn.new r b e];unfold tm;rw[Cz (by simp)];exact l
  ·exact j.miss r (h.turn.old r b e) m
 ·obtain⟨r,b,e⟩:=j.all a d;exact⟨r,h.turn.kept r b (by rw[e];exact c a d),e⟩
end
section
variable{w:World}{i s:Nat}{q:DQ}{X:Nat}{Le:List AS}{rs p:List ba}{u:DS}{id:Int}{st:List SS}{k w':World}{g:Nat}{kk:Int}{mb:Nat→Prop}
theorem LG.two(h:cG w i s q)(d:Fr (cu q) w k)(A:∃cs,k.heap[g]?=some (.cells cs 58 (0,0)))(t:Fr (fun b=>b=q.D∨b=g∨mb b) k w'):(∀(b:Nat) (c:Array Value),w.heap[b]?=some (.cells c 165 (0,0))→(∀b,mb b→∃r∈q.L,r.mb b)→w'.heap[b]?=some (.cells c 165 (0,0)))∧(∀r∈q.L,(∀b,r.mb b→¬mb b)→cm w' i r):=by
 obtain⟨G,v⟩:=A;have x:=d.keep h.l h.notD;refine⟨fun b c o B=>t.keep (d.keep o (h.notE o (lq (.inr (.inr (.inr (.inl rfl))))))) ?_,fun r y F=>?_⟩
 ·have j:=d.keep o (h.notE o (lq (.inr (.inr (.inr (.inl rfl))))));rintro(e|e|e)
  ·subst e;have:=j.symm.trans x;simp at this
  ·subst e;have:=j.symm.trans v;simp at this
  ·obtain⟨r,y,C⟩:=B b e;obtain⟨_,c2,E⟩:=(h.a.m r y).blk C;have:=o.symm.trans E;simp at this
 ·refine((h.a.m r y).fr d (fun b z=>?_)).fr t (fun b z=>?_)
  ·obtain⟨_,c,o⟩:=(h.a.m r y).blk z;exact h.notE o (lq (.inr (.inr (.inl rfl))))
  ·obtain⟨_,c,o⟩:=(h.a.m r y).blk z;have j:=d.keep o (h.notE o (lq (.inr (.inr (.inl rfl)))));rintro(e|e|e)
   ·subst e;have:=j.symm.trans x;simp at this
   ·subst e;have:=j.symm.trans v;simp at this
   ·exact F b z e
theorem LG.keepS(h:cG w i s q)(c:Fr (cu q) w k)(d:∃cs,k.heap[g]?=some (.cells cs 58 (0,0)))(j:Fr (fun b=>b=q.D∨b=g∨mb b) k w')(l:∀b,mb b→∃r∈q.L,r.mb b){t:Option Addr}{v:Nat}{st:List SS}(x:cC w i t v st):cC w' i t v st:=by
 refine⟨x.1,?_⟩;rcases x.2 with z|⟨y,m,a,e,A,o,rest⟩
 ·exact .inl z
 ·exact .inr ⟨y,m,a,e,A,(LG.two h c d j).1 y a o l,rest⟩
theorem lR(h:cG w i s q)(v:q.n≠0)(hi:dY q.n=true)(hX:q.x=some ⟨X,0,none⟩)(y:q.nn=false)(z:1≤q.pause)(B:q.pause≤64)(E:0≤q.clock)(G:q.clock≤s)(hJ:Jn q.n q.nn q.em q.L u p)(U:q.fd=false→rs=p)(hW:wa q X Le rs u id st s w kk k)(hg:w.heap.size≤g)(m:∃cs,k.heap[g]?=some (.cells cs 58 (0,0)))(H:Fr (fun b=>b=q.D∨b=g) k w')(hl:aH w' q.D q.A q.Pp q.n q.nn q.em (.pointer q.x) q.pause q.clock q.fd q.Lv)(h5:kk≠5)(hk:∀I J,ye Le rs id st q.n kk I J→I=Le∧J=rs):∃q',q'.fl=q.fl∧dE w i (s+1) q q' w':=by
 obtain⟨a0,C',F',hP,hC,hF,j,K,M,N⟩:=hW;have d:Fr (fun b=>b=q.D∨b=g∨(fun _=>False) b) k w':=H.mono (fun _ _ h=>h.elim .inl (fun h=> .inr (.inl h)));have h2:=LG.two h j m d;have O:LG w' i q.Lv q.L:=by
  obtain⟨cg,P⟩:=m;have V:=j.keep h.l h.notD;refine⟨bP (bP h.a.o j (fun b c R=>h.notE R (lq (.inr (.inl rfl))))) H (fun b c R=>?_),fun r t=>LG.keepS h j ⟨cg,P⟩ d (fun _ h=>h.elim) (h.a.s r t),fun r t=>h2.2 r t fI,h.a.ne,h.a.n⟩;rintro(e|e)
  ·subst e;have:=R.symm.trans V;simp at this
  ·subst e;have:=R.symm.trans P;simp at this
 refine⟨{q with C:=C',F:=F'},rfl,?_⟩;have Q:∀r∈q.L,r.may≠[]∧r.may.length≤2*(s+1)+2:=fun r t=>⟨(h.ml r t).1,by have:=(h.ml r t).2;omega⟩;cases hP with
 |failed S T W e4 Y=>
  subst W;obtain⟨ck,Z⟩:=e4;exact oX (fd':=q.fd) (Lv':=q.Lv) (L':=q.L) (rs':=p) h v hi hX y z B E G hg m hC hF j K M d (fun _ h=>h.elim) hl O (E7 h.ln) Q h.ls h.lo q.sL q.sM N hJ (.inr ⟨S,Le,rs,ck,Z,Y⟩)
 |kept S T W e4 Y e6=>
  obtain⟨rfl,rfl⟩:=hk _ _ T;obtain rfl:=Y rfl;obtain rfl:=U S;exact oX (fd':=q.fd) (Lv':=q.Lv) (L':=q.L) (rs':=_) h v hi hX y z B E G hg m hC hF j K M d (fun _ h=>h.elim) hl O (E7 h.ln) Q h.ls h.lo q.sL q.sM N hJ (.inl ⟨S,_,W,e6⟩)
 |cut _ T _ _ _ _ _ _ _=>exact absurd T h5
theorem jV(h:cG w i s q)(aD:q.n≠0)(hi:dY q.n=true)(hX:q.x=some ⟨X,0,none⟩)(O:q.nn=false)(aE:1≤q.pause)(aF:q.pause≤64)(aG:0≤q.clock)(aI:q.clock≤s)(hJ:Jn q.n q.nn q.em q.L u rs)(ah:q.fd=false)(E:aO id st=true)(R:∀a∈Le,a.id≠id)(hW:wa q X Le rs u id st s w kk k)(hg:w.heap.size≤g)(Y:∃cs,k.heap[g]?=some (.cells cs 58 (0,0)))(Z:Fr (fun b=>b=q.D∨b=g∨mb b) k w')(an:∀b,mb b→∃r∈q.L,r.id=id∧r.mb b){bo:Option Addr}{cb:Nat}(aJ:cC w i bo cb st){f:List RS}(z:∀r,r∈f↔r∈q.L∧r.id≠id)(ao:f.Pairwise (fun a b=>a.id<b.id))(ap:f.Pairwise kt)(aK:f.length≤s){G:Bool}{T:Value}{j:Nat}{t:Bool}{sn:RS}(hf:fM f id j t)(hl:aH w' q.D q.A q.Pp q.n q.nn q.em (.pointer q.x) q.pause q.clock G T)(ad:w'.ownsRow w.heap.size 223 7 T (f.length+1) (az (f.take j++sn::f.drop j)))(e1:sn.id=id)(e2:sn.sa=bo)(e3:sn.sc=cb)(e4:sn.st=st)(e5:sn.tries=0)(e6:sn.due=0)(aL:cm w' i sn)(aM:sn.may≠[]∧sn.may.length≤2*(s+1)+2)(aq:∀b,sn.mb b→mb b∨w.heap.size≤b)(hk:(kk=0∧G=false∧sn.S=(1,1)∧sn.may=[(1,1)])∨(Ah q.L id sn∧sn.S=(0,0)∧((kk=3∧G=false)∨(kk=5∧G=true∧((1,1):SP)∈sn.may)))):∃q',q'.fl=q.fl∧dE w i (s+1) q q' w':=by
 obtain⟨ar,C',F',hP,hC,hF,a0,aP,aQ,aR⟩:=hW;have aS:i≤w.heap.size:=by have h1:=h.sl q.D (.inl rfl);have h2:=lt_of_heap h.l;omega
 have M:∀b,mb b→∃r∈q.L,r.mb b:=fun b U=>by obtain⟨r,y,_,h⟩:=an b U;exact⟨r,y,h⟩
 obtain⟨au,hm,V⟩:=uU (sn:=sn) ao (fun r y=>((z r).1 y).2) hf e1;have hO:lW q.L f (f.take j++sn::f.drop j) id sn:=⟨hm,z,e1⟩;have h2:=LG.two h a0 Y Z;have ae:∀r∈f,∀b,r.mb b→¬mb b:=fun r y b U aT=>by
  obtain⟨r2,av,aw,aU⟩:=an b aT;obtain⟨ax,ay⟩:=(z r).1 y;obtain⟨i1,aV⟩:=E6.1 ax;obtain⟨i2,aW⟩:=E6.1 av;obtain⟨l1,g1⟩:=Co.1 aV;obtain⟨l2,g2⟩:=Co.1 aW;have ai:=h.a.ne;rw[D7]at ai;obtain⟨o1,s1,K⟩:=U;obtain⟨o2,s2,P⟩:=aU;have z1:=aN (h.a.m r ax);have z2:=aN (h.a.m r2 av);obtain⟨b7,c1,q1,_,k1⟩:=z1;obtain⟨b8,c2,q2,_,k2⟩:=z2;simp only[DW,FK]at q1 q2;have j1:=k1 ⟨b,o1,s1⟩ (by rw[←q1.1];exact K);have j2:=k2 ⟨b,o2,s2⟩ (by rw[←q2.1];exact P);simp only at j1 j2;have aA:r.ma=r2.ma:=by rw[K,P,j1.1,j1.2,j2.1,j2.2]
  rcases EJ i1 i2 with aj|he|aj
  ·have:=ai i1 i2 l1 l2 aj;rw[g1,g2]at this;exact this _ K (by rw[←aA];exact K)
  ·subst he;rw[g1]at g2;subst g2;exact ay aw
  ·have:=ai i2 i1 l2 l1 aj;rw[g1,g2]at this;exact this _ P (by rw[aA];exact P)
 have aX:LG w' i T (f.take j++sn::f.drop j):=by
  refine zq hm V (bg ad aS) (fun r y=>LG.keepS h a0 Y Z M (h.a.s r ((z r).1 y).1)) (fun r y=>h2.2 r ((z r).1 y).1 (ae r y)) ap (fun r y=>h.a.n r ((z r).1 y).1) (by rw[e2,e3,e4];exact LG.keepS h a0 Y Z M aJ) aL (by rw[e4];have:=cZ id st E;omega) (fun r y a K P=>?_);obtain⟨b,o,sp⟩:=a;rcases aq b ⟨o,sp,P⟩with U|U
  ·exact ae r y b ⟨o,sp,K⟩ U
  ·have:=((h.a.m r ((z r).1 y).1).blk ⟨o,sp,K⟩).1;omega
 have af:1≤id:=by have:=cZ id st E;omega
 have b9:=hJ;have v:bw q.L rs∧q.em=false∧(JZ q.n u (rs.map ba.bytes)∨∃Q r,rs=Q++[r]∧bw q.L Q)∧JD q.n u (rs.map ba.bytes):=by
  rcases hJ.2.2 with⟨_,a,b,c,d⟩|⟨a,_⟩
  ·exact⟨c,a,d,b⟩
  ·rw[O]at a;cases a
 have aY:∀r∈f.take j++sn::f.drop j,r.may≠[]∧r.may.length≤2*(s+1)+2:=fun r y=>by
  rcases(hm r).1 y with rfl|y
  ·exact aM
  ·have:=h.ml r ((z r).1 y).1;exact⟨this.1,by omega⟩
 have aZ:∀r∈f.take j++sn::f.drop j,aO r.id r.st=true:=fun r y=>by
  rcases(hm r).1 y with rfl|y
  ·rw[e1,e4];exact E
  ·exact h.ls r ((z r).1 y).1
 have b0:∀b,(∃r∈f.take j++sn::f.drop j,r.mb b)→q.S b∨w.heap.size≤b:=fun b ⟨r,y,U⟩=>by
  rcases(hm r).1 y with rfl|y
  ·rcases aq b U with h1|h1
   ·exact q.sM b (M b h1)
   ·exact .inr h1
  ·exact q.sM b ⟨r,((z r).1 y).1,U⟩
 have aa:∀{H},Jn q.n q.nn q.em (f.take j++sn::f.drop j) ar H→((G=false∧∃I,EG k (s+1) X q.A q.B q.n q.clock q.pause (ge q.fl q.Pp) I H ar C' F'∧ci false I (f.take j++sn::f.drop j))∨(G=true∧∃I aB ck,ED k X q.n ck q.pause (ge q.fl q.Pp) I aB F'∧bw (f.take j++sn::f.drop j) aB))→∃q',q'.fl=q.fl∧dE w i (s+1) q q' w':=fun{H} b2 b3=>
  ⟨{q with fd:=G,Lv:=T,L:=f.take j++sn::f.drop j,C:=C',F:=F'},rfl,oX (fd':=G) (Lv':=T) (L':=f.take j++sn::f.drop j) (rs':=H) h aD hi hX O aE aF aG aI hg Y hC hF a0 aP aQ Z M hl aX (by rw[V];omega) aY aZ au (fun b U=> .inr (ad.lt b U).1) b0 aR b2 b3⟩
 rcases hk with⟨rfl,rfl,hS,aC⟩|⟨N,hS,⟨rfl,rfl⟩|⟨rfl,rfl,b4⟩⟩
 ·cases hP with
  |failed e _ _ _ _=>rw[ah]at e;cases e
  |cut _ e _ _ _ _ _ _ _=>cases e
  |kept a1 a2 a3 a4 a5 a6=>
   rcases a2 with⟨J,_⟩|⟨_,a,ha,W,_⟩|⟨_,_,⟨_,rfl,rfl⟩|⟨J,_⟩⟩
   ·rw[E]at J;cases J
   ·exact absurd W (R a ha)
   ·have ag:=a4 (by simp);refine aa ⟨a3.1.ok,a3.1.nd,.inl ⟨O,v.2.1,ag.jd,hO.take af v.1 a3.1.ok (by rw[aC];simp) e4,.inl ag.jz⟩⟩ (.inl ⟨rfl,_,a3,hO.tellsN a6 R hS e4 e5 e6⟩)
   ·cases J
 ·cases hP with
  |failed e _ _ _ _=>rw[ah]at e;cases e
  |cut _ e _ _ _ _ _ _ _=>cases e
  |kept a1 a2 a3 a4 a5 a6=>
   have ak:∀I H,ye Le rs id st q.n 3 I H→I=Le∧H=rs:=fun I H b5=>by
    rcases b5 with⟨J,_⟩|⟨_,a,ha,W,_⟩|⟨_,_,⟨J,_⟩|⟨_,_,c1,c2⟩⟩
    ·rw[E]at J;cases J
    ·exact absurd W (R a ha)
    ·cases J
    ·exact⟨c1,c2⟩
   obtain⟨rfl,rfl⟩:=ak _ _ a2;obtain rfl:=a5 rfl;refine aa ⟨hJ.1,hJ.2.1,.inl ⟨O,v.2.1,v.2.2.2,hO.same N v.1,?_⟩⟩ (.inl ⟨rfl,_,a3,hO.tells0 a6 R (by rw[hS])⟩);rcases v.2.2.1 with hz|⟨Q,r,e,al⟩
   ·exact .inl hz
   ·exact .inr ⟨Q,r,e,hO.same N al⟩
 ·cases hP with
  |failed e _ _ _ _=>rw[ah]at e;cases e
  |kept a1 a2 a3 a4 a5 a6=>
   rcases a2 with⟨J,_⟩|⟨_,a,ha,W,_⟩|⟨_,_,⟨J,_⟩|⟨J,_⟩⟩
   ·rw[E]at J;cases J
   ·exact absurd W (R a ha)
   ·cases J
   ·cases J
  |cut a1 a2 a3 a4 a5 a6 a7 a8 a9=>
   have ab:=hO.same N v.1;rcases a7 with⟨hj,hz⟩|hj
   ·refine aa ⟨hJ.1,hJ.2.1,.inl ⟨O,v.2.1,hj,ab,?_⟩⟩ (.inr ⟨rfl,_,_,_,a8,ab⟩);rcases v.2.2.1 with b6|⟨Q,r,e,al⟩
    ·exact .inl (hz b6)
    ·exact .inr ⟨Q,r,e,hO.same N al⟩
   ·exact aa ⟨a6.ok,a6.nd,.inl ⟨O,v.2.1,hj,hO.take af v.1 a6.ok b4 e4,.inr ⟨rs,_,rfl,ab⟩⟩⟩ (.inr ⟨rfl,_,_,_,a8,ab⟩)
end
theorem ko{i b:List AS}{l c:List ba}{id:Int}{st:List SS}{n:Nat}{m:Int}(h:ye i l id st n m b c)(j:m≠0∨∃a∈i,a.id=id):b=i∧c=l:=by
 rcases h with⟨_,_,d,g⟩|⟨_,_,_,_,_,d,g⟩|⟨_,k,⟨o,_⟩|⟨_,_,d,g⟩⟩
 ·exact⟨d,g⟩
 ·exact⟨d,g⟩
 ·rcases j with j|⟨a,p,e⟩
  ·exact absurd o j
  ·exact absurd e (k a p)
 ·exact⟨d,g⟩
section
variable{w:World}{f s:Nat}{q:DQ}
theorem oy(h:cG w f s q)(hs:s<50000)(hG:cN w)(M:1<f)(hx:q.x≠none)(id:Int){bo:Option Addr}{cb:Nat}{st:List SS}(V:cC w f bo cb st)(aB:st.length≤100000):Calls prog 84 #[.pointer (some ⟨q.D,0,none⟩),.int .i64 id,.slice bo st.length cb] w fun e w'=>e= .returned (.bool true)∧∃q',q'.fl=q.fl∧dE w f (s+1) q q' w':=by
 rcases h.g with⟨_,e,_⟩|⟨a1,ds,aI,hd,hj,aP⟩
 ·exact absurd e hx
 have hi:dY q.n=true:=by
  cases hi:dY q.n with
  |true=>rfl
  |false=>exact absurd (aP hi) hx
 obtain⟨hJ,aC⟩:=hj hi;rcases aC with e|⟨X,hX,Y,a3,a4,a5,a6,aC⟩
 ·exact absurd e hx
 obtain⟨Z,rs,hE,a0,aQ⟩:∃Z rs,((q.fd=false∧EG w s X q.A q.B q.n q.clock q.pause (ge q.fl q.Pp) Z rs ds q.C q.F∧ci false Z q.L)∨(q.fd=true∧(∃ck,ED w X q.n ck q.pause (ge q.fl q.Pp) Z rs q.F)∧bw q.L rs))∧(q.fd=false→rs=aI)∧Z.Pairwise (fun a b=>a.id<b.id):=by
  rcases aC with⟨h7,Z,h8,h9⟩|⟨h7,Z,aR,ck,h8,h9⟩
  ·exact⟨Z,aI,.inl ⟨h7,h8,h9⟩,fun _=>rfl,h8.1.so⟩
  ·exact⟨Z,aR,.inr ⟨h7,⟨ck,h8⟩,h9⟩,(fun e=>by rw[h7]at e;cases e),h8.1.so⟩
 obtain⟨ao,aY,aw,_⟩:=aN h.a.o;have hl:=h.l;have ha:=h.a;have a7:=h.lo;have aZ:=h.ln;rw[aw]at hl ha;have aD:(Value.pointer q.x)= .pointer (some ⟨X,0,none⟩):=by rw[hX]
 have aE:∀W,Fr (fun _=>False) w W→Calls prog 37 #[.pointer (some ⟨q.A,0,none⟩)] W fun e w2=>e= .returned (.int .i64 ds.d.told)∧w2=W:=fun W hf=>(hd.fr hf jI jI fI).told;obtain⟨b0,hp⟩:=h.p;obtain⟨b4,lo,aX,pe,pl,pa,ax⟩:=hp.pp;have af:∀r∈q.L,r.may.length≤1000000:=fun r I=>by have:=(h.ml r I).2;omega
 have ay:f≤w.heap.size:=by have h1:=h.sl q.D (.inl rfl);have h2:=lt_of_heap h.l;omega
 have aj:q.fd=false→bw q.L rs:=fun e=>by
  rw[a0 e];rcases hJ.2.2 with⟨_,_,_,c,_⟩|⟨a,_⟩
  ·exact c
  ·rw[Y]at a;cases a
 have J:q.fd=false→gr q.n q.clock Z rs∧ci false Z q.L:=fun e=>by
  rcases hE with⟨_,h8,h9⟩|⟨h7,_⟩
  ·exact⟨h8.1,h9⟩
  ·rw[e]at h7;cases h7
 have ak:∀L1:List RS,q.fd=false→L1.Pairwise (fun a b=>a.id<b.id)→(∀r,r∈q.L→r.id≠id→r∈L1)→(∀a∈Z,a.id≠id)→q.n<1+(Z.map fun a=>2*a.st.length).sum+2*st.length→q.n<cQ L1 st.length:=fun L1 e ah hm N b5=>by
  obtain⟨a8,aS⟩:=J e;have:=oV aQ ah (fun a ha=>by
   obtain⟨r,I,k⟩:=aS.all a ha;exact⟨r,hm r I (by rw[k];exact N a ha),k,(a8.st (aj e) ha I k.symm).symm⟩)
  unfold cQ;omega
 have al:=fun(w1:World) (g:Nat) aa O P=>yp (X:=X) (Le:=Z) (rs:=rs) (id:=id) (st:=st) (w1:=w1) (g:=g) h hs hG hi hd hE aa O P;have an:∀{T:Nat→Prop} {g:Nat} {w3:World} {Q:Int},(∀b,T b→b=q.D∨∃r∈q.L,r.mb b)→(∀W,Fr (fun b=>(b=q.D∨∃r∈q.L,r.mb b)∨b=g) w3 W→Calls prog 37 #[.pointer (some ⟨q.A,0,none⟩)] W fun e w2=>e= .returned (.int .i64 Q)∧w2=W)→∀W,Fr (fun b=>T b∨b=g) w3 W→Calls prog 37 #[.pointer (some ⟨q.A,0,none⟩)] W fun e w2=>e= .returned (.int .i64 Q)∧w2=W:=fun hT K W hf=>K W (hf.mono (fun b _ h=>h.imp_left (hT b)));have az:q.L.length≤100000:=by omega
 by_cases hex:∃r∈q.L,r.id=id
 ·obtain⟨r,I,i⟩:=hex;obtain⟨k0,aF⟩:=E6.1 I;by_cases ab:r.S.1=0
  ·by_cases ag:r.st=st
   ·have G:aO id st=true:=by rw[←i,←ag];exact h.ls r I
    obtain⟨ah,aJ,aT,aG⟩:=vi a7 aF;have N:q.fd=false→∀a∈Z,a.id≠id:=fun e=>by rw[←i];exact(J e).2.absent (J e).1 I ab
    refine(qf (Post:=fun kk w3=>wa q X Z rs ds id st s w kk w3) (S:=cu q) (b:=f) (td:=ds.d.told) hl ax ha az af a7 hG (h.ng M (fun b M=>M.own)) id st V aB h.mine (fun b M=>h.lt M.own) aE aF i ab ag (h.ml r I).1 G ay ?_).mono ?_
    ·intro w1 g aa O P;rw[aD];refine(al w1 g aa O P).mono ?_;rintro e w3 ⟨v,kk,Q,rfl,hv,h5,ap,K,aq⟩;refine⟨v,kk,Q,rfl,hv,?_,an (fun b M=>M.imp_right (fun h=>⟨r,I,h⟩)) ap,K,aq⟩;obtain⟨aK,C',F',hP,_⟩:=K;cases hP with
     |failed m k _ _ _=>exact .inl ⟨m,k⟩
     |cut m k _ _ _ _ _ _ _=>exact .inr ⟨m,.inr (.inr ⟨k,h5 k⟩)⟩
     |kept m k _ _ _ _=>
      refine .inr ⟨m,?_⟩;rcases k with⟨b1,_⟩|⟨_,a,u,ar,_⟩|⟨_,a9,⟨b1,_⟩|⟨b1,b2,_⟩⟩
      ·rw[G]at b1;cases b1
      ·exact absurd ar (N m a u)
      ·exact .inl b1
      ·exact .inr (.inl ⟨b1,ak _ m ah (fun p a8 aU=>(aJ p).2 ⟨a8,by rw[i];exact aU⟩) a9 b2⟩)
    ·rintro e w' ⟨kk,Q,R,ad⟩;have ai:∀p,p∈q.L.take k0++q.L.drop (k0+1)↔p∈q.L∧p.id≠id:=fun p=>by rw[←i];exact aJ p
     have au:=h.a.ne.sublist aG;have aH:∀b,r.mb b→∃p∈q.L,p.id=id∧p.mb b:=fun b M=>⟨r,I,i,M⟩;have U:kk≠4→q.fd=false:=fun hk=>by
      rcases R with⟨_,e⟩|⟨e,_⟩
      ·exact absurd e hk
      ·exact e
     have aA:∀sn:RS,sn.st=st→(∀x∈r.may,x∈sn.may)→Ah q.L id sn:=fun sn aV hx aL hm=>by refine⟨hx _ (by rw[←i];exact hm.may r I),fun a u e=>?_⟩;rw[aV,←ag];exact hm.st r I a u (e.trans i.symm)
     rcases ad with⟨rfl,rfl,wS,g,K,O,y,z,E⟩|⟨rfl,rfl,wS,g,K,O,y,z,j,t,v,sn,hf,E,H,m,k,e3,e4,e5,e6,n1,n2,n3,n4⟩|⟨rfl,rfl,wS,g,K,O,y,z,j,t,v,sn,hf,E,H,m,k,e3,e4,e5,e6,n1,n2,n3,n4,n5⟩|⟨rfl,rfl,wS,g,K,O,y,z,j,t,v,sn,hf,E,H,m,k,e3,e4,e5,e6,n1,n2,n3,n4⟩
     ·exact⟨rfl,lR h a1 hi hX Y a3 a4 a5 a6 hJ a0 K O y z (by rw[aw];exact E) (by decide) (fun _ _ hc=>ko hc (.inl (by decide)))⟩
     ·have e:=U (by decide);obtain rfl:=a0 e;exact⟨rfl,jV h a1 hi hX Y a3 a4 a5 a6 hJ e G (N e) K O y z aH V ai ah au (by omega) hf E H m k e3 e4 e5 e6 (bg (n4.o (by rw[n2,n1]) n3) ay) (by rw[n2];simp) (fun b ⟨o,sp,ae⟩=>by obtain⟨g',k1,k2,_⟩:=n4;rw[k2]at ae;simp at ae;exact .inr (by omega)) (.inl ⟨rfl,rfl,n1,n2⟩)⟩
     ·have e:=U (by decide);obtain rfl:=a0 e;exact⟨rfl,jV h a1 hi hX Y a3 a4 a5 a6 hJ e G (N e) K O y z aH V ai ah au (by omega) hf E H m k e3 e4 e5 e6 n5 (by rw[n2];have:=h.ml r I;exact⟨this.1,by omega⟩) (fun b ⟨o,sp,ae⟩=> .inl ⟨o,sp,by rw[←n3];exact ae⟩) (.inr ⟨aA sn e4 (fun x hx=>by rw[n2];exact hx),n1,.inl ⟨rfl,rfl⟩⟩)⟩
     ·have e:=U (by decide);obtain rfl:=a0 e;exact⟨rfl,jV h a1 hi hX Y a3 a4 a5 a6 hJ e G (N e) K O y z aH V ai ah au (by omega) hf E H m k e3 e4 e5 e6 n3 (by rw[n2];have:=h.ml r I;exact⟨by simp,by rw[Cr];simp;omega⟩) n4 (.inr ⟨aA sn e4 (fun x hx=>by rw[n2];exact Fy _ hx),n1,.inr ⟨rfl,rfl,by rw[n2];simp⟩⟩)⟩
   ·refine(qr hl ax ha az af a7 id st V aF i ab ag).mono ?_;rintro e w' ⟨rfl,hf⟩;exact⟨rfl,q,rfl,h.stay hf⟩
  ·refine(qB (Post:=fun kk w3=>wa q X Z rs ds id st s w kk w3) (S:=cu q) (b:=f) (td:=ds.d.told) hl ax ha az af a7 hG (h.ng M (fun b M=>M.own)) id st V aB h.mine (fun b M=>h.lt M.own) aE I i ab ?_).mono ?_
   ·intro w1 g aa O P;rw[aD];refine(al w1 g aa O P).mono ?_;rintro e w3 ⟨v,kk,Q,rfl,hv,h5,ap,K,aq⟩;refine⟨v,kk,Q,rfl,hv,?_,an (fun b M=>M.elim) ap,K,aq⟩;obtain⟨aK,C',F',hP,_⟩:=K;cases hP with
    |failed m k _ _ _=>exact .inl ⟨m,k⟩
    |cut m k _ _ e5 _ _ _ _=>
     obtain⟨a,u,e⟩:=(J m).2.there I ab;exact absurd (e.trans i) (e5 a u)
    |kept m k _ _ _ _=>
     refine .inr ⟨m,?_⟩;obtain⟨a,u,e⟩:=(J m).2.there I ab;rcases k with⟨b1,b2,_⟩|⟨b1,a2,aW,ar,b2,_⟩|⟨_,a9,_⟩
     ·exact .inl ⟨b1,b2⟩
     ·have aM:=(J m).1.st (aj m) aW I (ar.trans i.symm);exact .inr ⟨b1,by rw[←aM];exact b2⟩
     ·exact absurd (e.trans i) (a9 a u)
   ·rintro e w' ⟨kk,R,rfl,wS,g,K,O,y,z,E⟩;refine⟨rfl,lR h a1 hi hX Y a3 a4 a5 a6 hJ a0 K O y z (by rw[aw];exact E) ?_ (fun _ _ hc=>ko hc ?_)⟩
    ·rcases R with⟨_,e⟩|⟨_,⟨_,e⟩|⟨_,e⟩⟩
     ·omega
     ·omega
     ·split at e<;>omega
    ·by_cases m:q.fd=false
     ·obtain⟨a,u,e⟩:=(J m).2.there I ab;exact .inr ⟨a,u,e.trans i⟩
     ·rcases R with⟨_,e⟩|⟨e,_⟩
      ·exact .inl (by omega)
      ·exact absurd e m
 ·have N:∀r∈q.L,r.id≠id:=fun r I e=>hex ⟨r,I,e⟩;have av:q.fd=false→∀a∈Z,a.id≠id:=fun e a u k=>by obtain⟨r,I,e3⟩:=(J e).2.all a u;exact N r I (e3.trans k)
  refine(rc (Post:=fun kk w3=>wa q X Z rs ds id st s w kk w3) (S:=cu q) (b:=f) (td:=ds.d.told) hl ax ha az af a7 hG (h.ng M (fun b M=>M.own)) id st V aB h.mine (fun b M=>h.lt M.own) aE N ?_).mono ?_
  ·intro w1 g aa O P;rw[aD];refine(al w1 g aa O P).mono ?_;rintro e w3 ⟨v,kk,Q,rfl,hv,h5,ap,K,aq⟩;refine⟨v,kk,Q,rfl,hv,?_,an (fun b M=> .inl M) ap,K,aq⟩;obtain⟨aK,C',F',hP,_⟩:=K;cases hP with
   |failed m k _ _ _=>exact .inl ⟨m,k⟩
   |cut m k _ e4 _ _ _ _ _=>exact .inr ⟨m,.inr ⟨e4,.inr (.inr ⟨k,h5 k⟩)⟩⟩
   |kept m k _ _ _ _=>
    refine .inr ⟨m,?_⟩;rcases k with⟨b1,b2,_⟩|⟨_,a,u,ar,_⟩|⟨b1,a9,⟨b2,_⟩|⟨b2,b3,_⟩⟩
    ·exact .inl ⟨b1,b2⟩
    ·exact absurd ar (av m a u)
    ·exact .inr ⟨b1,.inl b2⟩
    ·exact .inr ⟨b1,.inr (.inl ⟨b2,ak _ m a7 (fun p a8 _=>a8) a9 b3⟩)⟩
  ·rintro e w' ⟨kk,Q,R,ad⟩;have ai:∀p,p∈q.L↔p∈q.L∧p.id≠id:=fun p=>⟨fun a8=>⟨a8,N p a8⟩,fun h=>h.1⟩;have U:kk=0∨kk=5→q.fd=false∧aO id st=true:=fun hk=>by
    rcases R with⟨_,e⟩|⟨e,⟨_,k⟩|⟨k,_⟩⟩
    ·omega
    ·omega
    ·exact⟨e,k⟩
   rcases ad with⟨b6,rfl,wS,g,K,O,y,z,E⟩|⟨rfl,rfl,wS,g,K,O,y,z,j,t,v,sn,hf,E,H,m,k,e3,e4,e5,e6,n1,n2,n3,n4⟩|⟨rfl,rfl,wS,g,K,O,y,z,j,t,v,sn,hf,E,H,m,k,e3,e4,e5,e6,n1,n2,n3,n4⟩
   ·exact⟨rfl,lR h a1 hi hX Y a3 a4 a5 a6 hJ a0 K O y z (by rw[aw];exact E) (by omega) (fun _ _ hc=>ko hc (.inl (by omega)))⟩
   ·obtain⟨e,G⟩:=U (.inl rfl);obtain rfl:=a0 e;exact⟨rfl,jV h a1 hi hX Y a3 a4 a5 a6 hJ e G (av e) K O y z (fun _ h=>h.elim) V ai a7 h.a.ne h.ln hf E H m k e3 e4 e5 e6 (bg (n4.o (by rw[n2,n1]) n3) ay) (by rw[n2];simp) (fun b ⟨o,sp,ae⟩=>by obtain⟨g',k1,k2,_⟩:=n4;rw[k2]at ae;simp at ae;exact .inr (by omega)) (.inl ⟨rfl,rfl,n1,n2⟩)⟩
   ·obtain⟨e,G⟩:=U (.inr rfl);obtain rfl:=a0 e;refine⟨rfl,jV h a1 hi hX Y a3 a4 a5 a6 hJ e G (av e) K O y z (fun _ h=>h.elim) V ai a7 h.a.ne h.ln hf E H m k e3 e4 e5 e6 (bg n3 ay) (by rw[n2];simp) n4 (.inr ⟨fun aL hm=>?_,n1,.inr ⟨rfl,rfl,by rw[n2];simp⟩⟩)⟩;have a9:∀a∈bh aL,a.id≠id:=fun a u k=>by obtain⟨r,I,e3⟩:=hm.all a u;exact N r I (e3.trans k)
    exact⟨by rw[fj a9,n2];simp,fun a u k=>absurd k (a9 a u)⟩
end
theorem uK{Post:World→Prop}{w:World}{D A m n:Nat}{nn em:Bool}{x:Value}{pause clock td:Int}{Lv:Value}{a:List (CL×Nat)}{g:Bool}(h:aH w D A m n nn em x pause clock true Lv)(o:Calls prog 37 #[.pointer (some ⟨A,0,none⟩)] w fun e E=>e= .returned (.int .i64 td)∧E=w)(p:r9 w m a)(L:Calls prog 23 #[x] w fun e d=>∃v,e= .returned v∧oQ d v 4∧cN d∧aH d D A m n nn em x pause clock true Lv∧Post d∧r9 d m a):Calls prog 85 #[.pointer (some ⟨D,0,none⟩),.bool g] w fun e M=>e= .returned (.bool true)∧∃N,Post N∧Fr (fun _=>False) N M:=by
 obtain⟨H,I,Q,R,V,O,P,_,_⟩:=p;have p0:w.cell? ⟨m,0,none⟩=some (.slice H a.length I):=(Cn _ _ 0 _ _ _ O).trans rfl;have c0:=h.c0;have c1:=h.c1;have c5:=h.c5;clear h;go_enter func85,ntmps85;go_wp2_with fail;refine o.mono ?_;rintro e M ⟨rfl,q⟩;rw[q];clear q o;go_wp2_with fail;refine L.mono ?_;rintro e d ⟨v,rfl,J,r,s,b,⟨F,lc,X,Y,Z,f,S,i,t⟩⟩;have j:=af b;have T:=J.1;have u:=J.2 d (Fr.refl _ _) r;clear c0 c1 c5 p0 O L b J r;go_wp2_with fail;refine u.mono ?_;rintro e E ⟨rfl,c⟩;go_wp2_with fail;refine(eS _ E).mono ?_;rintro e U ⟨rfl,q⟩;rw[q];clear q u;obtain⟨G,k⟩:∃G:Value,Hid (G= .slice F a.length lc):=⟨_,rfl⟩;have y:=c.keep f jI;have q0:E.cell? ⟨m,0,none⟩=some G:=by rw[k.out];exact(Cn _ _ 0 _ _ _ y).trans rfl
 have l:=s.fr c jI;have c1:=l.c1;have c8:=l.c8;obtain⟨K,z⟩:∃K,(if lc=a.length then F else F.map (fun x=>x.add (a.length*5)))=K:=⟨_,rfl⟩;have B:Hid (∀W,(Instr.sliceAt 45 G (some (.int .i64 a.length)) none none).run prog W= .ok (.slice K 0 (lc-a.length)) W):=fun W=>by rw[k.out,←z,uf F _ lc a.length (Cs _) W,Em]
 have C:=af c;clear s f i z k t y l c;go_wp2_with (refine aR 45 _ _ _ _ rfl rfl (by exact B.out _) ?_);go_ret;exact⟨rfl,d,j.out,C.out⟩
theorem nQ(a:AS):¬a.moves 1=true:=by simp[AS.moves]
theorem o9(b pause:Int)(L:List AS)(s:jY.σ):AU b pause L (aq jY b pause L s).1∧(aq jY b pause L s).2.2=[]:=by
 unfold AU;induction L generalizing s with
 |nil=>exact⟨rfl,rfl⟩
 |cons a l f=>
  have d:(aT jY b pause a s).1=(if a.dueB b=true then a.vain b pause else a)∧(aT jY b pause a s).2.2=[]:=by
   unfold aT;by_cases c:a.open∧a.due≤b
   ·rw[CE c,CE (show a.dueB b=true from Dg c)];have e:¬a.moves ((jY.ask s a.asks).1:Nat)=true:=nQ a;exact⟨by simp only[AS.after,Cz e],by simp only[Cz e]⟩
   ·rw[Cz c,Cz (show¬a.dueB b=true from by simpa[AS.dueB]using c)];exact⟨rfl,rfl⟩
  obtain⟨g,h⟩:=f (aT jY b pause a s).2.1;refine⟨?_,?_⟩
  ·show(aT jY b pause a s).1::(aq jY b pause l (aT jY b pause a s).2.1).1=_;rw[d.1,g];rfl
  ·show(aT jY b pause a s).2.2++(aq jY b pause l (aT jY b pause a s).2.1).2.2=[];rw[d.2,h];rfl
end Go.Proofs.YteebjgfalllbjaaGreatDoor
