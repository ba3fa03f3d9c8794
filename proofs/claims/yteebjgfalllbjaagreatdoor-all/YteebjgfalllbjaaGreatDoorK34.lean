import Derived.Test.YteebjgfalllbjaaGreatDoorK31
import Derived.Test.YteebjgfalllbjaaGreatDoorK33
namespace Go.Proofs.YteebjgfalllbjaaGreatDoor
open Go.RowKit Go.Proofs.Tryz
set_option maxRecDepth 100000
set_option maxHeartbeats 4000000
section
variable{w:World}{V A B n base:Nat}{a:Value}{s:DS}
theorem zo(X:aZ w V A n)(h:bi w A B n base a s)(hq:s.d.Q)(K:s.ents.length<800000)(L:8≤n)(hn:n≤400)(M:∀i,i<n→li i)(Y:cN w)(m:1<base)(a0:base≤A)(a1:base≤B):Calls prog 88 #[.pointer (some ⟨V,0,none⟩)] w fun N z=>∃v j,N= .returned v∧bi z A B n base j (bF s n).2∧CB w a j∧Fr (fK A B a) w z∧qn (bF s n).1 z v True True:=by
 have a2:=re;have E:Fr (fun _=>False) w (w.alloc (.cells #[.pointer (some ⟨V,0,none⟩)] 155)):=(Fr.refl _ _).alloc _;have Z:=aa w (.cells #[.pointer (some ⟨V,0,none⟩)] 155);have a3:=h.d.lt;have a4:=lt_of_heap h.r.1;have a5:=lt_of_heap X;have C:=fun b m=>h.q.o.lt b m;have hT:=jX (w:=w.alloc (.cells #[.pointer (some ⟨V,0,none⟩)] 155)) (f:=136) (caps:=#[.pointer (some ⟨w.heap.size,0,none⟩)]) (Q:=fun v z=>∃j,bi z A B n base j (bF s n).2∧CB w a j∧Fr (fK A B a) w z∧qn (bF s n).1 z v True True) (fun _=>by kernel_rfl) (by
  have F:Fr (fun _=>False) (w.alloc (.cells #[.pointer (some ⟨V,0,none⟩)] 155)) ((w.alloc (.cells #[.pointer (some ⟨V,0,none⟩)] 155)).alloc (.cells #[.nilIface] 36)):=(Fr.refl _ _).alloc _;have p:=E.trans F fI;have hH:fT ((w.alloc (.cells #[.pointer (some ⟨V,0,none⟩)] 155)).alloc (.cells #[.nilIface] 36)) w.heap.size V A B n base a s:=⟨F.keep Z jI,p.keep X jI,h.frz p⟩;refine(xL hH hq K L hn M (Y.fr p ka) (fun g O=>by
   have:=O.le;rintro(e|e|e)
   ·omega
   ·omega
   ·have:=C _ e;omega)).mono ?_
  rintro N w1 ⟨k,P,R,v1,f1,r1⟩;have S:∀b,w.heap.size≤b→¬fK A B a b:=by
   rintro b m (e|e|e)
   ·omega
   ·omega
   ·have:=C b e;omega
  have T:=f1.keep (aa _ _) (S _ (by simp));have y:CB w a k:=fun b m=>(R b m).imp_right (fun h=>Ct p.size h);have D:=(p.mono (fun _ _ h=>h.elim)).trans f1 fI;have l:∀(u:World) (v:Value),Fr (fun b=>b=w.heap.size+1) u (u.setCell ⟨(w.alloc (.cells #[.pointer (some ⟨V,0,none⟩)] 155)).heap.size,0,none⟩ v):=fun u v=>by have:=Fr.set1 u (w.alloc (.cells #[.pointer (some ⟨V,0,none⟩)] 155)).heap.size 0 v;simpa using this
  have G:∀{u:World} {s':DS},bi u A B n base k s'→u.heap[(w.alloc (.cells #[.pointer (some ⟨V,0,none⟩)] 155)).heap.size]?=some (.cells #[.nilIface] 36 (0,0))→∀b,fK A B k b→¬b=w.heap.size+1:=by
   intro u s' hu U b m e;subst e;have H:u.heap[w.heap.size+1]?=some (.cells #[.nilIface] 36 (0,0)):=by simpa using U
   exact hu.not H (by decide) m
  refine⟨T,?_⟩;rcases r1.out with⟨ok,rfl⟩|⟨bad,g,rfl,J⟩
  ·exact .inl ⟨_,rfl,rfl,k,P.fr (l _ _) (G P T),y,(D.trans (l _ _) (fun b m h=>by omega)),gp.pos ok ⟨rfl,trivial⟩⟩
  ·refine .inr ⟨g,rfl,Y.fr D (fun g O=>by
    have:=O.le;rintro(e|e|e)
    ·omega
    ·omega
    ·have:=C _ e;omega),fun w2 x=>?_⟩
   have I:=x.keep T jI;have d2:=P.frz x;refine⟨k,d2.fr (l _ _) (G d2 I),y,((D.trans (x.mono (fun _ _ h=>h.elim)) fI).trans (l _ _) (fun b m h=>by omega)),gp.neg bad ⟨trivial,g,rfl,?_⟩⟩;refine(J.fr x (fun _ _ _ _ _ h=>h)).fr (l _ _) (fun b c t m J e=>?_);subst e;have W:w2.heap[w.heap.size+1]?=some (.cells #[.nilIface] 36 (0,0)):=by simpa using I
   rw[W]at m;simp at m;rw[←m.2]at J;revert J;decide)
 clear E Z;go_enter func88,ntmps88;go_wp2_with fail;refine hT.mono ?_;rintro N w1 ⟨v,rfl,hQ⟩;have HQ:=af hQ;clear hT hQ;go_wp2;go_ret;obtain⟨j,q1,q2,q3,q4⟩:=HQ.out;exact⟨v,j,rfl,q1,q2,q3,q4⟩
end
structure Bd(k:Nat)(s:DS):Prop where
 c0:0≤s.d.calls
 c1:s.d.calls≤1000*(k:Int)
 w0:0≤s.d.writes
 w1:s.d.writes≤1000*(k:Int)
 t0:0≤s.d.told
 t1:s.d.told≤1000*(k:Int)
 e:s.ents.length≤402+2*k
theorem Bd.q{k:Nat}{s:DS}(h:Bd k s)(j:k<80000):s.d.Q:=by obtain⟨a,b,c,d,e,f,g⟩:=h;exact⟨a,by omega,c,by omega,e,by omega⟩
theorem Bd.moved{k:Nat}{s l:DS}{j:Int}(h:Bd k s)(m:bO j s.d l.d)(p:j≤1000)(q:l.ents.length≤s.ents.length+2):Bd (k+1) l:=by obtain⟨a,b,c,d,e,f,g⟩:=h;obtain⟨t,u,v,x,y,z,_⟩:=m;exact⟨by omega,by push_cast;omega,by omega,by push_cast;omega,by omega,by push_cast;omega,by omega⟩
theorem Bd.mono{k l:Nat}{s:DS}(h:Bd k s)(j:k≤l):Bd l s:=by obtain⟨a,b,c,d,e,f,g⟩:=h;exact⟨a,by omega,c,by omega,e,by omega,by omega⟩
def DG(w:World)(k A B n:Nat)(s:DS)(C:Nat→Prop):Prop:=Bd k s∧∃base i,bi w A B n base i s∧(∀b,i.ownBlock=some b→C b)∧1<base∧base≤A∧base≤B
structure tp(w:World)(X J R V A B n base o:Nat)(room clock pause:Int)(ev r i:Value)(es:List (Nat×AS))(sb:Bool)(s:DS)(L:List AS)(rs:List ba)(F:Nat→Prop):Prop where
 eng:aX w X J R clock pause r
 roll:aG w R base room ev es
 jn:tM w J V A B n o i s ((rs.length+1:Nat):Int) sb
 hi:Hi o A B J
 m:es.map (·.2)=L
 rm:room=(n:Int)-1-bA rs
 b:base≤w.heap.size
 f:∀c,lz X J R V ev es c→F c
def EG(w:World)(k X A B n:Nat)(clock pause:Int)(r:Value)(L:List AS)(rs:List ba)(s:DS)(C F:Nat→Prop):Prop:=gr n clock L rs∧Bd k s∧JD n s (rs.map ba.bytes)∧∃J R V base o room ev i es sb,(sb=true→eZ n s (rs.map ba.bytes))∧tp w X J R V A B n base o room clock pause ev r i es sb s L rs F∧∀b,i.ownBlock=some b→C b
def ED(w:World)(X n:Nat)(clock pause:Int)(r:Value)(L:List AS)(rs:List ba)(F:Nat→Prop):Prop:=gr n clock L rs∧∃J R base room ev es,ly w X J R true clock pause r∧aG w R base room ev es∧es.map (·.2)=L∧F X∧∀b,dc R ev es b→F b
section
variable{w w':World}{k X J R V A B n base o:Nat}{room clock pause:Int}{ev r i:Value}{es:List (Nat×AS)}{sb:Bool}{s:DS}{L:List AS}{rs:List ba}{C F:Nat→Prop}
theorem tp.dis(h:tp w X J R V A B n base o room clock pause ev r i es sb s L rs F):∀b,dc R ev es b→¬dU A B J i b∧b≠V∧b≠X:=by
 intro b g;obtain⟨c,t,f,a⟩:=lV h.roll g;refine⟨?_,fun e=>?_,fun e=>?_⟩
 ·rintro(l|e)
  ·exact h.jn.d.not f (by rcases a with rfl|rfl|rfl<;>decide) l
  ·subst e;have:=f.symm.trans h.jn.j;simp at this;rw[this.2]at a;revert a;decide
 ·subst e;have:=f.symm.trans h.jn.v;simp at this;rw[this.2]at a;revert a;decide
 ·subst e;have:=f.symm.trans h.eng;simp at this;rw[this.2]at a;revert a;decide
theorem tp.fu(g:tp w X J R V A B n base o room clock pause ev r i es sb s L rs F):FU w (lz X J R V ev es):=by
 rintro b (rfl|rfl|rfl|a)
 ·exact⟨_,_,g.eng,.inl rfl⟩
 ·exact⟨_,_,g.jn.j,.inr (.inl rfl)⟩
 ·exact⟨_,_,g.jn.v,.inr (.inr (.inl rfl))⟩
 ·obtain⟨c,t,d,e⟩:=lV g.roll a;refine⟨c,t,d,?_⟩;rcases e with rfl|rfl|rfl
  ·exact .inr (.inr (.inr (.inl rfl)))
  ·exact .inr (.inr (.inr (.inr (.inl rfl))))
  ·exact .inr (.inr (.inr (.inr (.inr rfl))))
theorem tp.frz(g:tp w X J R V A B n base o room clock pause ev r i es sb s L rs F)(a:Fr (fun _=>False) w w'):tp w' X J R V A B n base o room clock pause ev r i es sb s L rs F:=⟨a.keep g.eng jI,g.roll.frz a,g.jn.frz a,g.hi,g.m,g.rm,Ct g.b a.size,g.f⟩
theorem tp.fr{S:Nat→Prop}(g:tp w X J R V A B n base o room clock pause ev r i es sb s L rs F)(c:Fr S w w')(d:¬S A)(e:¬S B)(h:∀b,i.ownBlock=some b→¬S b)(hF:∀b,lz X J R V ev es b→¬S b):tp w' X J R V A B n base o room clock pause ev r i es sb s L rs F:=⟨c.keep g.eng (hF _ (.inl rfl)),g.roll.fr c (fun _ a=>hF _ (.inr (.inr (.inr a)))),g.jn.fr c (fun b a=>by
 rcases a with((rfl|rfl|a)|rfl)|rfl
 ·exact d
 ·exact e
 ·exact h b a
 ·exact hF _ (.inr (.inl rfl))
 ·exact hF _ (.inr (.inr (.inl rfl)))),g.hi,g.m,g.rm,Ct g.b c.size,g.f⟩
theorem EG.fr{S:Nat→Prop}(h:EG w k X A B n clock pause r L rs s C F)(d:Fr S w w')(e:¬S A)(j:¬S B)(l:∀b,C b→¬S b)(hF:∀b,F b→¬S b):EG w' k X A B n clock pause r L rs s C F:=by obtain⟨m,a,p,J,R,V,base,o,room,ev,i,es,sb,q,g,c⟩:=h;exact⟨m,a,p,J,R,V,base,o,room,ev,i,es,sb,q,g.fr d e j (fun b a=>l b (c b a)) (fun b a=>hF b (g.f b a)),c⟩
theorem EG.disk(h:EG w k X A B n clock pause r L rs s C F):DG w k A B n s C:=by obtain⟨c,a,e,J,R,V,base,o,room,ev,i,es,sb,f,g,b⟩:=h;exact⟨a,o,i,g.jn.d,b,g.hi.1,g.hi.2.1,g.hi.2.2.1⟩
theorem DG.fr{S:Nat→Prop}(h:DG w k A B n s C)(c:Fr S w w')(d:¬S A)(e:¬S B)(f:∀b,C b→¬S b):DG w' k A B n s C:=by
 obtain⟨g,base,i,j,a,l,m,p⟩:=h;refine⟨g,base,i,j.fr c ?_,a,l,m,p⟩;rintro b (rfl|rfl|h)
 ·exact d
 ·exact e
 ·exact f b (a b h)
theorem EG.sta(h:EG w k X A B n clock pause r L rs s C F)(id:Int):Calls prog 24 #[.pointer (some ⟨X,0,none⟩),.int .i64 id] w fun e w'=>oh L id w e w':=by
 obtain⟨a,d,f,J,R,V,base,o,room,ev,i,es,sb,j,g,l⟩:=h;have c:es.length=L.length:=by rw[←g.m,CR]
 have q:=a.len;have:=sQ g.eng g.roll (gq g.m a.so) (by omega) (fun p b=>(a.mem (cy g.m b)).1.l6) id;rwa[g.m]at this
theorem EG.all(h:EG w k X A B n clock pause r L rs s C F)(a:Int):Calls prog 35 #[.pointer (some ⟨X,0,none⟩),.int .i64 a] w fun e w'=>lx ((L.take a.toNat).map AS.told) w e w':=by
 obtain⟨c,f,j,J,R,V,base,o,room,ev,i,es,sb,l,g,q⟩:=h;have d:es.length=L.length:=by rw[←g.m,CR]
 have t:=c.len;have:=yJ g.eng g.roll (by omega) (fun p b=>(c.mem (cy g.m b)).1.l6) a;have e:(ch es).take a.toNat=(L.take a.toNat).map AS.told:=by rw[←g.m,List.map_take,Dv];rfl
 rwa[e]at this
end
section
variable{w:World}{Q:Value→World→Prop}
theorem si{X n m:Nat}{c:Option Addr}{id:Int}(h:Calls prog 42 #[.pointer (some ⟨X,0,none⟩),.int .i64 id,.slice c n m] w fun e w'=>∃v,e= .returned v∧(v= .nilIface∨∃g,v=eg g)∧Q v w'):Calls prog 21 #[.pointer (some ⟨X,0,none⟩),.int .i64 id,.slice c n m] w fun e w'=>(e= .returned .nilIface∧Q .nilIface w')∨(∃g d f t,e= .returned (.iface 117 (.pointer (some ⟨f,0,none⟩)))∧w'.heap[f]?=some (.cells #[.string t,eg g] 119 (0,0))∧Q (eg g) d∧Fr (fun _=>False) d w'):=by
 go_enter func21,ntmps21;go_wp2_with fail;refine h.mono ?_;rintro e j ⟨v,rfl,l,a⟩;rcases l with rfl|⟨g,rfl⟩
 ·go_wp2_with fail;refine(fS _ _).mono ?_;rintro e p ⟨rfl,rfl⟩;have b:=af a;clear a;go_wp2;go_ret;exact .inl ⟨rfl,b.out⟩
 ·have b:=af a;clear a;unfold eg;go_wp2_with fail;refine(fG _ g _).mono ?_;rintro e p ⟨rfl,rfl⟩;go_wp2;go_ret;exact .inr ⟨g,j,_,_,rfl,aa _ _,b.out,(Fr.refl _ _).alloc _⟩
theorem wP{X:Nat}(h:Calls prog 43 #[.pointer (some ⟨X,0,none⟩)] w fun e w'=>∃v,e= .returned v∧(v= .nilIface∨∃g,v=eg g)∧Q v w'):Calls prog 23 #[.pointer (some ⟨X,0,none⟩)] w fun e w'=>(e= .returned .nilIface∧Q .nilIface w')∨(∃g c f t,e= .returned (.iface 117 (.pointer (some ⟨f,0,none⟩)))∧w'.heap[f]?=some (.cells #[.string t,eg g] 119 (0,0))∧Q (eg g) c∧Fr (fun _=>False) c w'):=by
 go_enter func23,ntmps23;go_wp2_with fail;refine h.mono ?_;rintro e d ⟨v,rfl,j,a⟩;rcases j with rfl|⟨g,rfl⟩
 ·go_wp2_with fail;refine(fS _ _).mono ?_;rintro e l ⟨rfl,rfl⟩;have b:=af a;clear a;go_wp2;go_ret;exact .inl ⟨rfl,b.out⟩
 ·have b:=af a;clear a;unfold eg;go_wp2_with fail;refine(fG _ g _).mono ?_;rintro e l ⟨rfl,rfl⟩;go_wp2;go_ret;exact .inr ⟨g,d,_,_,rfl,aa _ _,b.out,(Fr.refl _ _).alloc _⟩
end
section
variable{w:World}{A B n:Nat}{a:Value}{d:DP}
theorem qd(h:aP w A B n a d)(c:n<8∨400<n):Calls prog 72 #[.iface 31 (.pointer (some ⟨A,0,none⟩))] w fun e i=>e= .returned (.tuple #[.pointer none,.iface 59 (.int .i64 7)])∧Fr (fun _=>False) w i:=by
 rcases c with c|c
 ·have b:(n:Int)<8:=by omega
  go_enter func72,ntmps72;go_wp2_with fail;refine(kn h).mono ?_;rintro e j ⟨rfl,f⟩;go_wp2;go_ret2;exact⟨rfl,f⟩
 ·have b:¬(n:Int)<8:=by omega
  have g:(400:Int)<n:=by omega
  have l:decide ((n:Int)<8)=false:=by simpa using b
  go_enter func72,ntmps72;go_wp2_with fail;refine(kn h).mono ?_;rintro e j ⟨rfl,f⟩;go_wp2;go_ret2;exact⟨rfl,f⟩
theorem oN(h:aP w A B n a d)(f:n<8∨400<n):Calls prog 40 #[.pointer (some ⟨A,0,none⟩)] w fun e b=>∃v,e= .returned v∧bZ b v 7∧Fr (fun _=>False) w b:=by
 have g:Calls prog 56 #[.iface 31 (.pointer (some ⟨A,0,none⟩))] w fun e b=>∃v,e= .returned v∧bZ b v 7∧Fr (fun _=>False) w b:=by go_enter func56,ntmps56;go_wp2_with fail;refine(qd h f).mono ?_;rintro e i ⟨rfl,c⟩;go_wp2_with fail;refine(cp _ 7 _).mono ?_;rintro e l ⟨rfl,rfl⟩;go_wp2;go_ret;exact⟨_,rfl,Or.inr ⟨_,_,rfl,aa _ _,by decide⟩,c.alloc _⟩
 go_enter func40,ntmps40;go_wp2_with fail;refine g.mono ?_;rintro e i ⟨v,rfl,j,c⟩;go_wp2;go_ret;exact⟨_,rfl,j,c⟩
end
section
variable{w:World}{k A B n:Nat}{s:DS}{C:Nat→Prop}
theorem l4(s:DS):s.secure.2.ents.length≤s.ents.length:=by
 unfold DS.secure;split
 ·exact Cs _
 ·exact CH _
theorem jt(s:DS)(n:Nat):bO (n+6) s.d (bF s n).2.d∧(bF s n).2.ents.length≤s.ents.length+n+2∧(¬(bF s n).1=true→s.d.told<(bF s n).2.d.told):=by
 have b:=dB s 0 zB;unfold bF;by_cases g:(s.put 0 zB).1=true
 ·rw[CE g];have i:=eH (s.put 0 zB).2 (n-1);have r:(s.put 0 zB).2.ents.length≤s.ents.length+1:=b.2.2.1;by_cases j:(aM (s.put 0 zB).2 (n-1)).1=true
  ·rw[CE j];have t:=jP (aM (s.put 0 zB).2 (n-1)).2;have v:=l4 (aM (s.put 0 zB).2 (n-1)).2;have l:=(b.1.trans i.1).trans t;by_cases c:(aM (s.put 0 zB).2 (n-1)).2.secure.1=true
   ·rw[CE c];have o:=dB (aM (s.put 0 zB).2 (n-1)).2.secure.2 0 (bc n);have D:(aM (s.put 0 zB).2 (n-1)).2.secure.2.ents.length=0:=by
     unfold DS.secure at c⊢;split at c
     ·cases c
     ·rename_i x;rw[Cz x];rfl
    refine⟨(l.trans o.1).mono (by omega),by have:=o.2.2.1;omega,fun h=>Eb l.t0 (o.2.2.2.1 (by simpa using h))⟩
   ·rw[Cz c];refine⟨l.mono (by omega),by show(aM (s.put 0 zB).2 (n-1)).2.secure.2.ents.length≤_;omega,fun _=>?_⟩;have f:(aM (s.put 0 zB).2 (n-1)).2.d.bad=true:=by
     unfold DS.secure at c;split at c
     ·assumption
     ·exact absurd rfl c
    have y:=gu f;have e:(aM (s.put 0 zB).2 (n-1)).2.secure.2=(aM (s.put 0 zB).2 (n-1)).2.fail:=by unfold DS.secure;rw[CE f]
    show s.d.told<(aM (s.put 0 zB).2 (n-1)).2.secure.2.d.told;rw[e];exact Eb (b.1.trans i.1).t0 y
  ·rw[Cz j];refine⟨(b.1.trans i.1).mono (by omega),by show(aM (s.put 0 zB).2 (n-1)).2.ents.length≤_;omega,fun _=>?_⟩;show s.d.told<(aM (s.put 0 zB).2 (n-1)).2.d.told;have p:∀(u:DS) (m:Nat),¬(aM u m).1=true→u.d.told<(aM u m).2.d.told:=by
    intro u m;induction m with
    |zero=>intro h;exact absurd rfl h
    |succ m z=>
     intro h;rw[aM]at h⊢;by_cases q:(aM u m).1=true
     ·rw[CE q]at h⊢;have f:(aM u m).2.d.bad=true:=by
       unfold DS.store at h;split at h
       ·assumption
       ·exact absurd rfl h
      have e:((aM u m).2.store (m+1) zB).2=(aM u m).2.fail:=by unfold DS.store;rw[CE f]
      rw[e];exact Eb (eH u m).1.t0 (gu f)
     ·rw[Cz q];exact z q
   exact Eb b.1.t0 (p _ _ j)
 ·rw[Cz g];exact⟨b.1.mono (by omega),by show(s.put 0 zB).2.ents.length≤_;have:=b.2.2.1;omega,fun _=>b.2.2.2.1 (by simpa using g)⟩
end
section
variable{w w':World}{k X A B n:Nat}{clock pause:Int}{c:Value}{L:List AS}{rs:List ba}{s:DS}{C F:Nat→Prop}
theorem fD(rs:List ba)(r:ba):(rs++[r]).map ba.bytes=rs.map ba.bytes++[r.bytes]:=by simp
def BD(k X A B n:Nat)(clock pause:Int)(c:Value)(L:List AS)(rs:List ba)(s b:DS)(e f:Nat→Prop)(id:Int)(st:List SS)(w':World)(v:Value):Prop:=eT w' v∧¬s.d.good∧s.d.told<b.d.told∧aO id st=true∧(∀a∈L,a.id≠id)∧gr n clock (dS (bS id st) L) (rs++[ba.take id.toNat st])∧((JD n b (rs.map ba.bytes)∧(JZ n s (rs.map ba.bytes)→JZ n b (rs.map ba.bytes)))∨JD n b ((rs++[ba.take id.toNat st]).map ba.bytes))∧DG w' (k+1) A B n b e∧ED w' X n clock pause c L rs f
theorem EG.sub(h:EG w k X A B n clock pause c L rs s C F)(hk:k<60000)(HI:rs.length+1<n→li (rs.length+1))(hG:cN w)(id:Int)(st:List SS){ao:Option Addr}(ae:Nat)(z:aY w ao 2 (st.map dj))(aB:aO id st=true→∃g,ao=some ⟨g,0,none⟩):Calls prog 21 #[.pointer (some ⟨X,0,none⟩),.int .i64 id,.slice ao st.length ae] w fun e w'=>∃v s' C' F',e= .returned v∧(∀b,C' b→C b∨w.heap.size≤b)∧(∀b,F' b→F b∨w.heap.size≤b)∧bO 4 s.d s'.d∧Fr (fun b=>b=A∨b=B∨C b∨F b) w w'∧((∃kk L' K,bZ w' v kk∧ye L rs id st n kk L' K∧FU w' F'∧EG w' (k+1) X A B n clock pause c L' K s' C' F'∧((K≠rs→eZ n s' (K.map ba.bytes))∧(K=rs→s'=s)))∨BD k X A B n clock pause c L rs s s' C' F' id st w' v):=by
 obtain⟨u,M,af,J,R,V,x,o,y,ev,r,D,sb,ag,l,hC⟩:=h;have aQ:D.length=L.length:=by rw[←l.m,CR]
 have hl:=u.len;have n8:=u.n8;have n4:=u.n4;have W:=gq l.m u.so;have N:∀p∈D,p.2.st.length≤6:=fun p aC=>(u.mem (cy l.m aC)).1.l6;have hq:=M.q (by omega);have ar:Bd (k+1) s:=M.mono (by omega);have stay:∀w',Fr (fun _=>False) w w'→FU w' (lz X J R V ev D)∧EG w' (k+1) X A B n clock pause c L rs s C (lz X J R V ev D)∧Fr (fun b=>b=A∨b=B∨C b∨F b) w w':=by intro w' E;have O:=l.frz E;exact⟨O.fu,⟨u,ar,af,J,R,V,x,o,y,ev,r,D,sb,ag,⟨O.eng,O.roll,O.jn,O.hi,O.m,O.rm,O.b,fun b Y=>Y⟩,hC⟩,E.mono (fun _ _ h=>h.elim)⟩
 have Z:bO 4 s.d s.d:=(bO.refl _).mono (by decide);have a0:∀b,lz X J R V ev D b→F b∨w.heap.size≤b:=fun b Y=> .inl (l.f b Y);by_cases j:aO id st=true
 ·obtain⟨g,rfl⟩:=aB j;obtain⟨aR,aS,aT,aU,aV⟩:=cZ id st j;by_cases ah:∃p∈D,p.2.id=id
  ·have HO:=sY (sc:=ae) l.eng id st z l.roll W (by omega) N j ah;obtain⟨p0,ai,a8⟩:=ah;have P:∀p∈D,p.2.id=id→p=p0:=fun p u a6=>cF W u ai (by omega);by_cases a7:p0.2.st=st
   ·refine(rb (Q:=fun w'=>Fr (fun _=>False) w w') (HO.mono ?_)).mono ?_
    ·rintro e w' ⟨p,u,a6,rfl,E⟩;rw[P p u a6,CE a7];exact⟨rfl,E⟩
    ·rintro e w' ⟨rfl,E⟩;obtain⟨s2,s3,s4⟩:=stay w' E;exact⟨_,s,C,_,rfl,fun _ h=> .inl h,a0,Z,s4,.inl ⟨0,L,rs,.inl ⟨rfl,rfl⟩,.inr (.inl ⟨j,p0.2,cy l.m ai,a8,by rw[CE a7],rfl,rfl⟩),s2,s3,⟨fun h=>absurd rfl h,fun _=>rfl⟩⟩⟩
   ·refine(fP (k:=2) (by decide) (Q:=fun w'=>Fr (fun _=>False) w w') (HO.mono ?_)).mono ?_
    ·rintro e w' ⟨p,u,a6,rfl,E⟩;rw[P p u a6,Cz a7];exact⟨rfl,E⟩
    ·rintro e w' ⟨v,w2,rfl,hv,S,E⟩;obtain⟨s2,s3,s4⟩:=stay w' (S.trans E fI);exact⟨v,s,C,_,rfl,fun _ h=> .inl h,a0,Z,s4,.inl ⟨2,L,rs,hv,.inr (.inl ⟨j,p0.2,cy l.m ai,a8,by rw[Cz a7],rfl,rfl⟩),s2,s3,⟨fun h=>absurd rfl h,fun _=>rfl⟩⟩⟩
  ·have aj:∀p∈D,p.2.id≠id:=fun p u e=>ah ⟨p,u,e⟩;have H:∀a∈L,a.id≠id:=by intro a ha;rw[←l.m]at ha;obtain⟨p,u,rfl⟩:=Cx.1 ha;exact aj p u
   have aE:=l.rm;have aW:=u.nd;by_cases T:2*(st.length:Int)≤y
   ·have au:((id.toNat:Nat):Int)=id:=by omega
    have a9:=u.add j H (by omega);have I:rs.length+1<n:=by have h9:=(gH u.ok).lf;omega
    have ak:(rs.map ba.bytes).length=rs.length:=CR _;have aa:aO ((id.toNat:Nat):Int) st=true:=by rw[au];exact j
    have av:yd (ba.take id.toNat st).bytes:=⟨tg (p:=(id.toNat,st)) aa,yW aa⟩;have aw:=kH af ag (by rw[ak];exact I);have al:=xi af ag (by rw[ak];exact I) av;rw[ak]at aw al;have aF:=(M.moved aw.1 (by decide) (by omega)).q (by omega);obtain⟨t1,t2,t3⟩:=jo l.roll;have b0:=M.e;have SG:=rA (sc:=ae) l.eng id st z id.toNat au l.jn l.hi hq aF (by omega) I n4 (HI I) hG l.dis (by omega) l.b t1 t2 t3 l.roll W (by omega) N j aj T;have eB:di 2 (be id.toNat st.length (bz st) 6) 4=(ba.take id.toNat st).bytes:=rfl;rw[eB]at SG;obtain⟨aD,aH⟩:∃aD,aD=dI sb s (rs.length+1) (ba.take id.toNat st).bytes:=⟨_,rfl⟩;rw[←aH]at SG al;obtain⟨m1,m2,m3,mt,m4,m5⟩:=al;have ab:=M.moved m1 (by decide) m3;refine(si (Q:=fun v w'=>∃i,bi w' A B n o i aD.2∧CB w r i∧aZ w' V A n∧Fr (fun b=>dU A B J r b∨b=R∨ev.ownBlock=some b∨b=X) w w'∧gp aD.1 (v= .nilIface∧aX w' X J R clock pause c∧ed w' J V (((rs.length+1:Nat):Int)+1) true∧∃g' G,aG w' R x (y-2*st.length) G (jp (g',bS id st) D)∧w.heap.size≤g'∧(∀b,G.ownBlock=some b→ev.ownBlock=some b∨w.heap.size≤b)) (ly w' X J R true clock pause c∧(∃aI,ed w' J V ((rs.length+1:Nat):Int) aI)∧aG w' R x y ev D∧∃g,v=eg g∧dH w' g)) (SG.mono ?_)).mono ?_
    ·rintro e w' ⟨v,i,rfl,a1,a2,a3,a4,a5⟩;refine⟨v,rfl,?_,i,a1,a2,a3,a4,a5⟩;rcases a5.out with⟨_,h,_⟩|⟨_,_,_,_,g,h,_⟩
     ·exact .inl h
     ·exact .inr ⟨g,h⟩
    ·have ax:∀w',Fr (fun b=>dU A B J r b∨b=R∨ev.ownBlock=some b∨b=X) w w'→Fr (fun b=>b=A∨b=B∨C b∨F b) w w':=fun w' E=>E.mono (fun b _ h=>by
      rcases h with((h|h|h)|h)|h|h|h
      ·exact .inl h
      ·exact .inr (.inl h)
      ·exact .inr (.inr (.inl (hC b h)))
      ·exact .inr (.inr (.inr (l.f b (.inr (.inl h)))))
      ·exact .inr (.inr (.inr (l.f b (.inr (.inr (.inr (.inl h)))))))
      ·exact .inr (.inr (.inr (l.f b (.inr (.inr (.inr (.inr (.inl h))))))))
      ·exact .inr (.inr (.inr (l.f b (.inl h)))))
     have ay:∀{i:Value},CB w r i→∀b,i.ownBlock=some b→C b∨w.heap.size≤b:=fun h b Y=>(h b Y).imp_left (hC b);rintro e w' (⟨rfl,i,a1,a2,a3,a4,a5⟩|⟨g,w1,f,t,rfl,aJ,⟨i,a1,a2,a3,a4,a5⟩,U⟩)
     ·rcases a5.out with⟨ok,_,aK,an,g',G,ap,aL,aM⟩|⟨_,_,_,_,g,h,_⟩
      ·have az:∀q∈jp (g',bS id st) D,q=(g',bS id st)∨q∈D:=by
        intro q hq;simp only[jp,Cv,CF]at hq;rcases hq with h1|h1|h1
        ·exact .inr (Fm _ h1)
        ·exact .inl h1
        ·exact .inr (Fo _ h1)
       have hS:=m4 ok;have O:tp w' X J R V A B n x o (y-2*st.length) clock pause G c i (jp (g',bS id st) D) true aD.2 (dS (bS id st) L) (rs++[ba.take id.toNat st]) (lz X J R V G (jp (g',bS id st) D)):=by
        refine⟨aK,ap,⟨a3,a1,?_⟩,l.hi,by rw[qW,l.m],?_,Ct l.b a4.size,fun b Y=>Y⟩
        ·rw[Cr,CM];push_cast at an⊢;exact an
        ·rw[dr,aE];show(n:Int)-1-(bA rs:Nat)-2*(st.length:Int)=(n:Int)-1-((bA rs+2*st.length:Nat):Int);push_cast;omega
       have aq:eZ n aD.2 ((rs++[ba.take id.toNat st]).map ba.bytes):=by rw[fD];exact hS
       refine⟨_,aD.2,fun b=>i.ownBlock=some b,lz X J R V G (jp (g',bS id st) D),rfl,ay a2,?_,m1,ax w' a4,.inl ⟨0,_,_,.inl ⟨rfl,rfl⟩,.inr (.inr ⟨j,H,.inl ⟨rfl,rfl,rfl⟩⟩),O.fu,⟨a9,ab,aq.jd,J,R,V,x,o,_,G,i,_,true,fun _=>aq,O,fun _ h=>h⟩,⟨fun _=>aq,fun h=>absurd h (by simp)⟩⟩⟩;rintro b (h|h|h|h|h|⟨q,hq,rfl⟩)
       ·exact .inl (l.f b (.inl h))
       ·exact .inl (l.f b (.inr (.inl h)))
       ·exact .inl (l.f b (.inr (.inr (.inl h))))
       ·exact .inl (l.f b (.inr (.inr (.inr (.inl h)))))
       ·rcases aM b h with h|h
        ·exact .inl (l.f b (.inr (.inr (.inr (.inr (.inl h))))))
        ·exact .inr h
       ·rcases az q hq with rfl|hq
        ·exact .inr aL
        ·exact .inl (l.f _ (.inr (.inr (.inr (.inr (.inr ⟨q,hq,rfl⟩))))))
      ·cases h
     ·rcases a5.out with⟨_,h,_⟩|⟨bad,aN,an,ap,g2,aA,ht⟩
      ·cases h
      ·obtain rfl:g=g2:=by unfold eg at aA;simpa using aA
       have aP:=a1.frz U;refine⟨_,aD.2,fun b=>i.ownBlock=some b,fun b=>b=X∨dc R ev D b,rfl,ay a2,?_,m1,(ax w1 a4).trans (U.mono (fun _ _ h=>h.elim)) fI,.inr ⟨⟨f,t,g,rfl,aJ,ht.fr U (fun _ _ _ _ _ h=>h)⟩,fun hg=>bad (m2 hg),mt (by simpa using bad),j,H,a9,?_,⟨ab,o,i,aP,fun _ h=>h,l.hi.1,l.hi.2.1,l.hi.2.2.1⟩,u,J,R,x,y,ev,D,U.keep aN jI,ap.frz U,l.m,.inl rfl,fun b Y=> .inr Y⟩⟩
       ·rintro b (h|h)
        ·exact .inl (l.f b (.inl h))
        ·exact .inl (l.f b (.inr (.inr (.inr h))))
       ·rcases m5 bad with h|h
        ·exact .inl h
        ·exact .inr (by rw[fD];exact h)
   ·refine(fP (k:=3) (by decide) (Q:=fun w'=>Fr (fun _=>False) w w') (qY l.eng id st z l.roll W (by omega) N j aj T)).mono ?_;rintro e w' ⟨v,w2,rfl,hv,S,E⟩;obtain⟨s2,s3,s4⟩:=stay w' (S.trans E fI);refine⟨v,s,C,_,rfl,fun _ h=> .inl h,a0,Z,s4,.inl ⟨3,L,rs,hv,.inr (.inr ⟨j,H,.inr ⟨rfl,?_,rfl,rfl⟩⟩),s2,s3,⟨fun h=>absurd rfl h,fun _=>rfl⟩⟩⟩;rw[u.need];omega
 ·have ad:aO id st=false:=by simpa using j
  refine(fP (k:=1) (by decide) (Q:=fun w'=>Fr (fun _=>False) w w') (sN l.eng id st z ad)).mono ?_;rintro e w' ⟨v,w2,rfl,hv,S,E⟩;obtain⟨s2,s3,s4⟩:=stay w' (S.trans E fI);exact⟨v,s,C,_,rfl,fun _ h=> .inl h,a0,Z,s4,.inl ⟨1,L,rs,hv,.inl ⟨ad,rfl,rfl,rfl⟩,s2,s3,⟨fun h=>absurd rfl h,fun _=>rfl⟩⟩⟩
end
theorem DP.nx_cap(d:DP)(c:Nat):(d.nx c).cap=d.cap:=by
 induction c with
 |zero=>rfl
 |succ c a=>exact a
theorem iu(s:DS)(c:Nat):bO c s.d (s.after c).d:=by obtain⟨a,b,e,f,g,h,i⟩:=s.d.nx_calls c;exact⟨by show s.d.calls≤(s.d.nx c).calls;omega,by show(s.d.nx c).calls≤_;omega,by show s.d.writes≤(s.d.nx c).writes;omega,by show(s.d.nx c).writes≤_;omega,e,f,g,h,i,s.d.nx_cap c⟩
theorem qy{n:Nat}{s:DS}{a:List (List Value)}(h:JD n s a)(c:Nat):JD n (s.after c) a:=h.keep rfl rfl (s.d.nx_cap c)
section
variable{w:World}{k A B n:Nat}{s:DS}{C:Nat→Prop}
theorem A8{x:Fn}{U Y:Array Value}{l:List ba}(h:DG w k A B n s C)(hj:JD n s (l.map ba.bytes))(hk:k<60000)(p:Int)(a4:1≤p)(a5:p≤64)(Z:8≤n)(n4:n≤400)(u:bE l)(I:bA l≤n-1)(a0:¬s.d.good→∀i,i<n→li i)(hG:cN w):Calls prog 46 #[.iface 31 (.pointer (some ⟨A,0,none⟩)),.int .i64 p,.func x U Y] w fun e y=>Fr (fun b=>b=A) w y∧((∃X F c,e= .returned (.tuple #[.pointer (some ⟨X,0,none⟩),.nilIface])∧c≤n+1∧EG y (k+1) X A B n 0 p (.func x U Y) (bh l) l (s.after c) C F∧FU y F∧∀b,F b→w.heap.size≤b)∨(∃v c,e= .returned (.tuple #[.pointer none,v])∧c≤n+1∧eT y v∧¬s.d.good∧s.d.told<(s.after (c+1)).d.told∧DG y (k+1) A B n (s.after (c+1)) C)):=by
 obtain⟨K,m,f,hd,hC,L,M,N⟩:=h;have a6:=hd.d.lt;have z:=gH u;have a7:=z.lf;obtain⟨tl,hv⟩:=hj.view;have hq:=K.q (by omega);have o:∀c,c≤n+2→Bd (k+1) (s.after c):=fun c hc=>K.moved (iu s c) (by omega) (Nat.le_add_right _ _);refine(vg (recs:=l.map ba.bytes) p (by omega) (by omega) hd hq ((o 1 (by omega)).q (by omega)) Z n4 hv.lay (by rw[CR];omega) (rZ u) a0 (fun g z e=>by have e:g=A:=e;have:=z.le;omega) hG (fun R i W=>AC l n w.heap.size R i W) (fun R W D E a1=>Bm E a1) (fun R i W W' D G S=>by
  obtain⟨ev,H,O,P,T,q4⟩:=G;refine⟨ev,H,O.fr S (fun b Q h=>?_),P,T,Ct q4 S.size⟩;rcases T b Q with e|e<;>rcases h with h|h<;>omega)
  (fun R i r W D hr G h3 h4=>B3 Z n4 I u D hr G h3 h4)).mono ?_
 rintro e y (⟨X,rfl,V,R,J,c,g1,g2,g3,g4,g5,g6,g7,g8,g9⟩|⟨v,c,rfl,a2,a3,t,hc,S⟩)
 ·refine⟨g9,.inl ?_⟩;obtain⟨ev,H,O,P,T,q4⟩:=g4;rw[CR]at O P;rw[Dj]at O P;have HE:tp y X J R V A B n w.heap.size m ((n:Int)-1-bA l) 0 p ev (.func x U Y) f H false (s.after c) (bh l) l (lz X J R V ev H):=⟨g1,O,⟨g3.v,g3.d,by have:=g3.j;rw[CR]at this;push_cast;exact this⟩,⟨L,M,N,by omega⟩,P,rfl,g9.size,fun b Q=>Q⟩;refine⟨X,lz X J R V ev H,c,rfl,g2,⟨⟨Z,n4,DL _,u,I,?_,?_⟩,o c (by omega),qy hj c,J,R,V,w.heap.size,m,_,ev,f,H,false,(fun h=>by cases h),HE,hC⟩,HE.fu,?_⟩
  ·calc (bh l).map AS.zero=(bh l).map id:=DU fun a ha=>(z.ok a ha).2.2
    _=bh l:=by simp
  ·intro a ha;have:=(z.ok a ha).1;exact⟨this.t0,this.t1⟩
  ·rintro b (rfl|rfl|rfl|Q)
   ·omega
   ·omega
   ·omega
   ·rcases T b Q with h|h<;>omega
 ·exact⟨S,.inr ⟨v,c,rfl,hc,a2,(fun z=>by rw[(z.after c).bad]at t;cases t),Eb (iu s c).t0 (gu t),o (c+1) (by omega),m,f,a3,hC,L,M,N⟩⟩
end
structure uN(w:World)(X J R V A B n base m e:Nat)(room clock pause:Int)(ev u l:Value)(es:List (Nat×AS))(sb:Bool)(s:DS):Prop where
 eng:aX w X J R clock pause u
 roll:aG w R base room ev es
 jn:tM w J V A B n m l s e sb
 hi:Hi m A B J
section
variable{w w':World}{X J R V A B n base m e:Nat}{room clock pause:Int}{ev u l:Value}{es:List (Nat×AS)}{sb:Bool}{s:DS}
theorem uN.dis(h:uN w X J R V A B n base m e room clock pause ev u l es sb s):∀b,dc R ev es b→¬dU A B J l b∧b≠V∧b≠X:=by
 intro b g;obtain⟨c,t,f,a⟩:=lV h.roll g;refine⟨?_,fun e=>?_,fun e=>?_⟩
 ·rintro(i|e)
  ·exact h.jn.d.not f (by rcases a with rfl|rfl|rfl<;>decide) i
  ·subst e;have:=f.symm.trans h.jn.j;simp at this;rw[this.2]at a;revert a;decide
 ·subst e;have:=f.symm.trans h.jn.v;simp at this;rw[this.2]at a;revert a;decide
 ·subst e;have:=f.symm.trans h.eng;simp at this;rw[this.2]at a;revert a;decide
theorem uN.frz(h:uN w X J R V A B n base m e room clock pause ev u l es sb s)(a:Fr (fun _=>False) w w'):uN w' X J R V A B n base m e room clock pause ev u l es sb s:=⟨a.keep h.eng jI,h.roll.frz a,h.jn.frz a,h.hi⟩
def DT(t:TypeId):Prop:=t=96∨t=97∨t=101∨t=179∨t=140∨t=91
theorem bi.ty(h:bi w A B n base l s){b:Nat}(a:fK A B l b):∃c t,w.heap[b]?=some (.cells c t (0,0))∧DT t:=by
 rcases a with rfl|rfl|a
 ·exact⟨_,_,h.d,.inl rfl⟩
 ·exact⟨_,_,h.r.1,.inr (.inl rfl)⟩
 ·obtain⟨c,f⟩:=iR h.q.o a;exact⟨c,_,f,.inr (.inr (.inl rfl))⟩
def NP(w:World)(S:Nat→Prop):Prop:=∀b,S b→∃c t,w.heap[b]?=some (.cells c t (0,0))∧DT t
theorem NP.pt{S:Nat→Prop}(h:NP w S){b:Nat}{c:Array Value}{t:TypeId}(d:w.heap[b]?=some (.cells c t (0,0)))(a:PT t):¬S b:=by intro f;obtain⟨j,k,g,i⟩:=h b f;have:=d.symm.trans g;simp at this;rw[this.2]at a;revert i;unfold PT at a;unfold DT;rcases a with rfl|rfl|rfl|rfl<;>decide
def B0(X J R A B n base m:Nat)(room clock pause:Int)(ev u l:Value)(es:List (Nat×AS))(s:DS)(a:List (List Value))(p:Nat×AS)(h:Nat)(F:Nat→Prop)(Q:Nat→World→Prop)(w:World)(g:Nat)(w':World):Prop:=dH w' g∧¬s.d.good∧ly w' X J R true clock pause u∧aG w' R base room ev es∧∃f c,bi w' A B n m c f∧s.d.told<f.d.told∧bO 6 s.d f.d∧f.ents.length≤s.ents.length+2∧CB w l c∧(((JD n f a∧(JZ n s a→JZ n f a))∧Fr (fun b=>dU A B J l b∨b=X) w w')∨(∃r:Nat,Q r w'∧p.2.moves r=true∧(JZ n f a∨JD n f (a++[mJ h r]))))∧Fr (fun b=>F b∨dU A B J l b∨b=p.1∨b=X) w w'
theorem zX(k r:Nat):jN (mJ k r):=⟨tU (k,r),eF 3 _ (dA _ _ _ _) 4,fun _=>3,fun i hi=>iP 3 _ (dM _ _) i hi,by decide⟩
theorem AZ{x:List (List Value)}(E:uN w X J R V A B n base m (x.length+1) room clock pause ev u l es sb s)(az:JD n s x)(aA:sb=true→eZ n s x){k:Nat}(a8:Bd k s)(b0:k<70000)(hs:cd es)(hn:es.length≤100000){ck:Int}(a9:∀p∈es,p.2.Ok ck)(aB:ck≤1000000){p:Nat×AS}(U:p∈es)(ho:p.2.open){kk:Nat}(hk:(kk:Int)=p.2.id)(ag:kk≤1000)(Y:x.length+1<n)(aC:n≤400)(HI:li (x.length+1))(hG:cN w)(aE:1≤pause)(aF:pause≤64)(aH:0≤clock)(aI:clock≤1000000){F:Nat→Prop}{Q:Nat→World→Prop}(hF:∀b,F b→b≠X∧¬dU A B J l b∧b≠V∧¬dc R ev es b∧b<w.heap.size)(aJ:NG F)(aK:∀W,Fr (dU A B J l) w W→aX W X J R clock pause u→Calls prog 104 #[.pointer (some ⟨X,0,none⟩),.agg p.2.asks.cs.toArray] W fun Z w'=>∃r:Nat,Z= .returned (.int .i64 r)∧r≤2∧Fr F W w'∧Q r w')(HQ:∀(r:Nat) (S:Nat→Prop) W W',Q r W→Fr S W W'→NP W S→Q r W'):Calls prog 66 #[.pointer (some ⟨X,0,none⟩),.agg p.2.asks.cs.toArray] w fun Z w'=>
 (Z= .returned .nilIface∧∃r:Nat,r≤2∧Q r w'∧∃s' y,bO 6 s.d s'.d∧CB w l y∧eZ n s' (if p.2.moves r=true then x++[mJ kk r]else x)∧uN w' X J R V A B n base m ((if p.2.moves r=true then x++[mJ kk r]else x).length+1) room clock pause ev u y (eU es p.2.id (·.after r clock pause)) true s'∧Fr (fun b=>F b∨dU A B J l b∨b=p.1∨b=X) w w')∨
 (∃g,Z= .returned (eg g)∧B0 X J R A B n base m room clock pause ev u l es s x p kk F Q w g w'):=by
 have D:=E.dis;have ah:dc R ev es p.1:= .inr (.inr ⟨p,U,rfl⟩);have aa:=D _ ah;have b6:=lt_of_heap E.eng;have b7:=E.jn.d.d.lt;have b8:=lt_of_heap E.jn.d.r.1;have b9:=lt_of_heap E.jn.j;have ba:=lt_of_heap E.jn.v;have aL:=fun b z=>(E.jn.d.q.o.lt b z).2;have ai:∀b,dU A B J l b→b<w.heap.size:=by
  rintro b ((h|h|h)|h)
  ·omega
  ·omega
  ·exact aL b h
  ·omega
 have nX:¬dU A B J l X:=by
  rintro(h|h)
  ·exact E.jn.d.not E.eng (by decide) h
  ·have:=E.eng;rw[h]at this;have:=this.symm.trans E.jn.j;simp at this
 have nV:¬dU A B J l V:=by
  rintro(h|h)
  ·exact E.jn.d.not E.jn.v (by decide) h
  ·have:=E.jn.v;rw[h]at this;have:=this.symm.trans E.jn.j;simp at this
 have bb:V≠X:=fun h=>by have:=E.jn.v;rw[h]at this;have:=this.symm.trans E.eng;simp at this
 have aj:=kH az aA Y;have hq:=a8.q (by omega);have bc:=a8.e;obtain⟨L,ak⟩:∃L,L=br sb s (x.length+1):=⟨_,rfl⟩;rw[←ak]at aj;obtain⟨m1,m2,m3,mt,m4,m5⟩:=aj;have al:∀{c1:Value},CB w l c1→∀b,b<w.heap.size→dU A B J c1 b→dU A B J l b:=by
  rintro c1 hc b z ((h|h|h)|h)
  ·exact .inl (.inl h)
  ·exact .inl (.inr (.inl h))
  ·rcases hc b h with h|h
   ·exact .inl (.inr (.inr h))
   ·omega
  ·exact .inr h
 refine B4 (base:=base) (room:=room) (ev:=ev) (es:=es) p.2.asks (F1:=dU A B J l) (F2:=F) (P:=fun w'=>∃r:Nat,r≤2∧Q r w'∧∃s' y,bO 6 s.d s'.d∧CB w l y∧eZ n s' (if p.2.moves r=true then x++[mJ kk r]else x)∧uN w' X J R V A B n base m ((if p.2.moves r=true then x++[mJ kk r]else x).length+1) room clock pause ev u y (eU es p.2.id (·.after r clock pause)) true s'∧Fr (fun b=>F b∨dU A B J l b∨b=p.1∨b=X) w w') (PF:=B0 X J R A B n base m room clock pause ev u l es s x p kk F Q w) (Q1:=fun W=>∃i,tM W J V A B n m i L.2 ((x.length+1:Nat):Int) true∧L.1=true∧CB w l i∧Fr (dU A B J l) w W) (Q2:=fun r W=>r≤2∧Q r W∧(∃i,tM W J V A B n m i L.2 ((x.length+1:Nat):Int) true∧L.1=true∧CB w l i)∧aG W R base room ev es∧Fr (fun b=>F b∨dU A B J l b) w W) E.eng (fun b h=>⟨fun e=>nX (e▸h),ai b h⟩) (fun b h=>⟨(hF b h).1,(hF b h).2.2.2.2⟩) (fun W M=>?_) (fun W aM hE bd=>?_) (fun r W hq=>hq.2.2.2.1) (fun W hR=>?_) (fun r W W' aN hE M=>?_)
 ·refine(mP (E.jn.frz M) E.hi hq (by omega) Y HI (hG.fr M ka)).mono ?_;rintro Z w1 ⟨v,i,rfl,a1,a2,a3,a4,a5⟩;rw[←ak]at a1 a5;have an:CB w l i:=fun b z=>(a2 b z).imp_right (fun h=>Ct M.size h);have ao:=(M.mono (fun _ _ h=>h.elim)).trans a4 fI;refine⟨v,rfl,a4,?_⟩;rcases a5.out with⟨aO,rfl,hj⟩|⟨bad,hj,g,rfl,ht⟩
  ·exact .inl ⟨rfl,i,⟨a3,a1,hj⟩,aO,an,ao⟩
  ·refine .inr ⟨g,rfl,fun W2 eB a0=>?_⟩;have ap:aX w1 X J R clock pause u:=a4.keep (M.keep E.eng jI) nX;have aq:Fr (fun b=>dU A B J l b∨b=X) w W2:=(ao.mono (fun _ _ h=> .inl h)).trans a0 (fun _ _ h=> .inr h);refine⟨ht.fr a0 (fun b c t z ar e=>?_),fun hg=>bad (m2 hg),eB,?_,L.2,i,a1.fr a0 (fun b z e=>a1.not ap (by decide) (e▸z)),mt (by simpa using bad),m1.mono (by decide),by omega,an,.inl ⟨m4,aq⟩,aq.mono (fun b _ h=>by rcases h with h|h;exact .inr (.inl h);exact .inr (.inr (.inr h)))⟩
   ·subst e;have:=ap.symm.trans z;simp at this;rw[←this.2]at ar;revert ar;decide
   ·exact(((E.roll.frz M).fr a4 (fun b z h=>(D b z).1 h))).fr a0 (fun b z=>(D b z).2.2)
 ·obtain⟨i,q1,q2,q3,N⟩:=aM;refine(aK W N hE).mono ?_;rintro Z w' ⟨r,rfl,I,K,hQ⟩;have ab:=E.roll.fr N (fun b z h=>(D b z).1 h);refine⟨r,rfl,K,I,hQ,⟨i,q1.fr K ?_,q2,q3⟩,ab.fr K (fun b z h=>(hF _ h).2.2.2.1 z),(N.mono (fun _ _ h=> .inr h)).trans K (fun _ _ h=> .inl h)⟩;rintro b (h|h) ad
  ·exact(hF b ad).2.1 (al q3 b (hF b ad).2.2.2.2 h)
  ·exact(hF b ad).2.2.1 h
 ·refine(pm hR hs hn a9 p.2.id clock).mono ?_;rintro Z w' ⟨hq,K⟩;rcases hq with⟨q,hq,aP,_,rfl⟩|⟨aQ,_⟩
  ·rw[cF hs hq U aP];exact⟨_,rfl,K⟩
  ·exact absurd ho (aQ p U rfl)
 ·obtain⟨I,hQ,⟨i,q1,q2,q3⟩,ab,N⟩:=aN;have O:=ab.frz M;have T:=q1.frz M;have au:=HQ r (fun _=>False) W W' hQ M (fun b h=>h.elim);have hS:=m5 q2;have G:=N.trans (M.mono (fun _ _ h=>h.elim)) fI;have av:=G.size;have E':uN W' X J R V A B n base m (x.length+1) room clock pause ev u i es true L.2:=⟨hE,O,T,E.hi⟩;have aw:=E'.dis;by_cases hm:p.2.moves r=true
  ·have a6:=(a8.moved m1 (by decide) (by omega)).q (by omega);have ax:=xi (sb:=true) hS.jd (fun _=>hS) Y ⟨zX kk r,zk ag I⟩;have aZ:L.2.ents.length=0:=by rw[hS.2];rfl
   have aR:cN W':=hG.fr G (fun g hg=>by
    have:=hg.le;rintro(h|(h|h|h)|h)
    ·exact aJ g hg h
    ·have:=E.hi.1;have:=E.hi.2.1;omega
    ·have:=E.hi.1;have:=E.hi.2.2.1;omega
    ·have:=(E.jn.d.q.o.lt _ h).1;have:=E.hi.1;omega
    ·have:=E.hi.1;have:=E.hi.2.2.2;omega)
   refine(wR hE O hs hn a9 U r ho hm I kk hk ag T E.hi a6 a6 (by omega) Y aC HI aR aw).mono ?_;rintro Z w9 ⟨v,H,rfl,a1,a2,a3,a4,a5⟩;have eB:di 3 (be kk r [] 0) 4=mJ kk r:=rfl;rw[eB]at a1 a5;obtain⟨aD,aS⟩:∃aD,aD=dI true L.2 (x.length+1) (mJ kk r):=⟨_,rfl⟩;rw[←aS]at a1 a5 ax;obtain⟨b1,b2,b3,bt,b4,b5⟩:=ax;have a7:=q3.trans (fun b z=>a2 b z) av;have C:Fr (fun b=>F b∨dU A B J l b∨b=p.1∨b=X) w w9:=(G.mono (fun b _ h=>by rcases h with h|h;exact .inl h;exact .inr (.inl h))).trans a4 (fun b z h=>by
    rcases h with h|h|h
    ·exact .inr (.inl (al q3 b z h))
    ·exact .inr (.inr (.inl h))
    ·exact .inr (.inr (.inr h)))
   have aT:NP W' (fun b=>dU A B J i b∨b=p.1∨b=X):=by
    rintro b ((h|h)|h|h)
    ·exact T.d.ty h
    ·subst h;exact⟨_,_,T.j,.inr (.inr (.inr (.inl rfl)))⟩
    ·subst h;exact⟨_,_,(O.e p U).2,.inr (.inr (.inr (.inr (.inl rfl))))⟩
    ·subst h;exact⟨_,_,hE,.inr (.inr (.inr (.inr (.inr rfl))))⟩
   have ay:=HQ r _ W' w9 au a4 aT;rcases a5.out with⟨aU,rfl,aV,ae,af⟩|⟨bad,aW,ae,af,g,rfl,ht⟩
   ·refine .inl ⟨rfl,r,I,ay,aD.2,H,m1.trans b1,a7,?_,⟨aV,?_,⟨a3,a1,?_⟩,E.hi⟩,C⟩
    ·rw[CE hm];exact b4 aU
    ·have:=lI hs U (f:=fun a=>a.after r clock pause) (g:=fun a=>a.go r) (by simp[AS.after,hm]);rw[this];exact af
    ·rw[CE hm,Cr,CM];push_cast at ae⊢;exact ae
   ·exact .inr ⟨g,rfl,ht,fun hg=>bad (b2 (m1.good hg)),aW,af,aD.2,H,a1,Eb m1.t0 (bt (by simpa using bad)),m1.trans b1,by omega,a7,.inr ⟨r,ay,hm,(b5 bad).imp_left (fun h=>h.2 hS.jz)⟩,C⟩
  ·refine(sZ hE O hs hn a9 aB U r (fun h=>hm h.2) aE aF aH aI aa.2.2).mono ?_;rintro Z w9 ⟨rfl,aY,C⟩;have bf:=lt_of_heap (E.roll.e p U).2;refine .inl ⟨rfl,r,I,HQ r _ W' w9 au C (fun b h=>by subst h;exact⟨_,_,(O.e p U).2,.inr (.inr (.inr (.inr (.inl rfl))))⟩),L.2,i,m1.mono (by decide),q3,?_,⟨C.keep hE (fun h=>aa.2.2 h.symm),?_,?_,E.hi⟩,(G.mono (fun b _ h=>by rcases h with h|h;exact .inl h;exact .inr (.inl h))).trans C (fun b _ h=> .inr (.inr (.inl h)))⟩
   ·rw[Cz hm];exact hS
   ·have:=lI hs U (f:=fun a=>a.after r clock pause) (g:=fun a=>a.vain clock pause) (by simp[AS.after,hm]);rw[this];exact aY
   ·rw[Cz hm];refine T.fr C ?_;rintro b (h|h) e
    ·subst e;exact(aw _ ah).1 h
    ·subst e;exact aa.2.1 h
end
section
variable{w:World}{X J R V A B n base l:Nat}{room clock ck pause:Int}{ev m f:Value}{es:List (Nat×AS)}{sb:Bool}{s:DS}{recs:List (List Value)}
def Bq(P:rT m)(e:P.σ)(k:Nat→Prop)(w:World)(X J R V A B n base l:Nat)(room ck pause:Int)(ev f:Value)(es:List (Nat×AS))(s:DS)(recs:List (List Value))(i:Nat)(W:World):Prop:=∃g h c j,g.map (·.1)=es.map (·.1)∧g.map (·.2)=(aq P ck pause ((es.map (·.2)).take i) e).1++(es.map (·.2)).drop i∧uN W X J R V A B n base l ((recs++(aq P ck pause ((es.map (·.2)).take i) e).2.2.map n7).length+1) room ck pause ev m c g j h∧JD n h (recs++(aq P ck pause ((es.map (·.2)).take i) e).2.2.map n7)∧(j=true→eZ n h (recs++(aq P ck pause ((es.map (·.2)).take i) e).2.2.map n7))∧(JZ n s recs→JZ n h (recs++(aq P ck pause ((es.map (·.2)).take i) e).2.2.map n7))∧(JZ n h (recs++(aq P ck pause ((es.map (·.2)).take i) e).2.2.map n7)∨∀a∈(es.map (·.2)).take i,¬(a.open∧a.due≤ck))∧bO (6*i) s.d h.d∧h.ents.length≤s.ents.length∧CB w f c∧(∃F,P.PA (aq P ck pause ((es.map (·.2)).take i) e).2.1 F W∧∀b,F b→k b∨w.heap.size≤b)∧Fr (fun b=>b=X∨dU A B J f b∨k b∨dc R ev es b) w W
def BJ(P:rT m)(e:P.σ)(k:Nat→Prop)(w:World)(X J R A B n base l:Nat)(room ck pause:Int)(ev f:Value)(es:List (Nat×AS))(s:DS)(recs:List (List Value))(g:Nat)(W:World):Prop:=∃(i:Nat) (a:AS) (j:List (Nat×AS)) (h:DS) (c:Value),(es.map (·.2))[i]?=some a∧(a.open∧a.due≤ck)∧j.map (·.1)=es.map (·.1)∧j.map (·.2)=(aq P ck pause ((es.map (·.2)).take i) e).1++(es.map (·.2)).drop i∧dH W g∧¬s.d.good∧ly W X J R true ck pause m∧aG W R base room ev j∧bi W A B n l c h∧s.d.told<h.d.told∧bO (6*i+6) s.d h.d∧h.ents.length≤s.ents.length+2∧CB w f c∧Fr (fun b=>b=X∨dU A B J f b∨k b∨dc R ev es b) w W∧(((JD n h (recs++(aq P ck pause ((es.map (·.2)).take i) e).2.2.map n7)∧(JZ n s recs→JZ n h (recs++(aq P ck pause ((es.map (·.2)).take i) e).2.2.map n7))∧(JZ n h (recs++(aq P ck pause ((es.map (·.2)).take i) e).2.2.map n7)∨∀a∈(es.map (·.2)).take i,¬(a.open∧a.due≤ck)))∧∃F,P.PA (aq P ck pause ((es.map (·.2)).take i) e).2.1 F W∧∀b,F b→k b∨w.heap.size≤b)∨(a.moves (P.ask (aq P ck pause ((es.map (·.2)).take i) e).2.1 a.asks).1=true∧(JZ n h (recs++(aq P ck pause ((es.map (·.2)).take i) e).2.2.map n7)∨JD n h (recs++(aq P ck pause ((es.map (·.2)).take i) e).2.2.map n7++[n7 (a.id.toNat,(P.ask (aq P ck pause ((es.map (·.2)).take i) e).2.1 a.asks).1)]))∧∃F,P.PA (P.ask (aq P ck pause ((es.map (·.2)).take i) e).2.1 a.asks).2 F W∧∀b,F b→k b∨w.heap.size≤b))
theorem zV{P:rT m}{i:P.σ}{F:Nat→Prop}{W:World}{e:Nat}(h:uN W X J R V A B n base l e room clock pause ev m f es sb s)(k:P.PA i F W)(b:Nat)(o:F b):b≠X∧¬dU A B J f b∧b≠V∧¬dc R ev es b∧b<W.heap.size:=by
 obtain⟨c,t,g,a⟩:=P.ty k o;unfold PT at a;refine⟨?_,?_,?_,zb h.roll g (by rcases a with rfl|rfl|rfl|rfl<;>decide),lt_of_heap g⟩
 ·intro e;subst e;have:=g.symm.trans h.eng;simp at this;rw[this.2]at a;revert a;decide
 ·rintro(p|e)
  ·exact h.jn.d.not g (by rcases a with rfl|rfl|rfl|rfl<;>decide) p
  ·subst e;have:=g.symm.trans h.jn.j;simp at this;rw[this.2]at a;revert a;decide
 ·intro e;subst e;have:=g.symm.trans h.jn.v;simp at this;rw[this.2]at a;revert a;decide
theorem Ai(P:rT m){s0:P.σ}{F0:Nat→Prop}(E:uN w X J R V A B n base l (recs.length+1) room clock pause ev m f es sb s)(aZ:JD n s recs)(b0:sb=true→eZ n s recs){k:Nat}(b8:Bd k s)(bQ:k<60000)(hs:cd es)(aC:∀p∈es,p.2.Ok clock)(b9:∀p∈es,1≤p.2.id∧p.2.id≤1000)(ax:recs.length+1+((es.map (·.2)).map AS.left).sum≤n)(ba:n≤400)(bR:es.length≤1000)(bb:∀i,recs.length+1≤i→i≤recs.length+((es.map (·.2)).map AS.left).sum→li i)(hG:cN w)(aD:NG F0)(bc:NG (fun b=>b=X))(bd:NG (dc R ev es))(be:1≤pause)(ae:pause≤64)(bf:0≤clock)(bS:clock<1000000)(aE:P.PA s0 F0 w)(bT:P.sz s0+es.length≤20000000):Calls prog 43 #[.pointer (some ⟨X,0,none⟩)] w fun e' w'=>(e'= .returned .nilIface∧Bq P s0 F0 w X J R V A B n base l room (clock+1) pause ev f es s recs es.length w')∨(∃g,e'= .returned (eg g)∧BJ P s0 F0 w X J R A B n base l room (clock+1) pause ev f es s recs g w'):=by
 obtain⟨ck,aF⟩:∃ck,ck=clock+1:=⟨_,rfl⟩;rw[←aF];have aG:ck-1=clock:=by omega
 have bg:(es.map (·.2)).Pairwise (fun a b=>a.id<b.id):=by rw[Dw];exact hs
 have a6:∀a∈es.map (·.2),a.Ok (ck-1):=fun a ha=>by obtain⟨p,O,rfl⟩:=Cx.1 ha;rw[aG];exact aC p O
 have aH:∀a∈es.map (·.2),1≤a.id∧a.id≤1000:=fun a ha=>by obtain⟨p,O,rfl⟩:=Cx.1 ha;exact b9 p O
 have bU:(es.map (·.2)).length=es.length:=CR _;obtain⟨L,C⟩:∃L,L=es.map (·.2):=⟨_,rfl⟩;have ay:(es.map fun p=>p.2.told).length=es.length:=CR _;have bh:tB es es.length=((es.map fun p=>p.2.told).map ST.cs).flatten:=by rw[tB,Dj,Dv];rfl
 have aI:=E.dis;have bV:=hG.lt;have bW:=fun b u=>(E.jn.d.q.o.lt b u).2;have nX:¬dU A B J f X:=by
  rintro(h|h)
  ·exact E.jn.d.not E.eng (by decide) h
  ·have:=E.eng;rw[h]at this;have:=this.symm.trans E.jn.j;simp at this
 have bi:V≠X:=fun h=>by have:=E.jn.v;rw[h]at this;have:=this.symm.trans E.eng;simp at this
 have bj:NG (dU A B J f):=fun g M=>by
  have:=M.le;rintro((h|h|h)|h)
  ·have:=E.hi.1;have:=E.hi.2.1;omega
  ·have:=E.hi.1;have:=E.hi.2.2.1;omega
  ·have:=(E.jn.d.q.o.lt _ h).1;have:=E.hi.1;omega
  ·have:=E.hi.1;have:=E.hi.2.2.2;omega
 have G:=A4 (zs:=es.map fun p=>p.2.told) (g:=w.heap.size) (ck:=ck) (PF:=BJ P s0 F0 w X J R A B n base l room ck pause ev f es s recs) (Inv:=fun i W=>Bq P s0 F0 w X J R V A B n base l room ck pause ev f es s recs i W∧W.heap[w.heap.size]?=some (.cells ((es.map fun p=>p.2.told).map ST.cs).flatten.toArray 42 (0,0))) E.eng aF bf (by omega) (by rw[ay];omega) (fun i W h=>by
  obtain⟨⟨D,s',c',aJ,_,_,hE,_⟩,_⟩:=h;exact hE.eng) (fun i W h=>h.2) (fun W hE hf aK=>?_) (fun i W0 W z hz hI hf=>?_)
 ·rw[ay]at G;exact G.mono fun e' w' h=>h.imp (fun h=>⟨h.1,h.2.1⟩) id
 ·have aL:=E.roll.fr hf (fun b u h=>(aI b u).2.2 h);refine(kW aL (by omega) (fun p O=>(aC p O).l6)).mono ?_;rintro e' w' ⟨rfl,M,N⟩;rw[aK]at M⊢;rw[ay];have Y:recs++(aq P ck pause ((es.map (·.2)).take 0) s0).2.2.map n7=recs:=by simp[aq]
  refine⟨rfl,⟨es,s,f,sb,rfl,by simp[aq],?_,?_,?_,?_,.inr (fun a ha=>by simp at ha),?_,Cs _,CB.refl _ _,⟨F0,?_,fun b u=> .inl u⟩,(hf.mono (fun _ _ h=> .inl h)).trans (N.mono (fun _ _ h=>h.elim)) fI⟩,by rw[←bh];exact M⟩
  ·have q:=(E.jn.fr hf (fun b u e=>by rcases u with u|u;exact nX (e▸u);exact bi (u▸e))).frz N;rw[Y];exact⟨N.keep hE jI,aL.frz N,q,E.hi⟩
  ·rw[Y];exact aZ
  ·rw[Y];exact b0
  ·rw[Y];exact fun h=>h
  ·exact(bO.refl _).mono (by simp)
  ·have bk:=P.fr aE hf (fun b u h=>(zV E aE b u).1 h);have:=P.fr bk N (fun b _ h=>h);simpa[aq]using this
 ·obtain⟨⟨D,s',c',aJ,e1,e2,hE,af,Z,ag,ah,a0,bl,ai,⟨Fi,aj,a7⟩,hF⟩,M⟩:=hI;rw[←C]at e2 hE aj af Z ag ah;rw[CK]at hz;obtain⟨p0,aM,rfl⟩:=Do.1 hz;have hi:=(Co.1 aM).1;have a1:L[i]?=some p0.2:=by rw[C,CK,aM];rfl
  obtain⟨a,ha⟩:∃a,a=p0.2:=⟨_,rfl⟩;rw[←ha]at a1;have a8:L.drop i=a::L.drop (i+1):=by have bm:=(Co.1 a1).1;rw[Dk bm,(Co.1 a1).2]
  have aN:L.take (i+1)=L.take i++[a]:=by rw[D1,a1];rfl
  obtain⟨T,hT⟩:∃T,T=aq P ck pause (L.take i) s0:=⟨_,rfl⟩;have y:aq P ck pause (L.take (i+1)) s0=(T.1++[(aT P ck pause a T.2.1).1],(aT P ck pause a T.2.1).2.1,T.2.2++(aT P ck pause a T.2.1).2.2):=by rw[aN,mp,hT]
  have a9:=mh P ck pause (L.take i) s0 (fun b u=>a6 b (by rw[←C];exact CU u)) (by omega);have aO:=qD P ck pause (L.take i) s0;have au:=uC P ck pause (L.take i) s0;rw[←hT]at e2 hE aj a9 aO au af Z ag ah;have aP:=Cq a1;have aQ:=a6 a (by rw[←C];exact aP);have bL:=aH a (by rw[←C];exact aP);rw[a8]at e2;have aR:(D.map (·.2)).map (·.id)=L.map (·.id):=by rw[e2,←a8,CV,au,←CV,CX]
  have ak:(D.map (·.2)).Pairwise (fun a b=>a.id<b.id):=by
   have H:(L.map (·.id)).Pairwise (· < ·):=by rw[Dw,C];exact bg
   rw[←aR,Dw]at H;exact H
  have az:cd D:=by rw[Dw]at ak;exact ak
  have bn:D.length=es.length:=by have:=Ej List.length e1;simpa using this
  have av:∀p∈D,p.2.Ok ck:=by
   intro p O;have H:p.2∈D.map (·.2):=Cx.2 ⟨p,O,rfl⟩;rw[e2]at H;rcases Cv.1 H with H|H
   ·exact a9.1 _ H
   ·rw[←a8]at H;exact(a6 _ (by rw[←C];exact D8 H)).mono (by omega)
  obtain⟨p,O,x⟩:∃p∈D,p.2=a:=by
   have H:a∈D.map (·.2):=by rw[e2];simp
   obtain⟨p,O,h⟩:=Cx.1 H;exact⟨p,O,h⟩
  have bo:=hE.frz hf;refine(pm bo.roll az (by omega) av p0.2.told.id ck).mono ?_;have bp:p0.2.told.id=p.2.id:=by rw[x,ha];rfl
  rw[bp];rintro e' w' ⟨hq,N⟩;have stay:¬(a.open∧a.due≤ck)→∀W',Fr (fun _=>False) W0 W'→Bq P s0 F0 w X J R V A B n base l room ck pause ev f es s recs (i+1) W'∧W'.heap[w.heap.size]?=some (.cells ((es.map fun p=>p.2.told).map ST.cs).flatten.toArray 42 (0,0)):=by
   intro al W' I;have H:aT P ck pause a T.2.1=(a,T.2.1,[]):=Cz al;refine⟨⟨D,s',c',aJ,e1,?_,?_,?_,?_,?_,?_,a0.mono (by push_cast;omega),bl,ai,⟨Fi,?_,a7⟩,hF.trans (I.mono (fun _ _ h=>h.elim)) fI⟩,I.keep M jI⟩
   ·rw[←C,y,H,e2];simp
   ·rw[←C,y,H,D4];exact hE.frz I
   ·rw[←C,y,H,D4];exact af
   ·rw[←C,y,H,D4];exact Z
   ·rw[←C,y,H,D4];exact ag
   ·rw[←C,y,H,D4];refine ah.imp_right (fun h b u=>?_);rw[aN]at u;rcases Cv.1 u with u|u
    ·exact h b u
    ·rw[Db.1 u];exact al
   ·rw[←C,y,H];exact P.fr aj I fI
  rcases hq with⟨q,bq,br,an,rfl⟩|⟨al,rfl⟩
  ·obtain rfl:=cF az bq O br;refine⟨q.2.asks,_,rfl,N,fun ht=>stay (fun h=>?_),fun ht W' I=>?_⟩
   ·rw[←x]at h;simp[h.2]at ht
   ·have hd:=Dh ht;have a2:=hE.frz I;have ao:=P.fr aj I fI;have ap:=fun b u=>zV a2 ao b u;have bM:((L.take i).map AS.left).sum+a.left≤(L.map AS.left).sum:=by
     have h5:L=L.take i++(a::L.drop (i+1)):=by rw[←a8,CX]
     conv=>rhs;rw[h5]
     rw[CV,Er,CY,EK];omega
    have bt:=aQ.left1 (by rw[←x];exact an);have bX:=a9.2;have bY:recs.length+1+T.2.2.length+1≤n:=by rw[←C]at ax;omega
    have bN:(recs++T.2.2.map n7).length=recs.length+T.2.2.length:=by rw[Cr,CR]
    have aa:=hF.trans (I.mono (fun _ _ h=>h.elim)) fI;have bu:cN W':=hG.fr aa (fun g M=>by
     rintro(h|h|h|h)
     ·exact bc g M h
     ·exact bj g M h
     ·exact aD g M h
     ·exact bd g M h)
    have ab:=aa.size;have bP:(L.take i).length≤i:=by rw[Cy];omega
    have aS:Bd (k+6) s':=by obtain⟨b1,b2,b3,b4,b5,b6,b7⟩:=b8;obtain⟨c1,c2,c3,c4,c5,c6,_⟩:=a0;exact⟨by omega,by push_cast;omega,by omega,by push_cast;omega,by omega,by push_cast;omega,by omega⟩
    have aU:NG Fi:=fun g M h=>by
     have:=M.le;rcases a7 _ h with h|h
     ·exact aD g M h
     ·omega
    refine(AZ a2 af Z aS (by omega) az (by omega) av (by omega) O an (kk:=q.2.id.toNat) (by rw[x];omega) (by rw[x];omega) (by omega) ba (bb _ (by omega) (by rw[←C];omega)) bu be ae (by omega) (by omega) (F:=Fi) (Q:=fun r W=>r=(P.ask T.2.1 q.2.asks).1∧∃F,P.PA (P.ask T.2.1 q.2.asks).2 F W∧∀b,F b→Fi b∨W'.heap.size≤b) ap aU (fun W2 aV bv=>?_) (fun r S W2 W3 h bw bx=>?_)).mono ?_
    ·have bz:=P.fr ao aV (fun b u h=>(ap b u).2.1 h);refine(P.rep q.2.asks bz (by omega) bv).mono ?_;rintro e2 w2 ⟨rfl,bA,F2,aW,U⟩;exact⟨_,rfl,P.le _ _,bA,rfl,F2,aW,fun b u=>(U b u).imp id (fun h=>Ct aV.size h)⟩
    ·obtain⟨bB,F2,ae,bC⟩:=h;refine⟨bB,F2,P.fr ae bw (fun b u=>?_),bC⟩;obtain⟨c,t,hc,ht⟩:=P.ty ae u;exact bx.pt hc ht
    ·have ad:∀{F3:Nat→Prop},(∀b,F3 b→Fi b∨W'.heap.size≤b)→∀b,F3 b→F0 b∨w.heap.size≤b:=fun U b u=>by
      rcases U b u with h5|h5
      ·exact a7 b h5
      ·exact .inr (Ct ab h5)
     have bD:∀b,b<w.heap.size→dU A B J c' b→dU A B J f b:=by
      rintro b u ((h|h|h)|h)
      ·exact .inl (.inl h)
      ·exact .inl (.inr (.inl h))
      ·rcases ai b h with h|h
       ·exact .inl (.inr (.inr h))
       ·omega
      ·exact .inr h
     have aw:∀w3,Fr (fun b=>Fi b∨dU A B J c' b∨b=q.1∨b=X) W' w3→Fr (fun b=>b=X∨dU A B J f b∨F0 b∨dc R ev es b) w w3:=fun w3 a3=>aa.trans a3 (fun b bE h=>by
      rcases h with h|h|h|h
      ·rcases a7 b h with h5|h5
       ·exact .inr (.inr (.inl h5))
       ·omega
      ·exact .inr (.inl (bD b bE h))
      ·exact .inr (.inr (.inr ((ki e1 R ev b).1 (.inr (.inr ⟨q,O,h⟩)))))
      ·exact .inl h)
     rintro e3 w3 (⟨rfl,r,bZ,⟨hr,F3,ar,U⟩,s3,K,aA,aB,a4,aX,a3⟩|⟨g,rfl,ht,bF,eB,bG,s3,K,bH,bI,aA,ca,aB,bJ,a3⟩)
     ·have H:aT P ck pause a T.2.1=(a.after r ck pause,(P.ask T.2.1 a.asks).2,if a.moves r=true then[(a.id.toNat,r)]else[]):=by rw[aT,CE ⟨by rw[←x];exact an,by rw[←x];exact hd⟩,hr,x]
      have aY:(if q.2.moves r=true then recs++T.2.2.map n7++[mJ q.2.id.toNat r]else recs++T.2.2.map n7)=recs++(T.2.2++(aT P ck pause a T.2.1).2.2).map n7:=by
       rw[H,x];by_cases hm:a.moves r=true
       ·simp[hm,n7]
       ·simp[hm]
      rw[aY]at a4 aX;refine .inl ⟨rfl,⟨eU D q.2.id (·.after r ck pause),s3,K,true,by rw[qT,e1],?_,?_,?_,?_,?_,?_,?_,?_,?_,⟨F3,?_,ad U⟩,aw w3 a3⟩,?_⟩
      ·rw[←C,y,pH,e2,x];rw[e2]at ak;rw[jT T.1 (L.drop (i+1)) a (fun b=>b.after r ck pause) ak,H];simp
      ·rw[←C,y];exact aX
      ·rw[←C,y];exact a4.jd
      ·rw[←C,y];exact fun _=>a4
      ·rw[←C,y];exact fun _=>a4.jz
      ·rw[←C,y];exact .inl a4.jz
      ·exact(a0.trans aA).mono (by push_cast;omega)
      ·rw[a4.2];exact CH _
      ·exact ai.trans aB ab
      ·rw[←C,y,H,←x];exact ar
      ·refine a3.keep (I.keep M jI) (fun h=>?_);have h8:=I.keep M jI;rcases h with h|(h|h)|h|h
       ·obtain⟨c,t,hc,ht⟩:=P.ty ao h;have h9:=h8.symm.trans hc;simp only[Cu,Obj.cells.injEq]at h9;rw[←h9.2.1]at ht;revert ht;unfold PT;decide
       ·exact a2.jn.d.not h8 (by decide) h
       ·rw[h]at h8;have:=h8.symm.trans a2.jn.j;simp at this
       ·rw[h]at h8;have:=h8.symm.trans (a2.roll.e q O).2;simp at this
       ·rw[h]at h8;have:=h8.symm.trans a2.eng;simp at this
     ·refine .inr ⟨g,rfl,i,a,D,s3,K,by rw[←C];exact a1,⟨by rw[←x];exact an,by rw[←x];exact hd⟩,e1,by rw[←C,←hT,a8];exact e2,ht,fun M=>bF (a0.good M),eB,bG,bH,Eb a0.t0 bI,a0.trans aA,by omega,ai.trans aB ab,aw w3 a3,?_⟩;rw[←C,←hT];rcases bJ with⟨a5,bK⟩|⟨r,⟨hr,F3,ar,U⟩,hm,a5⟩
      ·exact .inl ⟨⟨a5.1,fun h=>a5.2 (ag h),ah.imp_left a5.2⟩,Fi,P.fr ao bK (fun b u h=>by rcases h with h|h;exact(ap b u).2.1 h;exact(ap b u).1 h),a7⟩
      ·rw[x]at hm a5 hr ar;subst hr;exact .inr ⟨hm,a5,F3,ar,ad U⟩
  ·refine⟨zC,false,rfl,N,fun _=>stay (fun h=>?_),fun ht=>by cases ht⟩;rw[←x]at h;exact al p O rfl h.1
end
theorem rV{c:Value}(P:rT c)(g pause:Int)(u l:List AS):∀(s:P.σ) (d:List AS) (rs:List ba),(d++(l++u)).Pairwise (fun a b=>a.id<b.id)→(∀a∈l,1≤a.id∧a.id≤1000)→bE rs→(d++(l++u)).map AS.zero=bh rs→bE (rs++(aq P g pause l s).2.2.map gV)∧(d++((aq P g pause l s).1++u)).map AS.zero=bh (rs++(aq P g pause l s).2.2.map gV):=by
 induction l with
 |nil=>intro s d rs _ _ D E;simpa[aq]using⟨D,by simpa using E⟩
 |cons a l G=>
  intro s d rs q i h j;rw[En]at q j;obtain⟨T,e⟩:∃T,T=aT P g pause a s:=⟨_,rfl⟩;have m:T.1.id=a.id:=by rw[e];exact(jq P g pause a s).1
  have o:bE (rs++T.2.2.map gV)∧(d++T.1::(l++u)).map AS.zero=bh (rs++T.2.2.map gV):=by
   unfold aT at e;by_cases t:a.open∧a.due≤g
   ·rw[CE t]at e;obtain⟨r,z⟩:∃r,r=(P.ask s a.asks).1:=⟨_,rfl⟩;have v:r≤2:=by rw[z];exact P.le _ _
    rw[←z]at e;by_cases p:a.moves r=true
    ·rw[CE p,AS.after,CE p]at e;subst e;have H:=i a (by simp);have x:a.zero∈bh rs:=by rw[←j];simp
     have f:((a.id.toNat:Nat):Int)=a.id:=by omega
     refine⟨?_,?_⟩
     ·show bE (rs++[.move a.id.toNat r]);exact dl.2 ⟨h,v,by omega,a.zero,x,f.symm,t.1,p⟩
     ·show(d++a.go r::(l++u)).map AS.zero=bh (rs++[.move a.id.toNat r]);rw[dw];show _=uc (bh rs) ((a.id.toNat:Nat):Int) r;rw[←j,f,←qZ];congr 1;exact(jT d (l++u) a (fun b=>b.go r) q).symm
    ·rw[Cz p,AS.after,Cz p]at e;subst e;refine⟨by simpa using h,?_⟩;show(d++a.vain g pause::(l++u)).map AS.zero=bh (rs++[]);rw[D4,←j];simp only[CV,CY];rfl
   ·rw[Cz t]at e;subst e;exact⟨by simpa using h,by simpa using j⟩
  have y:((d++[T.1])++(l++u)).Pairwise (fun a b=>a.id<b.id):=by rw[cT]at q⊢;simpa[m]using q
  have:=G T.2.1 (d++[T.1]) (rs++T.2.2.map gV) y (fun b I=>i b (by simp[I])) o.1 (by simpa using o.2);simp only[aq,←e,CV];simpa[List.append_assoc]using this
theorem gr.part{n:Nat}{clock:Int}{L:List AS}{rs:List ba}{c:Value}(P:rT c)(d:P.σ)(pause:Int)(h:gr n clock L rs)(i:Nat):gr n (clock+1) ((aq P (clock+1) pause (L.take i) d).1++L.drop i) (rs++(aq P (clock+1) pause (L.take i) d).2.2.map gV):=by
 have j:=h.ck;have f:=rV P (clock+1) pause (L.drop i) (L.take i) d [] rs (by rw[CX];simpa using h.so) (fun a b=>by have:=cZ _ _ (h.mem (CU b)).2;omega) h.ok (by rw[CX];simpa using h.zL);have g:=mh P (clock+1) pause (L.take i) d (fun a b=>by have:=(h.mem (CU b)).1;simpa using this) (by omega);refine⟨h.n8,h.n4,by omega,f.1,?_,by simpa using f.2,fun a b=>?_⟩
 ·have e:bA (rs++(aq P (clock+1) pause (L.take i) d).2.2.map gV)=bA rs:=by
   unfold bA;rw[CV,Er,Dv];have:∀l:List (Nat×Nat),(l.map (ba.need∘gV)).sum=0:=fun l=>by
    induction l with
    |nil=>rfl
    |cons m l o=>rw[CY,EK,o];rfl
   rw[this];rfl
  rw[e];exact h.nd
 ·rcases Cv.1 b with b|b
  ·exact⟨(g.1 a b).t0,(g.1 a b).t1⟩
  ·have:=h.tr a (D8 b);exact⟨this.1,by omega⟩
theorem gS(rs:List ba)(l:List (Nat×Nat)):(rs++l.map gV).map ba.bytes=rs.map ba.bytes++l.map n7:=by rw[CV,wh]
theorem rd(rs:List ba)(l:List (Nat×Nat)):bA (rs++l.map gV)=bA rs:=by
 unfold bA;rw[CV,Er,Dv];have:∀l:List (Nat×Nat),(l.map (ba.need∘gV)).sum=0:=fun l=>by
  induction l with
  |nil=>rfl
  |cons m l a=>rw[CY,EK,a];rfl
 rw[this];rfl
section
variable{w w':World}{k X A B n:Nat}{clock pause:Int}{c:Value}{L:List AS}{rs:List ba}{s:DS}{C F:Nat→Prop}
def AJ(P:rT c)(e:P.σ)(h:Nat→Prop)(w:World)(k X A B n:Nat)(clock pause:Int)(L:List AS)(rs:List ba)(s f:DS)(j l:Nat→Prop)(w':World)(v:Value):Prop:=eT w' v∧¬s.d.good∧s.d.told<f.d.told∧DG w' (k+2) A B n f j∧∃(i:Nat) (a:AS),L[i]?=some a∧(a.open∧a.due≤clock+1)∧ED w' X n (clock+1) pause c ((aq P (clock+1) pause (L.take i) e).1++L.drop i) (rs++(aq P (clock+1) pause (L.take i) e).2.2.map gV) l∧(((JD n f ((rs++(aq P (clock+1) pause (L.take i) e).2.2.map gV).map ba.bytes)∧(JZ n s (rs.map ba.bytes)→JZ n f ((rs++(aq P (clock+1) pause (L.take i) e).2.2.map gV).map ba.bytes))∧(JZ n f ((rs++(aq P (clock+1) pause (L.take i) e).2.2.map gV).map ba.bytes)∨∀a∈L.take i,¬(a.open∧a.due≤clock+1)))∧∃g,P.PA (aq P (clock+1) pause (L.take i) e).2.1 g w'∧∀b,g b→h b∨w.heap.size≤b)∨(a.moves (P.ask (aq P (clock+1) pause (L.take i) e).2.1 a.asks).1=true∧(JZ n f ((rs++(aq P (clock+1) pause (L.take i) e).2.2.map gV).map ba.bytes)∨JD n f ((rs++(aq P (clock+1) pause (L.take i) e).2.2.map gV++[gV (a.id.toNat,(P.ask (aq P (clock+1) pause (L.take i) e).2.1 a.asks).1)]).map ba.bytes))∧∃g,P.PA (P.ask (aq P (clock+1) pause (L.take i) e).2.1 a.asks).2 g w'∧∀b,g b→h b∨w.heap.size≤b))
theorem EG.tick(P:rT c){s0:P.σ}{F0:Nat→Prop}(h:EG w k X A B n clock pause c L rs s C F)(hk:k<50000)(ab:∀i,i≤bA rs→li i)(hG:cN w)(a5:NG F)(ad:NG F0)(ae:1≤pause)(af:pause≤64)(ag:clock<1000000)(ah:P.PA s0 F0 w)(ay:P.sz s0+L.length≤20000000):Calls prog 23 #[.pointer (some ⟨X,0,none⟩)] w fun e w'=>∃v y C' F',e= .returned v∧(∀b,C' b→C b∨w.heap.size≤b)∧(∀b,F' b→F b∨w.heap.size≤b)∧bO 2000 s.d y.d∧Fr (fun b=>b=A∨b=B∨C b∨F b∨F0 b) w w'∧((v= .nilIface∧FU w' F'∧EG w' (k+2) X A B n (clock+1) pause c (aq P (clock+1) pause L s0).1 (rs++(aq P (clock+1) pause L s0).2.2.map gV) y C' F'∧(JZ n s (rs.map ba.bytes)→JZ n y ((rs++(aq P (clock+1) pause L s0).2.2.map gV).map ba.bytes))∧(JZ n y ((rs++(aq P (clock+1) pause L s0).2.2.map gV).map ba.bytes)∨∀a∈L,¬(a.open∧a.due≤clock+1))∧∃S,P.PA (aq P (clock+1) pause L s0).2.1 S w'∧∀b,S b→F0 b∨w.heap.size≤b)∨AJ P s0 F0 w k X A B n clock pause L rs s y C' F' w' v):=by
 obtain⟨G,a6,ai,J,R,V,u,q,x,ev,r,es,sb,aj,o,hC⟩:=h;have ax:es.length=L.length:=by rw[←o.m,CR]
 have hl:=G.len;have n8:=G.n8;have n4:=G.n4;have ak:=gq o.m G.so;have U:(rs.map ba.bytes).length=rs.length:=CR _;have E:uN w X J R V A B n u q ((rs.map ba.bytes).length+1) x clock pause ev c r es sb s:=⟨o.eng,o.roll,by rw[U];exact o.jn,o.hi⟩;have az:rs.length+(L.map AS.left).sum≤bA rs:=by
  have W:=(gH G.ok).lf;have h3:(bh rs).map AS.left=L.map AS.left:=by rw[←G.zL,Dv];rfl
  rw[h3]at W;exact W
 have TG:=Ai P E ai aj a6 (by omega) ak (fun p Y=>(G.mem (cy o.m Y)).1) (fun p Y=>by have:=cZ _ _ (G.mem (cy o.m Y)).2;omega) (by rw[o.m,U];omega) n4 (by omega) (fun i W h2=>ab i (by rw[o.m,U]at h2;omega)) hG ad (a5.mono (fun b e=>o.f b (.inl e))) (a5.mono (fun b h=>o.f b (.inr (.inr (.inr h))))) ae af G.ck ag ah (by omega);have a7:∀w',Fr (fun b=>b=X∨dU A B J r b∨F0 b∨dc R ev es b) w w'→Fr (fun b=>b=A∨b=B∨C b∨F b∨F0 b) w w':=fun w' hf=>hf.mono (fun b _ h=>by
  rcases h with h|((h|h|h)|h)|h|h
  ·exact .inr (.inr (.inr (.inl (o.f b (.inl h)))))
  ·exact .inl h
  ·exact .inr (.inl h)
  ·exact .inr (.inr (.inl (hC b h)))
  ·exact .inr (.inr (.inr (.inl (o.f b (.inr (.inl h))))))
  ·exact .inr (.inr (.inr (.inr h)))
  ·exact .inr (.inr (.inr (.inl (o.f b (.inr (.inr (.inr h))))))))
 have a8:∀{l:Value},CB w r l→∀b,l.ownBlock=some b→C b∨w.heap.size≤b:=fun h b K=>(h b K).imp_left (hC b);have T:∀{y:DS} {j:Int},bO j s.d y.d→j≤2000→y.ents.length≤s.ents.length+2→Bd (k+2) y:=fun hm hj he=>by obtain⟨b1,b2,b3,b4,b5,b6,b7⟩:=a6;obtain⟨c1,c2,c3,c4,c5,c6,_⟩:=hm;exact⟨by omega,by push_cast;omega,by omega,by push_cast;omega,by omega,by push_cast;omega,by omega⟩
 refine(wP (Q:=fun v w'=>(v= .nilIface∧Bq P s0 F0 w X J R V A B n u q x (clock+1) pause ev r es s (rs.map ba.bytes) es.length w')∨(∃g,v=eg g∧BJ P s0 F0 w X J R A B n u q x (clock+1) pause ev r es s (rs.map ba.bytes) g w')) (TG.mono ?_)).mono ?_
 ·rintro e w' (⟨rfl,h⟩|⟨g,rfl,h⟩)
  ·exact⟨_,rfl,.inl rfl,.inl ⟨rfl,h⟩⟩
  ·exact⟨_,rfl,.inr ⟨g,rfl⟩,.inr ⟨g,rfl,h⟩⟩
 ·rintro e w' (⟨rfl,hq⟩|⟨g,w1,f,t,rfl,al,hq,z⟩)
  ·rcases hq with⟨_,D,y,l,Z,e1,e2,hE,M,H,N,O,a0,an,a1,⟨S,a2,ao⟩,hF⟩|⟨g,h,_⟩
   ·rw[CO (by rw[CR];omega)]at e2 hE M H N O a2;rw[CP (by rw[CR];omega),D4]at e2;rw[o.m]at e2 hE M H N O a2;rw[←gS]at M hE N O;have a9:Z=true→eZ n y ((rs++(aq P (clock+1) pause L s0).2.2.map gV).map ba.bytes):=fun h=>by rw[gS];exact H h
    rw[CR]at hE;have a3:=fun b K=>(ki e1 R ev b).1 K;have I:bO 2000 s.d y.d:=a0.mono (by omega);have gE:tp w' X J R V A B n u q x (clock+1) pause ev c l D Z y (aq P (clock+1) pause L s0).1 (rs++(aq P (clock+1) pause L s0).2.2.map gV) (lz X J R V ev D):=⟨hE.eng,hE.roll,hE.jn,o.hi,e2,by rw[rd];exact o.rm,Ct o.b hF.size,fun b K=>K⟩;refine⟨_,y,fun b=>l.ownBlock=some b,lz X J R V ev D,rfl,a8 a1,?_,I,a7 w' hF,.inl ⟨rfl,gE.fu,⟨G.tick P s0 pause,T I (by decide) (by omega),M,J,R,V,u,q,x,ev,l,D,Z,a9,gE,fun _ h=>h⟩,N,O,S,a2,ao⟩⟩;rintro b (h|h|h|h)
    ·exact .inl (o.f b (.inl h))
    ·exact .inl (o.f b (.inr (.inl h)))
    ·exact .inl (o.f b (.inr (.inr (.inl h))))
    ·exact .inl (o.f b (.inr (.inr (.inr (a3 b h)))))
   ·cases h
  ·rcases hq with⟨h,_⟩|⟨g2,aa,i,a,D,y,l,a4,ap,e1,e2,ht,ar,eB,au,av,aw,a0,an,a1,hF,hw⟩
   ·cases h
   ·obtain rfl:g=g2:=by unfold eg at aa;simpa using aa
    rw[o.m]at a4 e2 hw;have aA:=(Co.1 a4).1;have a3:=fun b K=>(ki e1 R ev b).1 K;have I:bO 2000 s.d y.d:=a0.mono (by omega);refine⟨_,y,fun b=>l.ownBlock=some b,fun b=>b=X∨dc R ev D b,rfl,a8 a1,?_,I,(a7 w1 hF).trans (z.mono (fun _ _ h=>h.elim)) fI,.inr ⟨⟨f,t,g,rfl,al,ht.fr z (fun _ _ _ _ _ h=>h)⟩,ar,aw,⟨T I (by decide) (by omega),q,l,av.frz z,fun _ h=>h,o.hi.1,o.hi.2.1,o.hi.2.2.1⟩,i,a,a4,ap,⟨G.part P s0 pause i,J,R,u,x,ev,D,z.keep eB jI,au.frz z,e2,.inl rfl,fun b K=> .inr K⟩,?_⟩⟩
    ·rintro b (h|h)
     ·exact .inl (o.f b (.inl h))
     ·exact .inl (o.f b (.inr (.inr (.inr (a3 b h)))))
    ·rcases hw with⟨W,S,h2,h3⟩|⟨hm,W,S,h2,h3⟩
     ·exact .inl ⟨by rw[gS];exact W,S,P.fr h2 z fI,h3⟩
     ·refine .inr ⟨hm,?_,S,P.fr h2 z fI,h3⟩;rw[fD,gS];exact W
end
section
variable{w w':World}{k X A B n:Nat}{clock pause:Int}{a:Value}{L:List AS}{rs:List ba}{s:DS}{C F:Nat→Prop}
theorem EG.off(h:EG w k X A B n clock pause a L rs s C F)(S:k<80000)(j:Int)(D:0≤j)(x:j≤1000):Calls prog 30 #[.pointer (some ⟨A,0,none⟩),.int .i64 j] w fun e w'=>e= .returned (.tuple #[])∧EG w' k X A B n clock pause a L rs ⟨{s.d with off:=s.d.calls+j},s.ents,s.bs⟩ C F∧Fr (· =A) w w':=by
 obtain⟨E,i,y,J,R,V,t,l,u,ev,o,G,H,I,g,K⟩:=h;have M:=i.c1;refine(ti g.jn.d.d i.c0 (by omega) j D x).mono ?_;rintro e w' ⟨rfl,N,p⟩;have z:bi w' A B n l o ⟨{s.d with off:=s.d.calls+j},s.ents,s.bs⟩:=⟨N,⟨p.keep g.jn.d.r.1 (fun e=>g.jn.d.ne.1 e.symm),g.jn.d.r.2⟩,g.jn.d.q.fr p (fun b c i _ e=>by rw[e,g.jn.d.d]at i;simp at i),Ct g.jn.d.b p.size,g.jn.d.c⟩;have O:X≠A:=fun e=>by have:=g.eng;rw[e]at this;have:=this.symm.trans g.jn.d.d;simp at this
 have P:=g.jn.v.neK g.jn.d.d;have Q:J≠A:=fun e=>by have:=g.jn.j;rw[e]at this;have:=this.symm.trans g.jn.d.d;simp at this
 refine⟨rfl,⟨E,⟨i.c0,i.c1,i.w0,i.w1,i.t0,i.t1,i.e⟩,y.keep rfl rfl rfl,J,R,V,t,l,u,ev,o,G,H,I,⟨p.keep g.eng O,g.roll.fr p (fun b i e=>(g.dis b i).1 (.inl (.inl e))),⟨g.jn.v.fr p P,z,g.jn.j.fr p Q⟩,g.hi,g.m,g.rm,Ct g.b p.size,g.f⟩,K⟩,p⟩
end
section
variable{w:World}{k A B n:Nat}{s:DS}{C:Nat→Prop}
theorem Bd.lay(h:Bd k s)(i:n≤400)(j:(bF s n).2.ents.length≤max (s.ents.length+1) 402):Bd (k+1) (bF s n).2:=by obtain⟨a,b,c,d,e,f,g⟩:=h;obtain⟨l,m,o,p,q,r,_⟩:=(jt s n).1;exact⟨by omega,by push_cast;omega,by omega,by push_cast;omega,by omega,by push_cast;omega,by omega⟩
theorem ul(s:DS)(g:1≤n)(m:n≤400):(bF s n).2.ents.length≤max (s.ents.length+1) 402:=by
 have c:=dB s 0 zB;unfold bF;by_cases a:(s.put 0 zB).1=true
 ·rw[CE a];have d:=eH (s.put 0 zB).2 (n-1);have b:(s.put 0 zB).2.ents=[]:=by
   rcases c.2.2.2.2 with⟨h,_⟩|⟨h,_⟩|⟨_,h,_⟩
   ·rw[a]at h;cases h
   ·rw[a]at h;cases h
   ·exact h
  rw[b]at d;have i:(aM (s.put 0 zB).2 (n-1)).2.ents.length≤n-1:=by simpa using d.2
  by_cases e:(aM (s.put 0 zB).2 (n-1)).1=true
  ·rw[CE e];have j:=l4 (aM (s.put 0 zB).2 (n-1)).2;by_cases f:(aM (s.put 0 zB).2 (n-1)).2.secure.1=true
   ·rw[CE f];have l:=dB (aM (s.put 0 zB).2 (n-1)).2.secure.2 0 (bc n);have:=l.2.2.1;omega
   ·rw[Cz f];show(aM (s.put 0 zB).2 (n-1)).2.secure.2.ents.length≤_;omega
  ·rw[Cz e];show(aM (s.put 0 zB).2 (n-1)).2.ents.length≤_;omega
 ·rw[Cz a];show(s.put 0 zB).2.ents.length≤_;have:=c.2.2.1;omega
theorem DG.format(h:DG w k A B n s C)(hk:k<60000)(X:8≤n)(K:n≤400)(O:∀i,i<n→li i)(hG:cN w):Calls prog 40 #[.pointer (some ⟨A,0,none⟩)] w fun e r=>∃v t,e= .returned v∧DG r (k+1) A B n (bF s n).2 t∧(∀b,t b→C b∨w.heap.size≤b)∧Fr (fun b=>b=A∨b=B∨C b) w r∧((v= .nilIface∧(bF s n).1=true)∨(eT r v∧¬(bF s n).1=true∧s.d.told<(bF s n).2.d.told)):=by
 obtain⟨u,f,c,P,Y,G,H,I⟩:=h;have hq:=u.q (by omega);have a0:=u.e;have a1:=P.d.lt;have Z:Calls prog 56 #[.iface 31 (.pointer (some ⟨A,0,none⟩))] w fun e r=>∃v j,e= .returned v∧bi r A B n f j (bF s n).2∧CB w c j∧Fr (fK A B c) w r∧((v= .nilIface∧(bF s n).1=true)∨(eT r v∧¬(bF s n).1=true)):=by
  go_enter func56,ntmps56;go_wp2_with fail;refine(om P.d X K).mono ?_;rintro e L ⟨V,rfl,hv,a2,M⟩;have x:=zo hv (P.frz M) hq (by omega) X K O (hG.fr M ka) G H I;go_wp2_with fail;refine x.mono ?_;rintro e E ⟨v,a,rfl,N,y,Q,F⟩;have l:CB w c a:=fun b R=>(y b R).imp_right (fun h=>Ct M.size h);have p:=(M.mono (fun _ _ h=>h.elim)).trans Q fI;rcases F.out with⟨ok,rfl,_⟩|⟨bad,_,g,rfl,ht⟩
  ·have z:Hid (bi E A B n f a (bF s n).2∧CB w c a∧Fr (fK A B c) w E):=⟨N,l,p⟩;clear x N y Q F l p;go_wp2_with fail;refine(fS _ _).mono ?_;rintro e w4 ⟨rfl,rfl⟩;go_wp2;go_ret;exact⟨_,a,rfl,z.out.1,z.out.2.1,z.out.2.2,.inl ⟨rfl,ok⟩⟩
  ·have z:Hid (bi E A B n f a (bF s n).2∧CB w c a∧Fr (fK A B c) w E∧dH E g):=⟨N,l,p,ht⟩;clear x N y Q F l p ht;unfold eg;go_wp2_with fail;refine(fG _ g _).mono ?_;rintro e w4 ⟨rfl,rfl⟩;go_wp2;go_ret;obtain⟨S,T,U,W⟩:=z.out;have D:=fun o=>(Fr.refl (fun _=>False) E).alloc o;exact⟨_,a,rfl,S.frz (D _),T,U.trans ((D _).mono (fun _ _ h=>h.elim)) fI,.inr ⟨⟨_,_,g,rfl,aa _ _,W.fr (D _) (fun _ _ _ _ _ h=>h)⟩,bad⟩⟩
 go_enter func40,ntmps40;go_wp2_with fail;refine Z.mono ?_;rintro e L ⟨v,m,rfl,d2,J,f2,F⟩;have z:Hid (∃t,DG L (k+1) A B n (bF s n).2 t∧(∀b,t b→C b∨w.heap.size≤b)∧Fr (fun b=>b=A∨b=B∨C b) w L∧((v= .nilIface∧(bF s n).1=true)∨(eT L v∧¬(bF s n).1=true∧s.d.told<(bF s n).2.d.told))):=⟨fun b=>m.ownBlock=some b,⟨u.lay K (ul s (by omega) K),f,m,d2,fun _ h=>h,G,H,I⟩,fun b R=>(J b R).imp_left (Y b),f2.mono (fun b _ h=>by
  rcases h with h|h|h
  ·exact .inl h
  ·exact .inr (.inl h)
  ·exact .inr (.inr (Y b h))),F.imp_right (fun h=>⟨h.1,h.2,(jt s n).2.2 h.2⟩)⟩
 clear Z d2 J f2 F;go_wp2;go_ret;obtain⟨t,S,T,U,W⟩:=z.out;exact⟨v,t,rfl,S,T,U,W⟩
end
theorem s7{w:World}{C K L M V J A B n base:Nat}{a tv fv:Value}{s:DS}(h:ph w C K L M V J A B n base a tv fv s)(hq:s.d.Q)(a0:8≤n)(hn:n≤400)(hz:aI (bv s.bs s.ents) 0=zB)(N:¬s.d.good→∀i,i<n→li i)(O:NG (fun b=>b=A))(P:cN w):Calls prog 111 #[.pointer (some ⟨C,0,none⟩),.pointer (some ⟨K,0,none⟩),.pointer (some ⟨L,0,none⟩),.pointer (some ⟨M,0,none⟩)] w fun e q=>
 (e= .returned (.iface 59 (.int .i64 6))∧bi q A B n base a (s.after 1)∧Fr (fun b=>b=A) w q)∨(∃g,e=im g∧dH q g∧bi q A B n base a (s.after 1)∧s.d.bad=true∧Fr (fun b=>b=A) w q):=by
 obtain⟨n1,n2,n3,n4,nV,nJ,m1,m2,m3,m4⟩:=h.ne;obtain⟨I,D⟩:∃I,I=true:=⟨_,rfl⟩;have R:∀w,(binOp .neq 130 (.agg (aI (bv s.bs s.ents) 0).toArray) (.agg (bc n).toArray)).run prog w= .ok (.bool I) w:=by intro w;rw[D,hz];exact wI n w
 go_enter func111,ntmps111;go_wp2_with fail;obtain⟨W,T⟩:=aw w.drew;have x:=eG T;have c:=h.frz x;have E:Fr (fun b=>b=A) w W:=x.mono (fun _ _ h=>h.elim);let S:World→Prop:=fun q=>q.cell? ⟨C,0,none⟩=some (.pointer (some ⟨V,0,none⟩))
 have U:S W:=c.c1;refine dZ S T ?_;clear T;refine cU 0 5 155 0 (.pointer (some ⟨V,0,none⟩)) ⟨C,0,none⟩ rfl (fun _ X=>X) underlying155 U ?_;refine cU 2 7 155 0 (.pointer (some ⟨V,0,none⟩)) ⟨C,0,none⟩ rfl (fun _ X=>X) underlying155 U ?_;simp only[Act.put,aC,aB,aE];refine cj 1 ?_;have y:=k6 c.s.v c.s.d hq.ok 0 (by omega) (fun hg=>N hg 0 (by omega)) (P.fr x ka) O;rcases Ey s.d.bad with r|r
 ·refine cW (o:=⟨some 6,.call {callee:= .value (.func 112),args:=#[.tmp 5,.const (.int .i64 0)],argTypes:=_},_,_,_,none⟩) (f:=112) (args:=#[.pointer (some ⟨V,0,none⟩),.int .i64 0]) rfl rfl (by kernel_rfl) ?_;refine y.mono ?_;rintro e w2 ⟨t,l,m⟩;rw[CE r]at m;obtain⟨gg,rfl,Y⟩:=m;exact⟨_,rfl,rfl,.inr ⟨gg,rfl,Y,t,r,E.trans l fI⟩⟩
 refine bl (o:=⟨some 6,.call {callee:= .value (.func 112),args:=#[.tmp 5,.const (.int .i64 0)],argTypes:=_},_,_,_,none⟩) (f:=112) (args:=#[.pointer (some ⟨V,0,none⟩),.int .i64 0]) rfl rfl (by kernel_rfl) ?_;refine y.mono ?_;rintro e w2 ⟨t,l,m⟩;rw[Cz (by rw[r];simp)]at m;subst m;have p:ph w2 C K L M V J A B n base a tv fv (s.after 1):=c.fr l n1 n2 n3 n4 nV nJ t;have F:=E.trans l fI;refine⟨_,rfl,p.c1,?_⟩;simp only[Act.put,aC,aB,aE];refine dN 3 8 110 #[.tmp 7] #[.pointer (some ⟨V,0,none⟩)] rfl ?_;refine(cJ p.s.v).mono ?_;rintro e q ⟨rfl,rfl⟩;refine⟨_,rfl,p.c1,?_⟩;simp only[Act.put,aC,aB,aE];refine dN 4 9 113 #[.tmp 8] #[.int .i64 n] rfl ?_;refine(oK _ n hn).mono ?_;rintro e Z ⟨rfl,z⟩;have u:=p.frz z;have G:=F.trans z (fun _ _ h=>h.elim);have H:S Z:=u.c1;refine⟨_,rfl,u.c1,?_⟩;simp only[Act.put,aC,aB,aE];refine eW (S:=S) (i:=5) (oi:=⟨some 10,.binOp .neq 130 (.tmp 6) (.tmp 9) 130,_,_,_,none⟩) (v:= .bool I) rfl (Or.inl ⟨rfl,fun q _=>cS rfl rfl rfl (R q)⟩) H ?_;simp only[Act.put,aC,aB,aE];refine dn ?_;clear U H;subst D;have HF:Hid (bi Z A B n base a (s.after 1)∧Fr (fun b=>b=A) w Z):=⟨u.s.d,G⟩;clear u p c G F z l t y;go_wp2;go_ret;exact .inl ⟨rfl,HF.out.1,HF.out.2⟩
section
variable{w:World}{V A B n base:Nat}{a:Value}{s:DS}{tfn ffn:Fn}{ta tc fa fc:Array Value}
theorem wo(Y:aZ w V A n)(J:bi w A B n base a s)(Z:s.d.Q)(M:8≤n)(hn:n≤400)(hz:aI (bv s.bs s.ents) 0=zB)(N:¬s.d.good→∀i,i<n→li i)(z:NG (fun b=>b=A))(G:cN w):Calls prog 75 #[.pointer (some ⟨V,0,none⟩),.func tfn ta tc,.func ffn fa fc] w fun e x=>∃v,e= .returned (.tuple #[.pointer none,v])∧bi x A B n base a (s.after 1)∧Fr (fun b=>b=A) w x∧(v= .iface 59 (.int .i64 6)∨∃g,v=eg g∧dH x g∧s.d.bad=true):=by
 have a0:=re;have O:=zS (tv:= .func tfn ta tc) (fv:= .func ffn fa fc) Y J;have E:=rE w V (.func tfn ta tc) (.func ffn fa fc);have P:=qO w V (.func tfn ta tc) (.func ffn fa fc);obtain⟨W,K⟩:=aw (um w V (.func tfn ta tc) (.func ffn fa fc));rw[←K.out]at O E P;have a1:=J.d.lt;have R:∀b,fK A B a b→b<w.heap.size:=by
  rintro b (e|e|e)
  ·omega
  ·rw[e];exact lt_of_heap J.r.1
  ·exact(J.q.o.lt b e).2
 have U:=jX (w:=W) (f:=111) (caps:=#[.pointer (some ⟨w.heap.size,0,none⟩),.pointer (some ⟨w.heap.size+4,0,none⟩),.pointer (some ⟨w.heap.size+1,0,none⟩),.pointer (some ⟨w.heap.size+2,0,none⟩)]) (Q:=fun v x=>bi x A B n base a (s.after 1)∧Fr (fun b=>b=A) w x∧(v= .iface 59 (.int .i64 6)∨∃g,v=eg g∧dH x g∧s.d.bad=true)) (fun _=>by kernel_rfl) (by
  have H:Fr (fun _=>False) W (W.alloc (.cells #[.nilIface] 36)):=(Fr.refl _ _).alloc _;have C:Fr (fun b=>b=A) w (W.alloc (.cells #[.nilIface] 36)):=(E.mono (fun _ _ h=>h.elim)).trans (H.mono (fun _ _ h=>h.elim)) fI;have m:∀(u:World) (v:Value),Fr (fun b=>b=W.heap.size) u (u.setCell ⟨W.heap.size,0,none⟩ v):=fun u v=>Fr.set1 _ _ _ _;have I:∀b,fK A B a b→¬b=W.heap.size:=fun b y e=>by have:=R b y;omega
  refine(s7 (O.frz H) Z M hn hz N z (G.fr C z)).mono ?_;rintro e x (⟨rfl,p,l⟩|⟨g,rfl,F,p,y,l⟩)
  ·refine⟨l.keep (aa _ _) (by omega),.inl ⟨_,rfl,rfl,p.fr (m _ _) I,(C.trans l fI).trans (m _ _) (fun b y h=>by omega),.inl rfl⟩⟩
  ·have X:=l.keep (aa _ _) (by omega);refine⟨X,.inr ⟨g,rfl,(G.fr C z).fr l z,fun w2 D=>?_⟩⟩;refine⟨(p.frz D).fr (m _ _) I,((C.trans l fI).trans (D.mono (fun _ _ h=>h.elim)) fI).trans (m _ _) (fun b y h=>by omega),.inr ⟨g,rfl,?_,y⟩⟩;refine(F.fr D (fun _ _ _ _ _ h=>h)).fr (m _ _) (fun b c t y F e=>?_);subst e;have S:=D.keep X jI;rw[S]at y;simp at y;rw[←y.2]at F;revert F;decide)
 unfold um at K;clear O E;go_enter func75,ntmps75;go_wp2_with fail;rw[←K.out];refine U.mono ?_;rintro e x ⟨v,rfl,p,l,T⟩;have L:Hid (bi x A B n base a (s.after 1)∧Fr (fun b=>b=A) w x):=⟨p,l⟩;clear K U p l;rcases T with rfl|⟨g,rfl,F,y⟩
 ·go_wp2;go_ret2;exact⟨_,rfl,L.out.1,L.out.2,.inl rfl⟩
 ·have HT:=af F;clear F;unfold eg;go_wp2;go_ret2;exact⟨_,rfl,L.out.1,L.out.2,.inr ⟨g,rfl,HT.out,y⟩⟩
variable{j:Fn}{ca k:Array Value}
theorem sr(p:Int)(z:¬p<1)(C:¬64<p)(D:bi w A B n base a s)(L:s.d.Q)(m:8≤n)(E:n≤400)(M:aI (bv s.bs s.ents) 0=zB)(F:¬s.d.good→∀i,i<n→li i)(G:NG (fun b=>b=A))(H:cN w):Calls prog 46 #[.iface 31 (.pointer (some ⟨A,0,none⟩)),.int .i64 p,.func j ca k] w fun e f=>∃v,e= .returned (.tuple #[.pointer none,v])∧bi f A B n base a (s.after 1)∧Fr (fun b=>b=A) w f∧(bZ f v 6∨(eT f v∧s.d.bad=true)):=by
 have N:=re;have O:decide (p<1)=false:=by simpa using z
 have P:decide (64<p)=false:=by simpa using C
 have R:=D.d.lt;go_enter func46,ntmps46;go_wp2_with fail;refine(om D.d m E).mono ?_;rintro e X ⟨V,rfl,I,S,u⟩;go_wp2_with fail;refine(pz I (by omega) E).mono ?_;rintro e f ⟨rfl,rfl⟩;go_wp2_with fail;refine(mT _ _).mono ?_;rintro e Y ⟨rfl,rfl⟩;have c:Fr (fun _=>False) f (f.alloc (.cells #[.slice none 0 0,.int .i64 ((n:Int)-1)] 176)):=(Fr.refl _ _).alloc _;go_wp2_with fail;refine(wo (I.fr c id) ((D.frz u).frz c) L m E M F G ((H.fr u ka).fr c ka)).mono ?_;rintro e x ⟨v,rfl,q,r,J⟩;have t:=((u.mono (fun _ _ h=>h.elim)).trans (c.mono (fun _ _ h=>h.elim)) fI).trans r fI;have y:Hid (bi x A B n base a (s.after 1)∧Fr (fun b=>b=A) w x):=⟨q,t⟩;clear u c r I q t;have l:=fun o=>(Fr.refl (fun _=>False) x).alloc o;rcases J with rfl|⟨g,rfl,K,T⟩
 ·go_wp2_with fail;refine(cp _ 6 _).mono ?_;rintro e U ⟨rfl,rfl⟩;go_wp2;go_ret2;exact⟨_,rfl,y.out.1.frz (l _),y.out.2.alloc _,.inl (Or.inr ⟨_,_,rfl,aa _ _,by decide⟩)⟩
 ·have W:=af K;clear K;unfold eg;go_wp2_with fail;refine(fG _ g x).mono ?_;rintro e U ⟨rfl,rfl⟩;go_wp2;go_ret2;exact⟨_,rfl,y.out.1.frz (l _),y.out.2.alloc _,.inr ⟨⟨_,_,g,rfl,aa _ _,W.out.fr (l _) (fun _ _ _ _ _ h=>h)⟩,T⟩⟩
end
structure Wf(n:Nat)(s:DS):Prop where
 len:s.bs.length=s.d.cap*128
 nc:n≤s.d.cap
 u:eQ s.bs
 e:∀p∈s.ents,p.2.length=128∧p.1<n∧eQ p.2
theorem eQ.splice{b c:List Value}{o:Nat}(d:eQ b)(e:eQ c):eQ (splice b o c):=fun v a=>by
 rcases eC a with a|a
 ·exact d v a
 ·exact e v a
section
variable{n m:Nat}
theorem jW:∀{a:List (Nat×List Value)} {b:List Value},b.length=m*128→n≤m→eQ b→(∀p∈a,p.2.length=128∧p.1<n∧eQ p.2)→(bv b a).length=m*128∧eQ (bv b a)
 |[],_,c,_,d,_=>⟨c,d⟩
 |p::l,b,c,g,d,f=>by obtain⟨h,k,i⟩:=f p (by simp);have e:bv b (p::l)=bv (splice b (p.1*128) p.2) l:=rfl;rw[e];exact jW (by rw[dK (by rw[h,c];omega),c]) g (d.splice i) (fun q j=>f q (by simp[j]))
theorem vO(c:List Value)(a:List (Nat×List Value))(i:Nat)(b:List Value):bv c (a++[(i,b)])=splice (bv c a) (i*128) b:=by simp[bv]
theorem ku{a b:List Value}{ents:List (Nat×List Value)}{i:Nat}(c:a.length=m*128)(d:n≤m)(e:eQ a)(f:∀p∈ents,p.2.length=128∧p.1<n∧eQ p.2)(g:b.length=128)(hi:i<n)(j:Nat)(h:j<m):aI (bv a (ents++[(i,b)])) j=if i=j then b else aI (bv a ents) j:=by rw[vO];exact fB (jW c d e f).1 g (by omega) h
theorem nv:∀{a:List (Nat×List Value)} {b:List Value} {j:Nat},b.length=m*128→n≤m→(∀p∈a,p.2.length=128∧p.1<n)→j<m→(∀p∈a,p.1=j→p.2=aI b j)→aI (bv b a) j=aI b j
 |[],_,_,_,_,_,_,_=>rfl
 |p::l,b,j,c,r,f,g,i=>by
  obtain⟨k,t⟩:=f p (by simp);have e:bv b (p::l)=bv (splice b (p.1*128) p.2) l:=rfl;have o:aI (splice b (p.1*128) p.2) j=aI b j:=by
   rw[fB c k (by omega) g];split
   ·rename_i h;exact i p (by simp) h
   ·rfl
  rw[e,nv (by rw[dK (by rw[k,c];omega),c]) r (fun q d=>f q (by simp[d])) g (fun q d h=>by rw[o];exact i q (by simp[d]) h),o]
end
theorem tW{n i:Nat}(h:i<n):((i,zB):Nat×List Value).2.length=128∧((i,zB):Nat×List Value).1<n∧eQ ((i,zB):Nat×List Value).2:=⟨ce,h,jK⟩
def P1(n:Nat)(s:DS):Prop:=Wf n s∧aI s.bs 0=zB∧∀p∈s.ents,p.2=zB
def P2(n:Nat)(s:DS):Prop:=Wf n s∧(∀i,i<n→aI s.bs i=zB)∧∀p∈s.ents,p=(0,bc n)∨p=(0,zB)
def P0(n:Nat)(s:DS)(recs:List (List Value))(Q:Prop):Prop:=∃a j,s.ents=a++List.replicate j (0,zB)∧JD n ⟨s.d,a,s.bs⟩ recs∧(JZ n ⟨s.d,a,s.bs⟩ recs∨Q)
section
variable{n:Nat}{s s':DS}{recs:List (List Value)}{Q:Prop}
theorem JD.wf(h:JD n s recs):Wf n s:=by
 rcases h with⟨i,a,c⟩|⟨e,r,j,_,a,c,f,d,g⟩
 ·exact⟨a.len,a.nm,a.one,fun p b=>by obtain⟨rfl,h⟩:=c p b;exact tW h⟩
 ·refine⟨a.len,a.nm,a.one,fun p b=>?_⟩;rw[c]at b;rcases CF.1 b with rfl|b
  ·exact⟨d.1.1,g,d.2⟩
  ·obtain⟨rfl,h⟩:=f p b;exact tW h
theorem P0.wf(c:0<n)(h:P0 n s recs Q):Wf n s:=by
 obtain⟨g,j,d,f,_⟩:=h;have b:=f.wf;refine⟨b.len,b.nc,b.u,fun p a=>?_⟩;rw[d]at a;rcases Cv.1 a with a|a
 ·exact b.e p a
 ·rw[(D6.1 a).2];exact tW c
theorem JD.p0(h:JD n s recs)(a:JZ n s recs∨Q):P0 n s recs Q:=⟨s.ents,0,by simp,h,a⟩
theorem P0.snoc(h:P0 n s recs Q)(c:s'.ents=s.ents++[(0,zB)])(a:s'.bs=s.bs)(b:s'.d.cap=s.d.cap):P0 n s' recs Q:=by obtain⟨e,j,f,g,i⟩:=h;exact⟨e,j+1,by rw[c,f,Ep,List.replicate_succ'],g.keep rfl a b,i.imp_left (fun h=>h.keep rfl a b)⟩
theorem P0.keep(h:P0 n s recs Q)(c:s'.ents=s.ents)(a:s'.bs=s.bs)(b:s'.d.cap=s.d.cap):P0 n s' recs Q:=by obtain⟨e,j,f,g,i⟩:=h;exact⟨e,j,by rw[c,f],g.keep rfl a b,i.imp_left (fun h=>h.keep rfl a b)⟩
theorem P0.jz(h:P0 n s recs Q)(a:s.ents=[]):JZ n s recs:=by
 obtain⟨i,j,c,d,k⟩:=h;rw[a]at c;obtain⟨rfl,_⟩:=List.append_eq_nil_iff.1 c.symm;rcases d with⟨e,f,b⟩|⟨g,r,l,_,_,b,_⟩
 ·exact⟨e,f,by rw[a];exact b⟩
 ·cases b
theorem Wf.keep(h:Wf n s)(c:s'.ents=s.ents)(a:s'.bs=s.bs)(b:s'.d.cap=s.d.cap):Wf n s':=⟨by rw[a,b];exact h.len,by rw[b];exact h.nc,by rw[a];exact h.u,by rw[c];exact h.e⟩
theorem Wf.snoc(h:Wf n s){i:Nat}{b:List Value}(hi:i<n)(g:b.length=128)(j:eQ b)(k:s'.ents=s.ents++[(i,b)])(c:s'.bs=s.bs)(f:s'.d.cap=s.d.cap):Wf n s':=⟨by rw[c,f];exact h.len,by rw[f];exact h.nc,by rw[c];exact h.u,fun p a=>by
 rw[k]at a;rcases Cv.1 a with a|a
 ·exact h.e p a
 ·rw[Db.1 a];exact⟨g,hi,j⟩⟩
theorem P1.keep(h:P1 n s)(a:s'.ents=s.ents)(b:s'.bs=s.bs)(c:s'.d.cap=s.d.cap):P1 n s':=⟨h.1.keep a b c,by rw[b];exact h.2.1,by rw[a];exact h.2.2⟩
theorem P1.snoc(h:P1 n s){i:Nat}(hi:i<n)(b:s'.ents=s.ents++[(i,zB)])(c:s'.bs=s.bs)(e:s'.d.cap=s.d.cap):P1 n s':=⟨h.1.snoc hi ce jK b c e,by rw[c];exact h.2.1,fun p a=>by
 rw[b]at a;rcases Cv.1 a with a|a
 ·exact h.2.2 p a
 ·rw[Db.1 a]⟩
theorem P2.keep(h:P2 n s)(a:s'.ents=s.ents)(b:s'.bs=s.bs)(c:s'.d.cap=s.d.cap):P2 n s':=⟨h.1.keep a b c,by rw[b];exact h.2.1,by rw[a];exact h.2.2⟩
theorem P2.snoc(h:P2 n s)(e:0<n)(b:s'.ents=s.ents++[(0,zB)])(c:s'.bs=s.bs)(f:s'.d.cap=s.d.cap):P2 n s':=⟨h.1.snoc e ce jK b c f,by rw[c];exact h.2.1,fun p a=>by
 rw[b]at a;rcases Cv.1 a with a|a
 ·exact h.2.2 p a
 ·exact .inr (Db.1 a)⟩
theorem P1.view(h:P1 n s)(c:0<n):aI (bv s.bs s.ents) 0=zB:=by have b:=h.1.nc;rw[nv h.1.len h.1.nc (fun p a=>⟨(h.1.e p a).1,(h.1.e p a).2.1⟩) (by omega) (fun p a _=>by rw[h.2.1];exact h.2.2 p a),h.2.1]
theorem tH(h:P1 n s):∀m,m<n→P1 n (aM s m).2∧(aM s m).2.bs=s.bs∧(aM s m).2.d.cap=s.d.cap∧((aM s m).1=true→(aM s m).2.ents=s.ents++(List.range m).map fun i=>(i+1,zB))
 |0,_=>⟨h,rfl,rfl,fun _=>by simp[aM]⟩
 |m+1,j=>by
  obtain⟨b,c,f,k⟩:=tH h m (by omega);rw[aM];by_cases a:(aM s m).1=true
  ·rw[CE a];have l:=fQ (aM s m).2 (m+1) zB;by_cases g:(aM s m).2.d.bad=true
   ·have e:(aM s m).2.store (m+1) zB=(false,(aM s m).2.fail):=by unfold DS.store;rw[CE g]
    rw[e];exact⟨b.keep rfl rfl rfl,c,f,(fun h=>by cases h)⟩
   ·have e:(aM s m).2.store (m+1) zB=(true,⟨(aM s m).2.d.next.wrote,(aM s m).2.ents++[(m+1,zB)],(aM s m).2.bs⟩):=by unfold DS.store;rw[Cz g]
    rw[e];refine⟨b.snoc j rfl rfl rfl,c,f,fun _=>?_⟩;show(aM s m).2.ents++[(m+1,zB)]=_;rw[k a,List.range_succ,CV,Ep];rfl
  ·rw[Cz a];exact⟨b,c,f,fun h=>absurd h a⟩
end
section
variable{n m:Nat}
theorem mI{a:List Value}(b:a.length=m*128)(c:n≤m)(d:eQ a):∀k,k<n→∀j,j<m→aI (bv a (wipes k)) j=if 1≤j∧j≤k then zB else aI a j
 |0,_,j,_=>by rw[Cz (by omega)];rfl
 |k+1,i,j,g=>by
  have l:=mI b c d k (by omega) j g;rw[rL,ku b c d (fun p o=>by have:=uR o;exact⟨by rw[this.2.2];exact ce,by omega,by rw[this.2.2];exact jK⟩) ce i j g,l];by_cases e:k+1=j
  ·rw[CE e,CE (by omega)]
  ·rw[Cz e];by_cases h:1≤j∧j≤k
   ·rw[CE h,CE (by omega)]
   ·rw[Cz h,Cz (by omega)]
theorem lJ{f:List Value}(b:n≤m)(c:f.length=m*128)(d:eQ f)(e:aI f 0=bc n)(a:∀i,1≤i→i<n→aI f i=zB):bQ n m f [] zB:=⟨b,c,d,e,fun i r g=>by simp at g,fun h=>⟨a 1 (by omega) h,lG⟩,fun i j k=>a i (by simp at j;omega) k⟩
end
section
variable{n:Nat}{s:DS}
theorem tS(h:Wf n s)(X:8≤n)(K:n≤400):((bF s n).1=true∧eZ n (bF s n).2 [])∨(¬(bF s n).1=true∧((((bF s n).2.ents=s.ents∨(bF s n).2.ents=s.ents++[(0,zB)])∧(bF s n).2.bs=s.bs∧(bF s n).2.d.cap=s.d.cap)∨P1 n (bF s n).2∨P2 n (bF s n).2)):=by
 have L:=(jt s n).1.c;obtain⟨B,_,_,_,N⟩:=dB s 0 zB;rcases N with⟨v,l,o⟩|⟨v,l,o⟩|⟨v,l,o⟩
 ·have e:bF s n=(false,(s.put 0 zB).2):=by unfold bF;rw[Cz (by rw[v];simp)]
  rw[e];exact .inr ⟨by simp,.inl ⟨.inl l,o,B.c⟩⟩
 ·have e:bF s n=(false,(s.put 0 zB).2):=by unfold bF;rw[Cz (by rw[v];simp)]
  rw[e];exact .inr ⟨by simp,.inl ⟨.inr l,o,B.c⟩⟩
 ·have D:∀p∈s.ents++[(0,zB)],p.2.length=128∧p.1<n∧eQ p.2:=fun p a=>by
   rcases Cv.1 a with a|a
   ·exact h.e p a
   ·rw[Db.1 a];exact tW (by omega)
  obtain⟨O,P⟩:=jW h.len h.nc h.u D;have Q:=h.nc;have E:P1 n (s.put 0 zB).2:=by refine⟨⟨by rw[o,B.c];exact O,by rw[B.c];exact h.nc,by rw[o];exact P,fun p a=>by rw[l]at a;cases a⟩,?_,fun p a=>by rw[l]at a;cases a⟩;rw[o,ku h.len h.nc h.u h.e ce (by omega) 0 (by omega),CE rfl]
  obtain⟨k,Y,Z,C⟩:=tH E (n-1) (by omega);unfold bF;rw[CE v];by_cases w:(aM (s.put 0 zB).2 (n-1)).1=true
  ·rw[CE w];have C:=C w;rw[l,Dr]at C;generalize aM (s.put 0 zB).2 (n-1)=q at*
   by_cases M:q.2.d.bad=true
   ·have e:q.2.secure=(false,q.2.fail):=by unfold DS.secure;rw[CE M]
    rw[e,Cz (by simp)];exact .inr ⟨by simp,.inr (.inl (k.keep rfl rfl rfl))⟩
   ·have e:q.2.secure=(true,⟨q.2.d.next,[],bv q.2.bs q.2.ents⟩):=by unfold DS.secure;rw[Cz M]
    rw[e,CE rfl];have F:q.2.ents=wipes (n-1):=C;have b:=k.1.nc;obtain⟨G,H⟩:=jW k.1.len k.1.nc k.1.u k.1.e;have g:∀i,i<n→aI (bv q.2.bs q.2.ents) i=zB:=fun i hi=>by
     rw[F,mI k.1.len k.1.nc k.1.u (n-1) (by omega) i (by omega)];split
     ·rfl
     ·obtain rfl:i=0:=by omega
      exact k.2.1
    have x:Wf n ⟨q.2.d.next,[],bv q.2.bs q.2.ents⟩:=⟨G,b,H,fun p a=>by cases a⟩;obtain⟨I,_,_,_,R⟩:=dB ⟨q.2.d.next,[],bv q.2.bs q.2.ents⟩ 0 (bc n);rcases R with⟨y,r,t⟩|⟨y,r,t⟩|⟨y,r,t⟩
    ·refine .inr ⟨by rw[y];simp,.inr (.inl ?_)⟩;have S:P1 n ⟨q.2.d.next,[],bv q.2.bs q.2.ents⟩:=⟨x,g 0 (by omega),fun p a=>by cases a⟩;exact S.keep r t I.c
    ·refine .inr ⟨by rw[y];simp,.inr (.inr ⟨x.snoc (by omega) (cr n) (mL K) r t I.c,fun i hi=>by rw[t];exact g i hi,fun p a=>?_⟩)⟩;rw[r]at a;exact .inl (by simpa using a)
    ·refine .inl ⟨y,?_,r⟩;have T:((⟨q.2.d.next,[],bv q.2.bs q.2.ents⟩:DS).put 0 (bc n)).2.d.cap=q.2.d.cap:=I.c;rw[t,T];have J:∀p∈([]:List (Nat×List Value))++[(0,bc n)],p.2.length=128∧p.1<n∧eQ p.2:=fun p a=>by rw[Dr]at a;rw[Db.1 a];exact⟨cr n,by omega,mL K⟩
     obtain⟨U,V⟩:=jW G b H J;have A:=fun j W=>ku (ents:=[]) G b H (fun p a=>by cases a) (cr n) (show 0<n by omega) j W;refine lJ b U V ?_ (fun i h1 w=>?_)
     ·rw[A 0 (by omega),CE rfl]
     ·rw[A i (by omega),Cz (by omega)];exact g i w
  ·rw[Cz w];exact .inr ⟨by simp,.inr (.inl k)⟩
end
theorem oe{n j:Nat}(a:32≤j)(b:j<128):(bc n)[j]?=some (.int .u8 0):=by unfold bc;rw[CG (by simp;omega),CG (by rw[j5];simp;omega),E9,CE (by rw[j5];simp;omega)]
section
variable{n m:Nat}{f:List Value}{z:Int}
theorem mQ{a b:List Value}(i:a=bc n∨a=zB)(k:b=bc n∨b=zB)(p:f.length=m*128)(q:0<m)(r:aI f 0=a):aI (cf f 0 b z 4) 0=if ff z 0=true then b else a:=by
 have e:b.length=128:=by rcases k with rfl|rfl;exact cr n;exact ce
 have t:a.length=128:=by rcases i with rfl|rfl;exact cr n;exact ce
 have c:∀j,32≤j→j<128→a[j]?=some (.int .u8 0)∧b[j]?=some (.int .u8 0):=fun j l d=>by
  refine⟨?_,?_⟩
  ·rcases i with rfl|rfl
   ·exact oe l d
   ·exact my d
  ·rcases k with rfl|rfl
   ·exact oe l d
   ·exact my d
 apply DX;intro j;by_cases o:j<128
 ·rw[ow p e q o,r];by_cases u:j<32
  ·rw[show j/32=0 by omega];split<;>rfl
  ·obtain⟨g,h⟩:=c j (by omega) o;rw[g,h];split
   ·split
    ·exact h.symm
    ·exact g.symm
   ·split
    ·exact h.symm
    ·exact g.symm
 ·rw[Da (by unfold aI;rw[Cy];omega)];split
  ·rw[Da (by omega)]
  ·rw[Da (by omega)]
end
section
variable{w:World}{X J R:Nat}{clock pause:Int}{a:Value}
theorem na(b:ly w X J R true clock pause a)(id:Int){c:Option Addr}(n m:Nat):Calls prog 42 #[.pointer (some ⟨X,0,none⟩),.int .i64 id,.slice c n m] w fun e d=>e= .returned (lT 4)∧d=w:=by have c2:w.cell? ⟨X,2,none⟩=some (.bool true):=(Cn _ X 2 _ _ _ b).trans rfl;unfold lT;go_enter func42,ntmps42;go_wp2;go_ret;exact⟨rfl,rfl⟩
theorem pY(b:ly w X J R true clock pause a):Calls prog 43 #[.pointer (some ⟨X,0,none⟩)] w fun e c=>e= .returned (lT 4)∧c=w:=by have c2:w.cell? ⟨X,2,none⟩=some (.bool true):=(Cn _ X 2 _ _ _ b).trans rfl;unfold lT;go_enter func43,ntmps43;go_wp2;go_ret;exact⟨rfl,rfl⟩
theorem vx{Q:World→Prop}{k:Int}(f:k≠0)(h:Calls prog 43 #[.pointer (some ⟨X,0,none⟩)] w fun e b=>e= .returned (lT k)∧Q b):Calls prog 23 #[.pointer (some ⟨X,0,none⟩)] w fun e b=>∃v c,e= .returned v∧bZ b v k∧Q c∧Fr (fun _=>False) c b:=by go_enter func23,ntmps23;go_wp2_with fail;refine h.mono ?_;rintro e c ⟨rfl,d⟩;unfold lT;go_wp2_with fail;refine(cp _ k _).mono ?_;rintro e i ⟨rfl,rfl⟩;have g:=af d;clear d;go_wp2;go_ret;exact⟨_,c,rfl,Or.inr ⟨_,_,rfl,aa _ _,f⟩,g.out,(Fr.refl _ _).alloc _⟩
end
section
variable{w:World}{X n:Nat}{clock pause:Int}{a:Value}{L:List AS}{rs:List ba}{F:Nat→Prop}
theorem ED.sub(h:ED w X n clock pause a L rs F)(id:Int){f:Option Addr}(k m:Nat):Calls prog 21 #[.pointer (some ⟨X,0,none⟩),.int .i64 id,.slice f k m] w fun e b=>∃v,e= .returned v∧bZ b v 4∧Fr (fun _=>False) w b:=by obtain⟨_,J,R,c,d,ev,l,g,_⟩:=h;refine(fP (k:=4) (by decide) (na g id k m)).mono ?_;rintro e b ⟨v,o,rfl,i,rfl,j⟩;exact⟨v,rfl,i,j⟩
theorem ED.tick(h:ED w X n clock pause a L rs F):Calls prog 23 #[.pointer (some ⟨X,0,none⟩)] w fun e b=>∃v,e= .returned v∧bZ b v 4∧Fr (fun _=>False) w b:=by obtain⟨_,J,R,c,d,ev,j,f,_⟩:=h;refine(vx (k:=4) (by decide) (pY f)).mono ?_;rintro e b ⟨v,l,rfl,g,rfl,i⟩;exact⟨v,rfl,g,i⟩
theorem ED.fr{S:Nat→Prop}{e:World}(h:ED w X n clock pause a L rs F)(f:Fr S w e)(hF:∀b,F b→¬S b):ED e X n clock pause a L rs F:=by obtain⟨j,J,R,c,d,ev,k,l,m,o,g,i⟩:=h;exact⟨j,J,R,c,d,ev,k,f.keep l (hF X g),m.fr f (fun b p=>hF b (i b p)),o,g,i⟩
end
section
variable{w:World}{A B n:Nat}{a:Value}{d:DP}
theorem rW(h:aP w A B n a d):Calls prog 36 #[.pointer (some ⟨A,0,none⟩)] w fun e b=>e= .returned (.int .i64 d.writes)∧b=w:=by have c3:=h.c3;go_enter func36,ntmps36;go_wp2;go_ret;exact⟨rfl,rfl⟩
theorem kR{b:Option Addr}{k c:Nat}(h:aP w A B n (.slice b k c) d):Calls prog 34 #[.pointer (some ⟨A,0,none⟩)] w fun e f=>e= .returned (.int .i64 k)∧f=w:=by have c1:=h.c1;go_enter func34,ntmps34;go_wp2;go_ret;exact⟨rfl,rfl⟩
end
end Go.Proofs.YteebjgfalllbjaaGreatDoor
