import Derived.Test.YteebjgfalllbjaaGreatDoorK34
namespace Go.Proofs.YteebjgfalllbjaaGreatDoor
open Go.RowKit Go.Proofs.Tryz
set_option maxRecDepth 100000
set_option maxHeartbeats 4000000
def jb(n d:Nat)(s:DS)(a:List Int):List Value:=cutL (s.bs.take (n*128)++List.replicate ((d-n)*128) (Value.int .u8 0)) (s.ents.zip a)
def dp(n m:Nat)(c:List Value):Prop:=n≤m∧c.length=m*128∧eQ c∧aI c 0=zB
section
variable{n m:Nat}{c:List Value}{z:Int}
theorem oI{a:Nat}{b:List Value}(f:c.length=m*128)(g:eQ c)(i:a<m)(h:b.length=128)(e:eQ b):(cf c a b z 4).length=m*128∧eQ (cf c a b z 4):=⟨by rw[iv h (by rw[f];omega) 4 (Cs _),f],jO g e 4⟩
theorem dp.cutZ{a:Nat}(h:dp n m c)(k:a<n):dp n m (cf c a zB z 4):=by
 obtain⟨i,b,j,f⟩:=h;have g:=oI (z:=z) b j (show a<m by omega) ce jK;refine⟨i,g.1,g.2,?_⟩;by_cases e:a=0
 ·subst e;rw[mQ (n:=n) (.inr rfl) (.inr rfl) b (by omega) f];split<;>rfl
 ·rw[ft b ce (by omega) (fun h=>e h.symm),f]
theorem dp.cutL:∀{l:List ((Nat×List Value)×Int)} {c:List Value},dp n m c→(∀q∈l,q.1.2=zB∧q.1.1<n)→dp n m (cutL c l)
 |[],_,h,_=>h
 |(p,z)::l,c,h,f=>by obtain⟨a,g⟩:=f (p,z) (by simp);have e:Go.Proofs.YteebjgfalllbjaaGreatDoor.cutL c ((p,z)::l)=Go.Proofs.YteebjgfalllbjaaGreatDoor.cutL (cf c p.1 p.2 z 4) l:=rfl;have a:p.2=zB:=a;rw[e,a];exact dp.cutL (h.cutZ g) (fun q b=>f q (by simp[b]))
theorem bQ.cutH{recs:List (List Value)}{f:List Value}(h:bQ n m c recs f)(q:0<n):bQ n m (cf c 0 zB z 4) recs f∨dp n m (cf c 0 zB z 4):=by
 have g:=h.nm;have b:=oI (z:=z) h.len h.one (show 0<m by omega) ce jK;have e:=mQ (n:=n) (z:=z) (.inl rfl) (.inr rfl) h.len (by omega) h.head;have a:∀i,i≠0→aI (cf c 0 zB z 4) i=aI c i:=fun i hi=>ft h.len ce (by omega) hi;by_cases j:ff z 0=true
 ·rw[CE j]at e;exact .inr ⟨g,b.1,b.2,e⟩
 ·rw[Cz j]at e;exact .inl ⟨g,b.1,b.2,e,fun i r k=>by rw[a _ (by omega)];exact h.get i r k,fun l=>by rw[a _ (by omega)];exact h.tail l,fun i o p=>by rw[a _ (by omega)];exact h.zero i o p⟩
theorem bQ.cutHs{recs:List (List Value)}{i:List Value}(b:0<n):∀{l:List ((Nat×List Value)×Int)} {c:List Value},bQ n m c recs i→(∀q∈l,q.1=(0,zB))→bQ n m (cutL c l) recs i∨dp n m (cutL c l)
 |[],_,h,_=> .inl h
 |(p,z)::l,c,h,f=>by
  obtain rfl:p=(0,zB):=f (p,z) (by simp);have e:Go.Proofs.YteebjgfalllbjaaGreatDoor.cutL c (((0,zB),z)::l)=Go.Proofs.YteebjgfalllbjaaGreatDoor.cutL (cf c 0 zB z 4) l:=rfl;rw[e];rcases h.cutH (z:=z) b with g|g
  ·exact bQ.cutHs b g (fun q a=>f q (by simp[a]))
  ·exact .inr (dp.cutL g (fun q a=>by have:=f q (by simp[a]);rw[this];exact⟨rfl,b⟩))
def ix(n m:Nat)(c:List Value):Prop:=n≤m∧c.length=m*128∧eQ c∧(aI c 0=bc n∨aI c 0=zB)∧∀i,1≤i→i<n→aI c i=zB
theorem ix.cut{b:List Value}(h:ix n m c)(u:0<n)(p:n≤400)(e:b=bc n∨b=zB):ix n m (cf c 0 b z 4):=by
 obtain⟨q,f,r,l,t⟩:=h;have a:b.length=128:=by rcases e with rfl|rfl;exact cr n;exact ce
 have g:eQ b:=by rcases e with rfl|rfl;exact mL p;exact jK
 have o:=oI (z:=z) f r (show 0<m by omega) a g;refine⟨q,o.1,o.2,?_,fun i j k=>by rw[ft f a (by omega) (by omega)];exact t i j k⟩;rw[mQ (n:=n) (z:=z) l e f (by omega) rfl];split
 ·exact e
 ·exact l
theorem ix.cutL(f:0<n)(g:n≤400):∀{l:List ((Nat×List Value)×Int)} {c:List Value},ix n m c→(∀q∈l,q.1=(0,bc n)∨q.1=(0,zB))→ix n m (cutL c l)
 |[],_,h,_=>h
 |(p,z)::l,c,h,i=>by
  have e:Go.Proofs.YteebjgfalllbjaaGreatDoor.cutL c ((p,z)::l)=Go.Proofs.YteebjgfalllbjaaGreatDoor.cutL (cf c p.1 p.2 z 4) l:=rfl;rw[e];rcases i (p,z) (by simp)with a|a
  ·have a:p=(0,bc n):=a;subst a;exact ix.cutL f g (h.cut f g (.inl rfl)) (fun q b=>i q (by simp[b]))
  ·have a:p=(0,zB):=a;subst a;exact ix.cutL f g (h.cut f g (.inr rfl)) (fun q b=>i q (by simp[b]))
theorem ix.out(h:ix n m c):bQ n m c [] zB∨dp n m c:=by
 obtain⟨b,e,f,a,g⟩:=h;rcases a with a|a
 ·exact .inl (lJ b e f a g)
 ·exact .inr ⟨b,e,f,a⟩
end
section
variable{n d:Nat}{s:DS}{recs:List (List Value)}
theorem qh(h:Wf n s)(g:n≤d):(s.bs.take (n*128)++List.replicate ((d-n)*128) (Value.int .u8 0)).length=d*128∧eQ (s.bs.take (n*128)++List.replicate ((d-n)*128) (Value.int .u8 0))∧∀i,i<n→aI (s.bs.take (n*128)++List.replicate ((d-n)*128) (Value.int .u8 0)) i=aI s.bs i:=by
 have b:=h.nc;have e:(s.bs.take (n*128)).length=n*128:=by rw[Cy,h.len];omega
 refine⟨by rw[Cr,e,Dm];omega,eQ.append (fun v f=>h.u v (CU f)) (eQ.rep _),fun i hi=>?_⟩;apply DX;intro j;by_cases a:j<128
 ·rw[fX _ _ a,fX _ _ a,CI (by omega),El (by omega)]
 ·rw[Da (by unfold aI;rw[Cy];omega),Da (by unfold aI;rw[Cy];omega)]
theorem P1.crash(h:P1 n s)(f:0<n)(a:n≤d)(b:List Int):dp n d (jb n d s b):=by obtain⟨g,i,j⟩:=qh h.1 a;refine dp.cutL ⟨a,g,i,by rw[j 0 f];exact h.2.1⟩ (fun q k=>?_);have:=(FA (show(q.1,q.2)∈s.ents.zip b from k)).1;exact⟨h.2.2 _ this,(h.1.e _ this).2.1⟩
theorem P2.crash(h:P2 n s)(b:0<n)(j:n≤400)(e:n≤d)(a:List Int):bQ n d (jb n d s a) [] zB∨dp n d (jb n d s a):=by obtain⟨k,o,f⟩:=qh h.1 e;refine(ix.cutL b j (l:=s.ents.zip a) ⟨e,k,o,.inr (by rw[f 0 b];exact h.2.1 0 b),fun i r g=>by rw[f i g];exact h.2.1 i g⟩ (fun q p=>?_)).out;exact h.2.2 _ (FA (show(q.1,q.2)∈s.ents.zip a from p)).1
theorem tI{α β:Type}:∀(a b:List α) (e:List β),(a++b).zip e=a.zip e++b.zip (e.drop a.length)
 |[],b,e=>by simp
 |x::a,b,[]=>by simp
 |x::a,b,z::e=>by simp[tI a b e]
theorem P0.crash{Q:Prop}(h:P0 n s recs Q)(p:recs.length<n)(t:n≤d)(f:List Int):(∃a b,bQ n d (jb n d s f) a b∧(a=recs∨(Q∧∃r,recs=a++[r])))∨dp n d (jb n d s f):=by
 obtain⟨l,j,u,v,w⟩:=h;have i:∀{a:List (List Value)} {b:List Value},bQ n d (cutL (s.bs.take (n*128)++List.replicate ((d-n)*128) (Value.int .u8 0)) (l.zip f)) a b→bQ n d (jb n d s f) a b∨dp n d (jb n d s f):=fun k=>by
  have e:jb n d s f=cutL (cutL (s.bs.take (n*128)++List.replicate ((d-n)*128) (Value.int .u8 0)) (l.zip f)) ((List.replicate j (0,zB)).zip (f.drop l.length)):=by unfold jb;rw[u,tI];unfold cutL;rw[List.foldl_append]
  rw[e];refine bQ.cutHs (by omega) k (fun q x=>?_);exact(D6.1 (FA (show(q.1,q.2)∈(List.replicate j (0,zB)).zip (f.drop l.length) from x)).1).2
 rcases w with o|y
 ·obtain⟨b,k⟩:=o.crash p t f;rcases i k with g|g
  ·exact .inl ⟨recs,b,g,.inl rfl⟩
  ·exact .inr g
 ·obtain⟨a,b,k,A⟩:=v.crash p t f;rcases i k with g|g
  ·exact .inl ⟨a,b,g,A.imp_right (fun h=>⟨y,h.2⟩)⟩
  ·exact .inr g
end
theorem jM{i:Nat}(h:i<400):li i:=by
 by_cases hi:i<100
 ·exact uT hi
 ·exact fun W a=>wQ (i:Int) (by omega) (by omega) W a
def lg(A Pp n:Nat)(nn em:Bool)(x:Value)(pause clock:Int)(fd:Bool)(Lv:Value):Array Value:=#[.pointer (some ⟨A,0,none⟩),.pointer (some ⟨Pp,0,none⟩),.int .i64 n,.bool nn,.bool em,x,.int .i64 pause,.int .i64 clock,.bool fd,Lv]
def aH(w:World)(D A Pp n:Nat)(nn em:Bool)(x:Value)(pause clock:Int)(fd:Bool)(Lv:Value):Prop:=w.heap[D]?=some (.cells (lg A Pp n nn em x pause clock fd Lv) 111 (0,0))
section
variable{w w':World}{D A Pp n:Nat}{nn em fd:Bool}{x Lv:Value}{pause clock:Int}
theorem aH.c(h:aH w D A Pp n nn em x pause clock fd Lv){i:Nat}{v:Value}(hi:(lg A Pp n nn em x pause clock fd Lv)[i]?=some v):w.cell? ⟨D,i,none⟩=some v:=(Cn w D i _ _ _ h).trans hi
theorem aH.c0(h:aH w D A Pp n nn em x pause clock fd Lv):w.cell? ⟨D,0,none⟩=some (.pointer (some ⟨A,0,none⟩)):=h.c rfl
theorem aH.c1(h:aH w D A Pp n nn em x pause clock fd Lv):w.cell? ⟨D,1,none⟩=some (.pointer (some ⟨Pp,0,none⟩)):=h.c rfl
theorem aH.c2(h:aH w D A Pp n nn em x pause clock fd Lv):w.cell? ⟨D,2,none⟩=some (.int .i64 n):=h.c rfl
theorem aH.c3(h:aH w D A Pp n nn em x pause clock fd Lv):w.cell? ⟨D,3,none⟩=some (.bool nn):=h.c rfl
theorem aH.c4(h:aH w D A Pp n nn em x pause clock fd Lv):w.cell? ⟨D,4,none⟩=some (.bool em):=h.c rfl
theorem aH.c5(h:aH w D A Pp n nn em x pause clock fd Lv):w.cell? ⟨D,5,none⟩=some x:=h.c rfl
theorem aH.c6(h:aH w D A Pp n nn em x pause clock fd Lv):w.cell? ⟨D,6,none⟩=some (.int .i64 pause):=h.c rfl
theorem aH.c7(h:aH w D A Pp n nn em x pause clock fd Lv):w.cell? ⟨D,7,none⟩=some (.int .i64 clock):=h.c rfl
theorem aH.c8(h:aH w D A Pp n nn em x pause clock fd Lv):w.cell? ⟨D,8,none⟩=some (.bool fd):=h.c rfl
theorem aH.c9(h:aH w D A Pp n nn em x pause clock fd Lv):w.cell? ⟨D,9,none⟩=some Lv:=h.c rfl
theorem aH.fz(h:aH w D A Pp n nn em x pause clock fd Lv)(j:Nat):w.frozen? ⟨D,j,none⟩=false:=CN w D j _ _ h
theorem aH.fr{S:Nat→Prop}(h:aH w D A Pp n nn em x pause clock fd Lv)(a:Fr S w w')(b:¬S D):aH w' D A Pp n nn em x pause clock fd Lv:=a.keep h b
theorem aH.set3(h:aH w D A Pp n nn em x pause clock fd Lv)(b:Bool):aH (w.setCell ⟨D,3,none⟩ (.bool b)) D A Pp n b em x pause clock fd Lv:=ag w D 3 _ _ _ h
theorem aH.set4(h:aH w D A Pp n nn em x pause clock fd Lv)(b:Bool):aH (w.setCell ⟨D,4,none⟩ (.bool b)) D A Pp n nn b x pause clock fd Lv:=ag w D 4 _ _ _ h
theorem aH.set5(h:aH w D A Pp n nn em x pause clock fd Lv)(v:Value):aH (w.setCell ⟨D,5,none⟩ v) D A Pp n nn em v pause clock fd Lv:=ag w D 5 _ _ v h
theorem aH.set6(h:aH w D A Pp n nn em x pause clock fd Lv)(p:Int):aH (w.setCell ⟨D,6,none⟩ (.int .i64 p)) D A Pp n nn em x p clock fd Lv:=ag w D 6 _ _ _ h
theorem aH.set7(h:aH w D A Pp n nn em x pause clock fd Lv)(c:Int):aH (w.setCell ⟨D,7,none⟩ (.int .i64 c)) D A Pp n nn em x pause c fd Lv:=ag w D 7 _ _ _ h
theorem aH.set8(h:aH w D A Pp n nn em x pause clock fd Lv)(b:Bool):aH (w.setCell ⟨D,8,none⟩ (.bool b)) D A Pp n nn em x pause clock b Lv:=ag w D 8 _ _ _ h
theorem aH.set9(h:aH w D A Pp n nn em x pause clock fd Lv)(v:Value):aH (w.setCell ⟨D,9,none⟩ v) D A Pp n nn em x pause clock fd v:=ag w D 9 _ _ _ h
end
def ud(fd:Bool)(a:ST)(r:RS):Prop:=if fd=true then a.id=r.id∧a.steps=r.st.length∧(a.state,a.step)∈r.may else a=r.st'
def tm(fd:Bool)(r:RS):Prop:=if fd=true then((0,0):SP)∈r.may else r.S.1=0
theorem np{w:World}{D A Pp n:Nat}{nn em fd:Bool}{x Lv:Value}{pause clock:Int}(h:aH w D A Pp n nn em x pause clock fd Lv)(a:ST)(r:RS)(i:aY w r.ma 2 (r.may.map wy))(d:r.may.length≤1000000)(f:ud fd a r):Calls prog 135 #[.pointer (some ⟨D,0,none⟩),.agg a.cs.toArray,.agg r.cs.toArray] w fun e w'=>e= .returned (.bool true)∧Fr (fun _=>False) w w':=by
 have c8:=h.c8;have G:=af (lt_of_heap h);have H:=fun b c=>(((Fr.refl (fun _=>False) w).alloc b).alloc c).cell c8 jI;have j:Hid (∀b c,Fr (fun _=>False) w ((w.alloc b).alloc c)):=fun b c=>((Fr.refl _ _).alloc _).alloc _;unfold ud at f;cases fd with
 |false=>
  rw[Cz (by simp)]at f;subst f;obtain⟨id,s,t,st,S,u,v,ma,mc,may⟩:=r;unfold RS.cs ST.cs RS.st';clear h i;go_enter func135,ntmps135;go_wp2;go_ret;exact⟨rfl,j.out _ _⟩
 |true=>
  rw[CE rfl]at f;obtain⟨p,q,k⟩:=f;obtain⟨id,s,t,st,S,u,v,ma,mc,may⟩:=r;obtain⟨y,l,m,z,B,C⟩:=a;simp only at p q k i d;subst p q;have E:=af (fun b c=>i.frz (j.out b c));have F:=Dg k;unfold RS.cs ST.cs;clear h i k;go_enter func135,ntmps135;go_wp2_with fail;refine(cY (E.out _ _) d (l,m)).mono ?_;rintro e I ⟨rfl,g⟩;rw[F];have o:=af ((j.out _ _).trans g fI);clear g;go_wp2;go_ret;exact⟨rfl,o.out⟩
theorem tF{w:World}{A B n:Nat}{b:Value}{d:DP}(h:aP w A B n b d)(l:0≤d.calls)(m:d.calls<1000000000)(a k:Int)(o:0≤a)(g:a≤1000)(p:0≤k)(i:k≤1000):Calls prog 31 #[.pointer (some ⟨A,0,none⟩),.int .i64 a,.int .i64 k] w fun e f=>e= .returned (.tuple #[])∧aP f A B n b {d with lo:=d.calls+a,hi:=d.calls+a+k}∧Fr (· =A) w f:=by have c2:w.cell? ⟨A,2,none⟩=some (.int .i64 d.calls):=h.c rfl;have c6:w.cell? ⟨A,6,none⟩=some (.int .i64 d.lo):=h.c rfl;have c7:w.cell? ⟨A,7,none⟩=some (.int .i64 d.hi):=h.c rfl;have q:=h.fz 6;have r:=h.fz 7;have j:=af h;clear h;go_enter func31,ntmps31;go_wp2;go_region;go_end0;exact⟨rfl,((j.out.set6 (d.calls+a)).set7 (d.calls+a+k)).drew,((Fr.set1 _ _ _ _).trans (Fr.set1 _ _ _ _) fI).drew⟩
section
variable{w w':World}{k X A B n:Nat}{clock pause:Int}{a:Value}{L:List AS}{rs:List ba}{s:DS}{C F:Nat→Prop}
theorem DG.writes(h:DG w k A B n s C):Calls prog 36 #[.pointer (some ⟨A,0,none⟩)] w fun e w'=>e= .returned (.int .i64 s.d.writes)∧w'=w:=by obtain⟨_,c,b,f,_⟩:=h;exact rW f.d
theorem DG.pend(h:DG w k A B n s C):Calls prog 34 #[.pointer (some ⟨A,0,none⟩)] w fun e w'=>e= .returned (.int .i64 (s.ents.length:Nat))∧w'=w:=by
 obtain⟨_,f,b,c,_⟩:=h;rcases c.q.o.2 with⟨rfl,i⟩|⟨g,j,l,rfl,_⟩
 ·have:=kR c.d;rw[i];exact this
 ·exact kR c.d
end
end Go.Proofs.YteebjgfalllbjaaGreatDoor
