import Derived.Test.YteebjgfalllbjaaGreatDoorK42
import Derived.Test.YteebjgfalllbjaaGreatDoorK43
namespace Go.Proofs.YteebjgfalllbjaaGreatDoor
open Go.RowKit Go.Proofs.Tryz
def fg(a:AS):AM:=⟨a,[a.S]⟩
theorem uA(a:AS)(b:Nat)(ck pause:Int):(fg a).after b ck pause=fg (a.after b ck pause):=by
 unfold AM.after AS.after fg;by_cases h:a.moves b=true
 ·simp only[CE h]
 ·simp only[Cz h];rfl
section
variable{d:Value}(P:rT d)(ck pause:Int)
def da:List AS→P.σ→List (CL×Nat)
 |[],_=>[]
 |a::l,s=>if a.dueB ck=true then(a.asks,(P.ask s a.asks).1)::da l (P.ask s a.asks).2 else da l s
variable{P ck pause}
theorem eO{a:AS}{s:P.σ}(h:a.dueB ck=true):aT P ck pause a s=(a.after (P.ask s a.asks).1 ck pause,(P.ask s a.asks).2,if a.moves (P.ask s a.asks).1=true then[(a.id.toNat,(P.ask s a.asks).1)]else[]):=CE (Dh h)
theorem fN{a:AS}{s:P.σ}(h:a.dueB ck=false):aT P ck pause a s=(a,s,[]):=Cz (of_decide_eq_false h)
theorem m7(b:P.σ→List (CL×Nat))(e:∀s c,b (P.ask s c).2=b s++[(c,(P.ask s c).1)]):∀(l:List AS) (s:P.σ),b (aq P ck pause l s).2.1=b s++da P ck l s
 |[],s=>by simp[aq,da]
 |a::l,s=>by
  simp only[aq,da];cases h:a.dueB ck with
  |true=>rw[eO h,m7 b e l,e,CE rfl];simp
  |false=>rw[fN h,m7 b e l,Cz (by simp)]
theorem iD:∀(l:List AS) (s:P.σ),(da P ck l s).length≤l.length
 |[],s=>by simp[da]
 |a::l,s=>by
  simp only[da];split
  ·have:=iD l (P.ask s a.asks).2;simp;exact this
  ·have:=iD l s;simp;omega
theorem nr:∀(b c:List AS) (s:P.σ),aq P ck pause (b++c) s=((aq P ck pause b s).1++(aq P ck pause c (aq P ck pause b s).2.1).1,(aq P ck pause c (aq P ck pause b s).2.1).2.1,(aq P ck pause b s).2.2++(aq P ck pause c (aq P ck pause b s).2.1).2.2)
 |[],c,s=>by simp[aq]
 |a::b,c,s=>by simp[aq,nr b c]
theorem jC:∀(b c:List AS) (s:P.σ),da P ck (b++c) s=da P ck b s++da P ck c (aq P ck pause b s).2.1
 |[],c,s=>by simp[aq,da]
 |a::b,c,s=>by
  simp only[En,aq,da];cases h:a.dueB ck with
  |true=>
   rw[eO h,CE rfl,CE rfl,jC b c];rfl
  |false=>
   rw[fN h,Cz (by simp),Cz (by simp)];exact jC b c s
theorem iT:∀(l:List AS) (s:P.σ),(∀a∈l,a.dueB ck=false)→aq P ck pause l s=(l,s,[])∧da P ck l s=[]
 |[],s,_=>⟨rfl,rfl⟩
 |a::l,s,h=>by have c:=h a (by simp);obtain⟨e,f⟩:=iT l s (fun b g=>h b (by simp[g]));simp only[aq,da];rw[fN c];exact⟨by rw[e];rfl,by rw[Cz (by simp[c])];exact f⟩
theorem jr:∀l:List AS,(∀a∈l,a.dueB ck=false)∨∃f a c,l=f++a::c∧a.dueB ck=true∧∀b∈c,b.dueB ck=false
 |[]=> .inl (fun a h=>by cases h)
 |a::l=>by
  rcases jr l with h|⟨f,b,c,e,j,k⟩
  ·cases i:a.dueB ck with
   |false=>
    refine .inl (fun b g=>?_);rcases CF.1 g with rfl|g
    ·exact i
    ·exact h b g
   |true=>exact .inr ⟨[],a,l,rfl,i,h⟩
  ·exact .inr ⟨a::f,b,c,by rw[e];rfl,j,k⟩
theorem lB{io:Bool}{new rest:List (CL×Nat)}{f:Bool}{M2 M2':List AM}:∀(l:List AS) (s:P.σ) (k:Nat),new.drop k=da P ck l s++rest→(io=true→rest≠[])→ii ck pause false io new (k+(da P ck l s).length) M2 M2' f→ii ck pause false io new k (l.map fg++M2) ((aq P ck pause l s).1.map fg++M2') f
 |[],s,k,_,_,h=>h
 |a::l,s,k,c,b,h=>by
  simp only[aq,CY,En];cases g:a.dueB ck with
  |false=>
   rw[fN g];simp only[da,g,Ev,FY]at c h;exact .skip g (lB l s k c b h)
  |true=>
   rw[eO g];simp only[da,g,FH]at c h;have j:new[k]?=some (a.asks,(P.ask s a.asks).1):=by
    have:(new.drop k)[0]?=some (a.asks,(P.ask s a.asks).1):=by rw[c];rfl
    simpa using this
   have i:new.drop (k+1)=da P ck l (P.ask s a.asks).2++rest:=by rw[←List.drop_drop,c];rfl
   have o:=lB (f:=f) (M2:=M2) (M2':=M2') l (P.ask s a.asks).2 (k+1) i b (by
    simp only[DA]at h;rw[show k+1+(da P ck l (P.ask s a.asks).2).length=k+((da P ck l (P.ask s a.asks).2).length+1) by omega];exact h)
   have:=ii.reply (m:=fg a) g rfl j (P.le s a.asks) (fun e=>?_) o
   ·rw[uA]at this;exact this
   ·have p:=Ej List.length c;rw[Dx,Cr,DA]at p;have:rest.length≠0:=fun q=>b e (D3 q);omega
theorem yo(l:List AS)(s:P.σ):ii ck pause false false (da P ck l s) 0 (l.map fg) ((aq P ck pause l s).1.map fg) false:=by have:=lB (P:=P) (ck:=ck) (pause:=pause) (io:=false) (new:=da P ck l s) (rest:=[]) (f:=false) (M2:=[]) (M2':=[]) l s 0 (by simp) (fun e=>by cases e) (.nil (fun _=>by simp) (fun e=>by cases e));simpa using this
theorem tn(b c:List AS)(a:AS)(s:P.σ)(e:a.dueB ck=true):ii ck pause false true (da P ck b s++[(a.asks,(P.ask (aq P ck pause b s).2.1 a.asks).1)]) 0 ((b++a::c).map fg) ((aq P ck pause b s).1.map fg++(fg a).cutA (P.ask (aq P ck pause b s).2.1 a.asks).1 ck pause::c.map fg) true:=by have:=lB (P:=P) (ck:=ck) (pause:=pause) (io:=true) (new:=da P ck b s++[(a.asks,(P.ask (aq P ck pause b s).2.1 a.asks).1)]) (rest:=[(a.asks,(P.ask (aq P ck pause b s).2.1 a.asks).1)]) (f:=true) (M2:=fg a::c.map fg) (M2':=(fg a).cutA (P.ask (aq P ck pause b s).2.1 a.asks).1 ck pause::c.map fg) b s 0 (by simp) (fun _=>by simp) (.cut e rfl (by rw[D5,CG (Cs _)];simp;rfl) (P.le _ _) rfl (by simp));simpa using this
end
theorem ra{ck pause:Int}:∀M:List AM,ii ck pause false true [] 0 M M true
 |[]=> .nil (fun e=>by cases e) (fun _=> .inr rfl)
 |m::M=>by
  cases h:m.a.dueB ck with
  |true=>exact .stop h rfl rfl rfl
  |false=>exact .skip h (ra M)
theorem qu{ck pause:Int}{b e:Bool}(c:e=true→b=true∨([]:List (CL×Nat))=[]):∀M:List AM,(∀m∈M,m.a.dueB ck=false)→ii ck pause b e [] 0 M M e
 |[],_=> .nil (fun _=>rfl) c
 |m::M,h=> .skip (h m (by simp)) (qu c M (fun x f=>h x (by simp[f])))
def gX(ck pause:Int)(m:AM):AM:=if m.a.dueB ck=true then⟨m.a.vain ck pause,m.may⟩else m
theorem kA{ck pause:Int}{b:Bool}:∀M:List AM,ii ck pause true b [] 0 M (M.map (gX ck pause)) b
 |[]=> .nil (fun _=>rfl) (fun _=> .inl rfl)
 |m::M=>by
  rw[CY];unfold gX;cases h:m.a.dueB ck with
  |true=>rw[CE rfl];exact .vain h rfl (kA M)
  |false=>rw[Cz (by simp)];exact .skip h (kA M)
theorem ii.each{ck pause:Int}{i r f:Bool}{q:List (CL×Nat)}{k:Nat}{M j:List AM}(h:ii ck pause i r q k M j f):j.map (fun m=>(m.a.id,m.a.st))=M.map (fun m=>(m.a.id,m.a.st))∧∀b∈j,∃m∈M,b.may.length≤m.may.length+1∧(m.may≠[]→b.may≠[]):=by
 have o:∀(m:AM) (e:Nat),((m.after e ck pause).a.id,(m.after e ck pause).a.st)=(m.a.id,m.a.st)∧(m.after e ck pause).may.length≤m.may.length+1∧(m.may≠[]→(m.after e ck pause).may≠[]):=fun m e=>by
  unfold AM.after;split
  ·exact⟨rfl,by simp,fun _=>by simp⟩
  ·exact⟨rfl,DC _,fun h=>h⟩
 have cut:∀(m:AM) (e:Nat),((m.cutA e ck pause).a.id,(m.cutA e ck pause).a.st)=(m.a.id,m.a.st)∧(m.cutA e ck pause).may.length≤m.may.length+1∧(m.may≠[]→(m.cutA e ck pause).may≠[]):=fun m e=>by
  unfold AM.cutA;split
  ·exact⟨rfl,by simp,fun _=>by simp⟩
  ·exact⟨rfl,DC _,fun h=>h⟩
 have c:∀{m x:AM} {M j:List AM},(x.may.length≤m.may.length+1∧(m.may≠[]→x.may≠[]))→(∀b∈j,∃m∈M,b.may.length≤m.may.length+1∧(m.may≠[]→b.may≠[]))→∀b∈x::j,∃p∈m::M,b.may.length≤p.may.length+1∧(p.may≠[]→b.may≠[]):=fun{m x M j} s t b l=>by
  rcases CF.1 l with rfl|l
  ·exact⟨m,by simp,s⟩
  ·obtain⟨p,u,h⟩:=t b l;exact⟨p,by simp[u],h⟩
 have same:∀(M:List AM),∀b∈M,∃m∈M,b.may.length≤m.may.length+1∧(m.may≠[]→b.may≠[]):=fun M b l=>⟨b,l,DC _,fun h=>h⟩;induction h with
 |nil=>exact⟨rfl,fun b l=>by cases l⟩
 |skip _ _ g=>exact⟨by simp[g.1],c ⟨DC _,fun h=>h⟩ g.2⟩
 |vain _ _ _ g=>exact⟨by simp only[CY,g.1];rfl,c ⟨DC _,fun h=>h⟩ g.2⟩
 |stop=>exact⟨rfl,same _⟩
 |reply _ _ _ _ _ _ g=>exact⟨by simp only[CY,g.1,(o _ _).1],c (o _ _).2 g.2⟩
 |cut _ _ _ _ _ _=>exact⟨by simp only[CY,(cut _ _).1],c (cut _ _).2 (same _)⟩
def km(M:List AM)(rs:List ba):Prop:=(∀m∈M,stOf rs m.a.id∈m.may)∧(∀m∈M,∀a∈bh rs,a.id=m.a.id→a.st=m.a.st)∧∀a∈bh rs,∃m∈M,m.a.id=a.id
def xF(Le:List AS)(M:List AM):Prop:=(∀a∈Le,∀m∈M,a.id=m.a.id→a.told=m.a.told)∧(∀m∈M,(∀a∈Le,a.id≠m.a.id)→m.a.S.1=0)∧∀a∈Le,∃m∈M,m.a.id=a.id
section
variable{L:List RS}{Le:List AS}{rs:List ba}{n:Nat}{ck:Int}
theorem fH:bw L rs↔km (L.map RS.am) rs:=by
 constructor
 ·rintro⟨f,g,h⟩;refine⟨fun m c=>?_,fun m c=>?_,fun a i=>?_⟩
  ·obtain⟨r,b,rfl⟩:=Cx.1 c;exact f r b
  ·obtain⟨r,b,rfl⟩:=Cx.1 c;exact g r b
  ·obtain⟨r,b,e⟩:=h a i;exact⟨r.am,Dz b,e⟩
 ·rintro⟨f,g,h⟩;refine⟨fun r b=>f r.am (Dz b),fun r b=>g r.am (Dz b),fun a i=>?_⟩;obtain⟨m,c,e⟩:=h a i;obtain⟨r,b,rfl⟩:=Cx.1 c;exact⟨r,b,e⟩
theorem kI:ci false Le L↔xF Le (L.map RS.am):=by
 constructor
 ·rintro⟨g,h,i⟩;refine⟨fun a c m f e=>?_,fun m f j=>?_,fun a c=>?_⟩
  ·obtain⟨r,b,rfl⟩:=Cx.1 f;have:=g a c r b e;unfold ud at this;rw[Cz (by simp)]at this;exact this
  ·obtain⟨r,b,rfl⟩:=Cx.1 f;have:=h r b j;unfold tm at this;rw[Cz (by simp)]at this;exact this
  ·obtain⟨r,b,e⟩:=i a c;exact⟨r.am,Dz b,e⟩
 ·rintro⟨g,h,i⟩;refine⟨fun a c r b e=>?_,fun r b j=>?_,fun a c=>?_⟩
  ·unfold ud;rw[Cz (by simp)];exact g a c r.am (Dz b) e
  ·unfold tm;rw[Cz (by simp)];exact h r.am (Dz b) j
  ·obtain⟨m,f,e⟩:=i a c;obtain⟨r,b,rfl⟩:=Cx.1 f;exact⟨r,b,e⟩
theorem yi{a b:AS}(h:a.told=b.told)(c:a.st=b.st):a=b:=by obtain⟨m,e,⟨o,p⟩,q,r⟩:=a;obtain⟨s,f,⟨t,u⟩,v,w⟩:=b;simp only[AS.told,ST.mk.injEq]at h;obtain⟨g,i,j,_,k,l⟩:=h;have c:e=f:=c;subst g i j k l c;rfl
theorem jG(g:ci false Le L)(h:bw L rs)(i:gr n ck Le rs){a:AS}(c:a∈Le){r:RS}(f:r∈L)(e:a.id=r.id):a=r.a:=by have b:=g.hit a c r f e;unfold ud at b;rw[Cz (by simp)]at b;exact yi b (i.st h c f e)
theorem yD(h:ci false Le L)(l:bw L rs)(i:gr n ck Le rs)(j:L.Pairwise (fun a b=>a.id<b.id)):r5 (L.map RS.am)=Le.map fg:=by
 have k:(L.filter fun r=>decide (r.S.1≠0)).map RS.a=Le:=by
  refine iN (f:=AS.id) ?_ i.so (fun x=>⟨fun g=>?_,fun g=>?_⟩)
  ·rw[Dw];exact(j.filter _).imp jI
  ·obtain⟨r,c,rfl⟩:=Cx.1 g;obtain⟨c,o⟩:=Et.1 c;obtain⟨a,m,e⟩:=h.there c (Dh o);rw[←jG h l i m c e];exact m
  ·obtain⟨r,c,e⟩:=h.all x g;have:=jG h l i g c e.symm;refine Cx.2 ⟨r,Et.2 ⟨c,Dg ?_⟩,this.symm⟩;have p:=(i.mem g).1.s;have q:x.S.1=r.S.1:=by rw[this];rfl
   omega
 unfold r5;rw[List.filter_map,Dv,←k,Dv];rfl
theorem AK(f:gr n ck Le rs):km (Le.map fg) rs:=by
 refine⟨fun m g=>?_,fun m g a c e=>?_,fun a c=>?_⟩
 ·obtain⟨a,c,rfl⟩:=Cx.1 g;show stOf rs a.id∈[a.S];rw[f.stOf c rfl];simp
 ·obtain⟨b,h,rfl⟩:=Cx.1 g;have:=lA (gH f.ok).so c (f.mem_rec h) e;rw[this];rfl
 ·obtain⟨b,h,rfl⟩:=f.of_rec c;exact⟨fg b,Dz h,rfl⟩
theorem Bb(h:gr n ck Le rs):xF Le (Le.map fg):=by
 refine⟨fun a c m f e=>?_,fun m f i=>?_,fun a c=>⟨fg a,Dz c,rfl⟩⟩
 ·obtain⟨b,g,rfl⟩:=Cx.1 f;rw[lA h.so c g e];rfl
 ·obtain⟨b,g,rfl⟩:=Cx.1 f;exact absurd rfl (i b g)
theorem p9{c f:List AS}{x:AS}{m:AM}(g:gr n ck (c++x::f) rs)(i:m.a.id=x.id)(l:m.a.st=x.st)(o:x.S∈m.may):km (c.map fg++m::f.map fg) rs:=by
 obtain⟨q,j,r⟩:=AK g;have mem:∀p,p∈c.map fg++m::f.map fg→p=m∨p∈(c++x::f).map fg:=fun p g=>by
  rcases Cv.1 g with h|h
  ·exact .inr (by rw[CV];exact Fy _ h)
  ·rcases CF.1 h with h|h
   ·exact .inl h
   ·exact .inr (by rw[CV];exact List.mem_append_right _ (by simp[h]))
 have k:x∈c++x::f:=by simp
 refine⟨fun p b=>?_,fun p b=>?_,fun a s=>?_⟩
 ·rcases mem p b with rfl|h
  ·rw[i,g.stOf k rfl];exact o
  ·exact q p h
 ·rcases mem p b with rfl|h
  ·rw[i,l];exact j (fg x) (Dz k)
  ·exact j p h
 ·obtain⟨p,b,e⟩:=r a s;rw[CV,CY]at b;rcases Cv.1 b with h|h
  ·exact⟨p,Fy _ h,e⟩
  ·rcases CF.1 h with rfl|h
   ·exact⟨m,by simp,i.trans e⟩
   ·exact⟨p,List.mem_append_right _ (by simp[h]),e⟩
theorem pD{M:List AM}{pause:Int}(h:km M rs):km (M.map (gX ck pause)) rs:=by
 have e:∀m:AM,(gX ck pause m).a.id=m.a.id∧(gX ck pause m).a.st=m.a.st∧(gX ck pause m).may=m.may:=fun m=>by unfold gX;split<;>exact⟨rfl,rfl,rfl⟩
 refine⟨fun m c=>?_,fun m c=>?_,fun a f=>?_⟩
 ·obtain⟨p,b,rfl⟩:=Cx.1 c;rw[(e p).1,(e p).2.2];exact h.1 p b
 ·obtain⟨p,b,rfl⟩:=Cx.1 c;rw[(e p).1,(e p).2.1];exact h.2.1 p b
 ·obtain⟨p,b,g⟩:=h.2.2 a f;exact⟨_,Dz b,(e p).1.trans g⟩
end
def kS(s:Nat)(M:List AM):Prop:=M.Pairwise (fun a b=>a.a.id<b.a.id)∧M.length≤s∧∀m∈M,aO m.a.id m.a.st=true∧m.may≠[]∧m.may.length≤2*s+2
theorem ii.good{u pause:Int}{b v f:Bool}{l:List (CL×Nat)}{k s:Nat}{M i:List AM}(h:ii u pause b v l k M i f)(x:kS s M):kS (s+2) i:=by
 obtain⟨o,y⟩:=h.each;obtain⟨z,C,n⟩:=x;have hi:i.map (fun m=>m.a.id)=M.map (fun m=>m.a.id):=by have:=Ej (List.map Prod.fst) o;rw[Dv,Dv]at this;exact this
 refine⟨?_,by rw[h.len];omega,fun j r=>?_⟩
 ·have:(i.map (fun m=>m.a.id)).Pairwise (· < ·):=by rw[hi,Dw];exact z
  rw[Dw]at this;exact this
 ·have c:(j.a.id,j.a.st)∈M.map (fun m=>(m.a.id,m.a.st)):=by rw[←o];exact Cx.2 ⟨j,r,rfl⟩
  obtain⟨p,A,e⟩:=Cx.1 c;simp only[Prod.mk.injEq]at e;obtain⟨t,g,D,B⟩:=y j r;refine⟨by rw[←e.1,←e.2];exact(n p A).1,B (n t g).2.1,by have:=(n t g).2.2;omega⟩
theorem Bc{s:Nat}{M:List AM}(a:kS s M):kS s (r5 M):=by
 obtain⟨b,c,e⟩:=a;unfold r5;refine⟨?_,by rw[CR];exact Ct (EH _ _) c,fun m f=>?_⟩
 ·rw[Dw];exact(b.filter _).imp jI
 ·obtain⟨p,g,rfl⟩:=Cx.1 f;have:=e p (Et.1 g).1;exact⟨this.1,by simp,by simp⟩
def kN(q:DQ)(X s:Nat)(o:List (CL×Nat))(w:World)(p:List (CL×Nat))(i:List AM)(f:Bool)(h:World):Prop:=∃e l m t a,DG h (s+2) q.A q.B q.n e l∧(∀b,l b→q.C b∨w.heap.size≤b)∧(∀b,m b→q.F b∨w.heap.size≤b)∧(∀b,t b→q.G b∨w.heap.size≤b)∧FU h m∧(∀b,l b→∃c,h.heap[b]?=some (.cells c 101 (0,0)))∧mX h (s+2) q.Pp t (o++p)∧Fr (fun b=>cu q b∨q.G b) w h∧kS (s+2) i∧bE a∧bA a≤q.n-1∧JD q.n e (a.map ba.bytes)∧km i a∧(JZ q.n e (a.map ba.bytes)∨∃j r,a=j++[r]∧km i j)∧((f=false∧∃g,EG h (s+2) X q.A q.B q.n (q.clock+1) q.pause (ge q.fl q.Pp) g a e l m∧xF g i)∨(f=true∧∃g k u,ED h X q.n u q.pause (ge q.fl q.Pp) g k m∧km i k))
section
variable{w:World}{d s:Nat}{q:DQ}{X:Nat}
theorem cG.goodM(h:cG w d s q):kS s (q.L.map RS.am):=by
 refine⟨?_,by rw[CR];exact h.ln,fun m b=>?_⟩
 ·rw[Dw];exact h.lo.imp jI
 ·obtain⟨r,a,rfl⟩:=Cx.1 b;exact⟨h.ls r a,(h.ml r a).1,(h.ml r a).2⟩
theorem mX.logR{w:World}{s b:Nat}{G:Nat→Prop}{a:List (CL×Nat)}(h:mX w s b G a):r9 w b a:=by obtain⟨c,st,e,_,⟨_,lg,f,l,h,hF⟩,rfl,_⟩:=h;exact r9.of h
theorem cG.notG(h:cG w d s q){b:Nat}{c:Array Value}{t:TypeId}(g:w.heap[b]?=some (.cells c t (0,0)))(i:t=111∨t=223∨t=220∨t=165):¬(cu q b∨q.G b):=by
 rintro(e|e)
 ·exact h.notE g (lq (by rcases i with rfl|rfl|rfl|rfl;exact .inr (.inr (.inr (.inr (.inr (.inr rfl)))));exact .inr (.inl rfl);exact .inr (.inr (.inl rfl));exact .inr (.inr (.inr (.inl rfl))))) e
 ·obtain⟨j,k⟩:=h.p;obtain⟨c2,l,f,a⟩:=k.ty e;have:=g.symm.trans f;simp at this;rw[←this.2]at a;unfold PT at a;rcases i with rfl|rfl|rfl|rfl<;>revert a<;>decide
theorem cG.keepT(h:cG w d s q){f:World}(g:Fr (fun b=>cu q b∨q.G b) w f):LG f d q.Lv q.L∧aH f q.D q.A q.Pp q.n q.nn q.em (.pointer q.x) q.pause q.clock q.fd q.Lv:=⟨h.a.fr g (fun b c t i j=>h.notG i (by rcases j with e|e|e;exact .inr (.inl e);exact .inr (.inr (.inr e));exact .inr (.inr (.inl e)))),h.l.fr g (h.notG h.l (.inl rfl))⟩
theorem xz(h:cG w d s q)(W:q.n≠0)(hi:dY q.n=true)(hX:q.x=some ⟨X,0,none⟩)(K:q.nn=false)(Y:q.em=false)(Z:1≤q.pause)(a0:q.pause≤64)(ae:0≤q.clock)(af:q.clock≤s){M N:List (CL×Nat)}{M':List AM}{f:Bool}{O V:World}(hT:kN q X s M w N M' f O){m:Value}{J:List RS}(hl:aH V q.D q.A q.Pp q.n q.nn q.em (.pointer q.x) q.pause (q.clock+1) f m)(a1:LG V d m J)(hM:J.map RS.am=M')(a2:∀c,m.ownBlock=some c→q.Lv.ownBlock=some c∨O.heap.size≤c)(a3:∀b,(∃r∈J,r.mb b)→(∃r∈q.L,r.mb b)∨O.heap.size≤b)(j:Fr (fun c=>c=q.D∨q.Lv.ownBlock=some c) O V):∃q',q'.fl=q.fl∧dE w d (s+2) q q' V:=by
 obtain⟨a4,C',F',G',a5,y,hC,hF,a6,P,Q,R,z,⟨g1,g2,g3⟩,a7,a8,hj,T,hz,a9⟩:=hT;subst hM;have ag:=lt_of_heap h.l;have ah:d≤w.heap.size:=by have:=h.sl q.D (.inl rfl);omega
 have ai:=z.size;have hk:=h.keepT z;have p:∀b,(b=q.D∨q.Lv.ownBlock=some b)→∃c t,O.heap[b]?=some (.cells c t (0,0))∧(t=111∨t=223):=fun b a=>by
  rcases a with rfl|a
  ·exact⟨_,_,hk.2,.inl rfl⟩
  ·obtain⟨c,k⟩:=cn hk.1.o a;exact⟨c,_,k,.inr rfl⟩
 have hA:¬(q.A=q.D∨q.Lv.ownBlock=some q.A):=fun e=>by obtain⟨c,t,k,i⟩:=p _ e;obtain⟨c2,g⟩:=y.cell.1;have:=k.symm.trans g;simp at this;rw[this.2]at i;revert i;decide
 have hB:¬(q.B=q.D∨q.Lv.ownBlock=some q.B):=fun e=>by obtain⟨c,t,k,i⟩:=p _ e;obtain⟨c2,g⟩:=y.cell.2;have:=k.symm.trans g;simp at this;rw[this.2]at i;revert i;decide
 have E:∀b,C' b→¬(b=q.D∨q.Lv.ownBlock=some b):=fun b a e=>by obtain⟨c,t,k,i⟩:=p _ e;obtain⟨c2,g⟩:=Q b a;have:=k.symm.trans g;simp at this;rw[this.2]at i;revert i;decide
 have H:∀b,F' b→¬(b=q.D∨q.Lv.ownBlock=some b):=fun b a e=>by obtain⟨c,t,k,i⟩:=p _ e;obtain⟨c2,t2,g,u⟩:=P b a;have:=k.symm.trans g;simp at this;rw[this.2]at i;unfold iJ at u;rcases i with rfl|rfl<;>revert u<;>decide
 have aa:∀b,G' b→¬(b=q.D∨q.Lv.ownBlock=some b):=fun b a e=>by obtain⟨c,t,k,i⟩:=p _ e;obtain⟨c2,t2,g,u⟩:=R.ty a;have:=k.symm.trans g;simp at this;rw[this.2]at i;unfold PT at u;rcases i with rfl|rfl<;>revert u<;>decide
 have hq:∀b,DQ.S {q with clock:=q.clock+1,fd:=f,Lv:=m,L:=J,C:=C',F:=F',G:=G'} b→q.S b∨w.heap.size≤b:=DQ.S_of rfl (.inl rfl) (.inl rfl) (fun b a=>(hC b a).imp_left (fun h=> .inr (.inr (.inr (.inl h))))) (fun b a=>(hF b a).imp_left (fun h=> .inr (.inr (.inr (.inr (.inl h)))))) (fun b a=>(a6 b a).imp_left (fun h=> .inr (.inr (.inr (.inr (.inr (.inl h))))))) (fun b a=>by
  rcases a2 b a with v|v
  ·exact q.sL b v
  ·exact .inr (by omega)) (fun b a=>by
  rcases a3 b a with v|v
  ·exact q.sM b v
  ·exact .inr (by omega))
 have gm:∀r∈J,aO r.id r.st=true∧r.may≠[]∧r.may.length≤2*(s+2)+2:=fun r U=>g3 r.am (Dz U);rw[Dw]at g1;rw[CR]at g2;refine⟨{q with clock:=q.clock+1,fd:=f,Lv:=m,L:=J,C:=C',F:=F',G:=G'},rfl,rfl,hq,⟨hl,.inr ⟨W,a4,a5,y.fr j hA hB E,fun _=>⟨⟨a7,a8,.inl ⟨K,Y,hj,fH.2 T,hz.imp_right (fun⟨ab,r,e,hm⟩=>⟨ab,r,e,fH.2 hm⟩)⟩⟩,.inr ⟨X,hX,K,Z,a0,by show 0≤q.clock+1;omega,by show q.clock+1≤((s+2:Nat):Int);push_cast;omega,?_⟩⟩,fun e=>by rw[hi]at e;cases e⟩,⟨M++N,R.fr j aa⟩,a1,g2,fun r U=>(gm r U).2,fun r U=>(gm r U).1,g1.imp jI,P.fr j H,fun b a=>?_,fun b a=>?_,h.n⟩,?_⟩
 ·rcases a9 with⟨e,I,hE,i⟩|⟨e,I,ad,ck,hE,hm⟩
  ·exact .inl ⟨e,I,hE.fr j hA hB E H,kI.2 i⟩
  ·exact .inr ⟨e,I,ad,ck,hE.fr j H,fH.2 hm⟩
 ·obtain⟨c,k⟩:=Q b a;exact⟨c,j.keep k (E b a)⟩
 ·rcases hq b a with v|v
  ·exact h.sl b v
  ·omega
 ·refine(z.mono (fun b _ h=>h.elim cu.own (fun h=> .inr (.inr (.inr (.inr (.inr (.inl h)))))))).trans j (fun b _ e=>?_);rcases e with e|e
  ·exact .inl e
  ·exact .inr (.inr (.inr (.inr (.inr (.inr (.inl e))))))
end
section
variable{w:World}{o s:Nat}{q:DQ}{X:Nat}{Le:List AS}{rs:List ba}{j:DS}{log:List (CL×Nat)}
structure AB(w:World)(o s:Nat)(q:DQ)(X:Nat)(Le:List AS)(rs:List ba)(j:DS)(log:List (CL×Nat)):Prop where
 h:cG w o s q
 sl:s<40000
 g:cN w
 b:1<o
 i:dY q.n=true
 p1:1≤q.pause
 p2:q.pause≤64
 c0:0≤q.clock
 c1:q.clock≤s
 e:EG w s X q.A q.B q.n q.clock q.pause (ge q.fl q.Pp) Le rs j q.C q.F
 t:ci false Le q.L
 m:bw q.L rs
 z:JZ q.n j (rs.map ba.bytes)∨∃rs0 r,rs=rs0++[r]∧bw q.L rs0
 p:mX w s q.Pp q.G log
theorem AB.due(H:AB w o s q X Le rs j log){b:Int}(f:∀a∈Le,a.dueB b=false):∀m∈q.L.map RS.am,m.a.dueB b=false:=fun m g=>by
 obtain⟨r,c,rfl⟩:=Cx.1 g;by_cases i:r.S.1=0
 ·exact Dl (fun h=>by have e:r.am.a.S.1=r.S.1:=rfl;rcases h.1 with h|h<;>omega)
 ·obtain⟨a,d,e⟩:=H.t.there c i;have:=jG H.t H.m H.e.1 d c e;show r.a.dueB b=false;rw[←this];exact f a d
theorem eq(H:AB w o s q X Le rs j log){a:World}{v:Value}{io f:Bool}{new:List (CL×Nat)}{M':List AM}{td':Int}(M:oQ a v (if io=true then 5 else 0))(N:kS (s+2) M'→kN q X s log w new M' f a)(r:∀W,Fr (fun _=>False) a W→Calls prog 37 #[.pointer (some ⟨q.A,0,none⟩)] W fun e O=>e= .returned (.int .i64 td')∧O=W)(u:io=true→j.d.told<td')(P:new.length≤100000)(y:q.fl=true→new=[])(c:Fr (fun b=>cu q b∨q.G b) w a)(E:new=[]→ii (q.clock+1) q.pause q.fl io new 0 (q.L.map RS.am) M' f)(F:new≠[]→ii (q.clock+1) q.pause q.fl io new 0 (Le.map fg) M' f)(z:q.fd=false)(B:∃I k,mX a k q.Pp I (log++new)):nF (fun _ new M' f a=>kN q X s log w new M' f a) q.L q.D q.A q.Pp q.n o q.nn q.em (.pointer q.x) q.pause q.clock q.Lv q.fl j.d.told log (.returned v) a:=by
 have J:=H.h.keepT c;have K:=yD H.t H.m H.e.1 H.h.lo;have C:kS (s+2) M':=by
  by_cases p:new=[]
  ·exact(E p).good H.h.goodM
  ·have:=F p;rw[←K]at this;exact this.good (Bc H.h.goodM)
 have Q:=lt_of_heap H.h.l;have R:=H.h.sl q.D (.inl rfl);obtain⟨I,k,B⟩:=B;have i:=J.2;rw[z]at i;refine⟨v,io,new,M',f,td',rfl,M,H.g.fr c (H.h.ng H.b (fun b S=>S.elim cu.own (fun h=> .inr (.inr (.inr (.inr (.inr (.inl h)))))))),i,J.1,by have:=c.size;omega,N C,r,u,P,B.logR,y,E,fun p=>?_⟩;rw[K];exact F p
theorem sg(H:AB w o s q X Le rs j log)(a1:q.fl=true)(a2:q.fd=false):Calls prog 23 #[.pointer (some ⟨X,0,none⟩)] w fun e F=>nF (fun _ a8 M' f F=>kN q X s log w a8 M' f F) q.L q.D q.A q.Pp q.n o q.nn q.em (.pointer q.x) q.pause q.clock q.Lv q.fl j.d.told log e F:=by
 have aj:8≤q.n∧q.n≤400:=by have:=H.i;simpa[dY]using this
 have hE:=H.e;have Q:ge q.fl q.Pp=xA:=by rw[a1];rfl
 rw[Q]at hE;have hs:=H.sl;have ak:=H.c1;have al:=hE.1.nd;have ah:=hE.1.len.1;refine(EG.tick jY (s0:=()) (F0:=fun _=>False) hE (by omega) (fun i hi=>jM (by omega)) H.g (H.h.ng H.b (fun b u=> .inr (.inr (.inr (.inr (.inl u)))))) ka H.p1 H.p2 (by omega) (fun _ h=>h) (by show 0+Le.length≤20000000;omega)).mono ?_;rintro e F ⟨v,k,C',F',rfl,hC,hF,an,hf,R⟩;have N:Fr (cu q) w F:=hf.mono (fun b _ h=>by rcases h with h|h|h|h|h;exact .inl h;exact .inr (.inl h);exact .inr (.inr (.inl h));exact .inr (.inr (.inr h));exact h.elim);have I:Fr (fun b=>cu q b∨q.G b) w F:=N.mono (fun _ _ h=> .inl h);have J:mX F (s+2) q.Pp q.G log:=(H.h.keepP (N.mono (fun _ _ h=> .inr h)) H.p).mono (by omega);have a3:∀b,(C' b∧∃c,F.heap[b]?=some (.cells c 101 (0,0)))→q.C b∨w.heap.size≤b:=fun b u=>hC b u.1;have a4:=o9 (q.clock+1) q.pause Le ();have a9:=fH.1 H.m;have S:km ((q.L.map RS.am).map (gX (q.clock+1) q.pause)) rs:=pD a9;have a5:∀{dz:DS},(JZ q.n j (rs.map ba.bytes)→JZ q.n dz (rs.map ba.bytes))→(JZ q.n dz (rs.map ba.bytes)∨∃K r,rs=K++[r]∧km ((q.L.map RS.am).map (gX (q.clock+1) q.pause)) K):=fun M=>by
  rcases H.z with hz|⟨K,r,e,aa⟩
  ·exact .inl (M hz)
  ·exact .inr ⟨K,r,e,pD (fH.1 aa)⟩
 have O:∀io:Bool,ii (q.clock+1) q.pause q.fl io [] 0 (q.L.map RS.am) ((q.L.map RS.am).map (gX (q.clock+1) q.pause)) io:=fun io=>by rw[a1];exact kA _
 rcases R with⟨rfl,ab,y,M,_,_⟩|⟨hv,_,ad,ae,i,a,ao,ai,af,B⟩
 ·rw[a4.2,Ed,D4]at y M;have T:=y.tyC;refine eq H (io:=false) (f:=false) (new:=[]) (td':=k.d.told) (bZ.tell (.inl ⟨rfl,rfl⟩)) (fun U=>⟨k,_,F',q.G,rs,T.disk,a3,hF,fun _ h=> .inl h,ab,fun b u=>u.2,by rw[D4];exact J,I,U,y.1.ok,y.1.nd,y.2.2.1,S,a5 M,.inl ⟨rfl,_,by rw[Q];exact T,?_⟩⟩) (fun W hW=>(T.disk.fr hW jI jI fI).told) (fun e=>by cases e) (by simp) (fun _=>rfl) I (fun _=>O false) (fun h=>absurd rfl h) a2 ⟨q.G,s+2,by rw[D4];exact J⟩;have hT:=kI.1 H.t;rw[a4.1];have ag:∀a∈Le,∀m∈q.L.map RS.am,a.id=m.a.id→a=m.a:=fun a V m Y e=>by obtain⟨r,hr,rfl⟩:=Cx.1 Y;exact jG H.t H.m H.e.1 V hr e
  have l:∀a:AS,(if a.dueB (q.clock+1)=true then a.vain (q.clock+1) q.pause else a).id=a.id:=fun a=>by split<;>rfl
  have E:∀m:AM,(gX (q.clock+1) q.pause m).a=(if m.a.dueB (q.clock+1)=true then m.a.vain (q.clock+1) q.pause else m.a):=fun m=>by unfold gX;split<;>rfl
  refine⟨fun a' Z m' a0 e=>?_,fun m' a0 hn=>?_,fun a' Z=>?_⟩
  ·obtain⟨a,V,rfl⟩:=Cx.1 Z;obtain⟨m,Y,rfl⟩:=Cx.1 a0;rw[E,l,l]at e;rw[E,ag a V m Y e]
  ·obtain⟨m,Y,rfl⟩:=Cx.1 a0;have:=hT.2.1 m Y (fun a V e=>hn _ (Dz V) (by rw[l,E,l];exact e));rw[E];split
   ·exact this
   ·exact this
  ·obtain⟨a,V,rfl⟩:=Cx.1 Z;obtain⟨m,Y,e⟩:=hT.2.2 a V;exact⟨_,Dz Y,by rw[E,l,l];exact e⟩
 ·have a6:=ae.tyC;have P:=af.tyF;have a7:=o9 (q.clock+1) q.pause (Le.take i) ();rw[a7.2,Ed,D4]at P B;have hj:JD q.n k (rs.map ba.bytes)∧(JZ q.n j (rs.map ba.bytes)→JZ q.n k (rs.map ba.bytes)):=by
   rcases B with⟨⟨h1,h2,_⟩,_⟩|⟨h1,_⟩
   ·exact⟨h1,h2⟩
   ·exact absurd h1 (nQ a)
  exact eq H (io:=true) (f:=true) (new:=[]) (td':=k.d.told) hv.tell (fun U=>⟨k,_,(fun b=>F' b∧∃c t,F.heap[b]?=some (.cells c t (0,0))∧iJ t),q.G,rs,a6,a3,fun b u=>hF b u.1,fun _ h=> .inl h,fun b u=>u.2,fun b u=>u.2,by rw[D4];exact J,I,U,H.e.1.ok,H.e.1.nd,hj.1,S,a5 hj.2,.inr ⟨rfl,_,rs,_,by rw[Q];exact P,S⟩⟩) (fun W hW=>(a6.fr hW jI jI fI).told) (fun _=>ad) (by simp) (fun _=>rfl) I (fun _=>O true) (fun h=>absurd rfl h) a2 ⟨q.G,s+2,by rw[D4];exact J⟩
end
section
variable{w:World}{j s:Nat}{q:DQ}{X:Nat}{Le:List AS}{rs:List ba}{k:DS}{log:List (CL×Nat)}
theorem wV(a:AS)(b:Nat)(c pause:Int):a.S∈((fg a).cutA b c pause).may∧(a.after b c pause).S∈((fg a).cutA b c pause).may∧((fg a).cutA b c pause).a.id=a.id∧((fg a).cutA b c pause).a.st=a.st:=by
 by_cases h:a.moves b=true
 ·have d:(fg a).cutA b c pause=⟨a,[a.S]++[(a.go b).S]⟩:=CE h;have e:a.after b c pause=a.go b:=CE h;rw[d,e];exact⟨by simp,by simp,rfl,rfl⟩
 ·have d:(fg a).cutA b c pause=⟨a.vain c pause,[a.S]⟩:=Cz h;have e:a.after b c pause=a.vain c pause:=Cz h;rw[d,e];exact⟨by simp,by show a.S∈[a.S];simp,rfl,rfl⟩
theorem uv(H:AB w j s q X Le rs k log)(O:q.fl=false)(aa:q.fd=false):Calls prog 23 #[.pointer (some ⟨X,0,none⟩)] w fun e U=>nF (fun _ an M' f U=>kN q X s log w an M' f U) q.L q.D q.A q.Pp q.n j q.nn q.em (.pointer q.x) q.pause q.clock q.Lv q.fl k.d.told log e U:=by
 have b3:8≤q.n∧q.n≤400:=by have:=H.i;simpa[dY]using this
 have hE:=H.e;have a6:ge q.fl q.Pp=uq q.Pp:=by rw[O];rfl
 rw[a6]at hE;have hs:=H.sl;have b4:=H.c1;have b5:=hE.1.nd;have aD:=hE.1.len.1;obtain⟨rl,ao,b1,ap,aR,aE,b6,b7,b8⟩:=H.p;have u:xN q.Pp b1 rl:=rr (by have:=ap.1;omega) ap.2;obtain⟨P,aF⟩:∃P:rT (uq q.Pp),P=ep u:=⟨_,rfl⟩;obtain⟨o,aS⟩:∃p:P.σ,HEq p ao:=by subst aF;exact⟨ao,HEq.rfl⟩
 subst aF;obtain rfl:o=ao:=eq_of_heq aS;have b2:(ep u).sz o≤200*s:=by show max (max o.log.length o.eff.length) o.at'≤200*s;rw[aE];omega
 refine(EG.tick (ep u) (s0:=o) (F0:=q.G) hE (by omega) (fun i hi=>jM (by omega)) H.g (H.h.ng H.b (fun b E=> .inr (.inr (.inr (.inr (.inl E)))))) (H.h.ng H.b (fun b E=> .inr (.inr (.inr (.inr (.inr (.inl E))))))) H.p1 H.p2 (by omega) aR (by omega)).mono ?_;rintro e U ⟨v,B,C',F',rfl,hC,hF,b9,hf,ar⟩;have K:Fr (fun b=>cu q b∨q.G b) w U:=hf.mono (fun b _ h=>by rcases h with h|h|h|h|h;exact .inl (.inl h);exact .inl (.inr (.inl h));exact .inl (.inr (.inr (.inl h)));exact .inl (.inr (.inr (.inr h)));exact .inr h);have ab:∀b,(C' b∧∃c,U.heap[b]?=some (.cells c 101 (0,0)))→q.C b∨w.heap.size≤b:=fun b E=>hC b E.1;have au:=fH.1 H.m;have Y:∀l:List AS,((aq (ep u) (q.clock+1) q.pause l o).2.1:yX).log=log++da (ep u) (q.clock+1) l o:=fun l=>by rw[←aE];exact m7 (P:=ep u) (ck:=q.clock+1) (pause:=q.pause) yX.log (fun _ _=>rfl) l o
 have av:∀{st':yX} {V:Nat→Prop} {lg:List (CL×Nat)},yE q.Pp b1 rl st' V U→st'.log=lg→(ep u).sz st'≤200*(s+2)→mX U (s+2) q.Pp V lg:=fun{st' V lg} h1 h2 h3=>by
  have h3:max (max st'.log.length st'.eff.length) st'.at'≤200*(s+2):=h3;refine⟨rl,st',b1,ap,h1,h2,?_,?_,?_⟩
  ·rw[←h2];omega
  ·omega
  ·omega
 have ad:∀l:List AS,l.length≤200→(ep u).sz (aq (ep u) (q.clock+1) q.pause l o).2.1≤200*s+200:=fun l hl=>by have:=qD (ep u) (q.clock+1) q.pause l o;omega
 have aG:∀{dz:DS},(JZ q.n k (rs.map ba.bytes)→JZ q.n dz (rs.map ba.bytes))→(JZ q.n dz (rs.map ba.bytes)∨∃Z r,rs=Z++[r]∧km (q.L.map RS.am) Z):=fun a0=>by
  rcases H.z with hz|⟨Z,r,e,aT⟩
  ·exact .inl (a0 hz)
  ·exact .inr ⟨Z,r,e,fH.1 aT⟩
 have aH:∀a:AS,¬(a.open∧a.due≤q.clock+1)→a.dueB (q.clock+1)=false:=fun a h=>Dl h;rcases ar with⟨rfl,aI,a7,a0,aw,V,Q,a1⟩|⟨hv,_,ax,aU,i,a,ay,aJ,aK,az⟩
 ·have a2:=a7.tyC;have y:=av (st':=(aq (ep u) (q.clock+1) q.pause Le o).2.1) Q (Y Le) (by have:=ad Le aD;omega);have F:∀W,Fr (fun _=>False) U W→Calls prog 37 #[.pointer (some ⟨q.A,0,none⟩)] W fun e w2=>e= .returned (.int .i64 B.d.told)∧w2=W:=fun W hW=>(a2.disk.fr hW jI jI fI).told;by_cases a8:∀a∈Le,a.dueB (q.clock+1)=false
  ·obtain⟨aA,aB⟩:=iT (P:=ep u) (pause:=q.pause) Le o a8;rw[aA,Ed,D4]at a2 a0;rw[aB]at y;exact eq H (io:=false) (f:=false) (new:=[]) (M':=q.L.map RS.am) (td':=B.d.told) (bZ.tell (.inl ⟨rfl,rfl⟩)) (fun N=>⟨B,_,F',V,rs,a2.disk,ab,hF,a1,aI,fun b E=>E.2,y,K,N,H.e.1.ok,H.e.1.nd,a2.2.2.1,au,aG a0,.inl ⟨rfl,_,by rw[a6];exact a2,kI.1 H.t⟩⟩) F (fun e=>by cases e) (by simp) (fun _=>rfl) K (fun _=>qu (fun e=>by cases e) _ (H.due a8)) (fun h=>absurd rfl h) aa ⟨V,s+2,y⟩
  ·have a3:JZ q.n B ((rs++(aq (ep u) (q.clock+1) q.pause Le o).2.2.map gV).map ba.bytes):=by
    rcases aw with h|h
    ·exact h
    ·exact absurd (fun a ha=>aH a (h a ha)) a8
   have aV:da (ep u) (q.clock+1) Le o≠[]:=fun e=>by
    rcases jr (ck:=q.clock+1) Le with h|⟨l1,b,l2,e1,e2,_⟩
    ·exact a8 h
    ·rw[e1,jC (pause:=q.pause)]at e;simp only[da,e2,FH]at e;simp at e
   exact eq H (io:=false) (f:=false) (new:=da (ep u) (q.clock+1) Le o) (M':=(aq (ep u) (q.clock+1) q.pause Le o).1.map fg) (td':=B.d.told) (bZ.tell (.inl ⟨rfl,rfl⟩)) (fun N=>⟨B,_,F',V,_,a2.disk,ab,hF,a1,aI,fun b E=>E.2,y,K,N,a7.1.ok,a7.1.nd,a7.2.2.1,AK a7.1,.inl a3,.inl ⟨rfl,_,by rw[a6];exact a2,Bb a7.1⟩⟩) F (fun e=>by cases e) (by have:=iD (P:=ep u) (ck:=q.clock+1) Le o;omega) (fun e=>by rw[O]at e;cases e) K (fun e=>absurd e aV) (fun _=>by rw[O];exact yo Le o) aa ⟨V,s+2,y⟩
 ·have ai:=aU.tyC;have a5:=aK.tyF;have aW:=(Co.1 ay).1;have aL:a.dueB (q.clock+1)=true:=Dg aJ;have ae:Le.drop i=a::Le.drop (i+1):=by rw[Dk aW,(Co.1 ay).2]
  have aX:Le=Le.take i++a::Le.drop (i+1):=by rw[←ae,CX]
  have F:∀W,Fr (fun _=>False) U W→Calls prog 37 #[.pointer (some ⟨q.A,0,none⟩)] W fun e w2=>e= .returned (.int .i64 B.d.told)∧w2=W:=fun W hW=>(ai.fr hW jI jI fI).told;have aM:(Le.take i).length≤200:=by rw[Cy];omega
  have I:=aK.1;rcases az with⟨⟨hj,a0,aw⟩,V,Q,a1⟩|⟨ak,aN,V,Q,a1⟩
  ·have y:=av (st':=(aq (ep u) (q.clock+1) q.pause (Le.take i) o).2.1) Q (Y (Le.take i)) (by have:=ad (Le.take i) aM;omega);rcases jr (ck:=q.clock+1) (Le.take i)with a8|⟨l1,aj,l2,e1,e2,e3⟩
   ·obtain⟨aA,aB⟩:=iT (P:=ep u) (pause:=q.pause) (Le.take i) o a8;rw[aA,Ed,D4]at hj a0 a5;rw[aB]at y;exact eq H (io:=true) (f:=true) (new:=[]) (M':=q.L.map RS.am) (td':=B.d.told) hv.tell (fun N=>⟨B,_,(fun b=>F' b∧∃c t,U.heap[b]?=some (.cells c t (0,0))∧iJ t),V,rs,ai,ab,fun b E=>hF b E.1,a1,fun b E=>E.2,fun b E=>E.2,y,K,N,H.e.1.ok,H.e.1.nd,hj,au,aG a0,.inr ⟨rfl,_,rs,_,by rw[a6];exact a5,au⟩⟩) F (fun _=>ax) (by simp) (fun _=>rfl) K (fun _=>by rw[O];exact ra _) (fun h=>absurd rfl h) aa ⟨V,s+2,y⟩
   ·have a3:JZ q.n B ((rs++(aq (ep u) (q.clock+1) q.pause (Le.take i) o).2.2.map gV).map ba.bytes):=by
     rcases aw with h|h
     ·exact h
     ·have:=aH aj (h aj (by rw[e1];simp));rw[e2]at this;cases this
    obtain⟨J,R⟩:∃J,J=((ep u).ask (aq (ep u) (q.clock+1) q.pause l1 o).2.1 aj.asks).1:=⟨_,rfl⟩;have af:=fun s'=>iT (P:=ep u) (pause:=q.pause) l2 s' e3;have aC:(aq (ep u) (q.clock+1) q.pause (Le.take i) o).1=(aq (ep u) (q.clock+1) q.pause l1 o).1++aj.after J (q.clock+1) q.pause::l2:=by rw[e1,nr];simp only[aq];rw[eO e2,(af _).1,←R]
    have aO:da (ep u) (q.clock+1) (Le.take i) o=da (ep u) (q.clock+1) l1 o++[(aj.asks,J)]:=by rw[e1,jC (pause:=q.pause)];simp only[da,e2,FH];rw[(af _).2,←R]
    have al:Le=l1++aj::(l2++Le.drop i):=by
     conv=>lhs;rw[←CX i Le,e1]
     simp
    have M:=wV aj J (q.clock+1) q.pause;have S:=AS.after_id (q.clock+1) q.pause aj J;have a4:gr q.n (q.clock+1) ((aq (ep u) (q.clock+1) q.pause l1 o).1++aj.after J (q.clock+1) q.pause::(l2++Le.drop i)) (rs++(aq (ep u) (q.clock+1) q.pause (Le.take i) o).2.2.map gV):=by rw[aC]at I;simpa[List.append_assoc]using I
    have a9:=p9 a4 (by rw[M.2.2.1,S.1]) (by rw[M.2.2.2,S.2]) M.2.1;rw[aO]at y;refine eq H (io:=true) (f:=true) (new:=da (ep u) (q.clock+1) l1 o++[(aj.asks,J)]) (M':=(aq (ep u) (q.clock+1) q.pause l1 o).1.map fg++(fg aj).cutA J (q.clock+1) q.pause::(l2++Le.drop i).map fg) (td':=B.d.told) hv.tell (fun N=>⟨B,_,(fun b=>F' b∧∃c t,U.heap[b]?=some (.cells c t (0,0))∧iJ t),V,_,ai,ab,fun b E=>hF b E.1,a1,fun b E=>E.2,fun b E=>E.2,y,K,N,I.ok,I.nd,a3.jd,a9,.inl a3,.inr ⟨rfl,_,_,_,by rw[a6];exact a5,a9⟩⟩) F (fun _=>ax) ?_ (fun e=>by rw[O]at e;cases e) K (fun e=>by simp at e) (fun _=>?_) aa ⟨V,s+2,y⟩
    ·have:=iD (P:=ep u) (ck:=q.clock+1) l1 o;have h2:=Ej List.length al;simp at h2⊢;omega
    ·rw[O];have:=tn (P:=ep u) (ck:=q.clock+1) (pause:=q.pause) l1 (l2++Le.drop i) aj o e2;rw[←R,←al]at this;exact this
  ·obtain⟨J,R⟩:∃J,J=((ep u).ask (aq (ep u) (q.clock+1) q.pause (Le.take i) o).2.1 a.asks).1:=⟨_,rfl⟩;rw[←R]at ak aN;have M:=wV a J (q.clock+1) q.pause;have S:=AS.after_id (q.clock+1) q.pause a J;have y:=av (st':=((ep u).ask (aq (ep u) (q.clock+1) q.pause (Le.take i) o).2.1 a.asks).2) (lg:=log++(da (ep u) (q.clock+1) (Le.take i) o++[(a.asks,J)])) Q (by
    show((aq (ep u) (q.clock+1) q.pause (Le.take i) o).2.1:yX).log++[(a.asks,((ep u).ask (aq (ep u) (q.clock+1) q.pause (Le.take i) o).2.1 a.asks).1)]=_;rw[Y,←R,Ep]) (by
    have h1:=(ep u).szs (aq (ep u) (q.clock+1) q.pause (Le.take i) o).2.1 a.asks;have h2:=ad (Le.take i) aM;omega)
   have a4:gr q.n (q.clock+1) ((aq (ep u) (q.clock+1) q.pause (Le.take i) o).1++a::Le.drop (i+1)) (rs++(aq (ep u) (q.clock+1) q.pause (Le.take i) o).2.2.map gV):=by rw[←ae];exact I
   have a9:=p9 a4 M.2.2.1 M.2.2.2 M.1;have ag:=gr.part (ep u) o q.pause H.e.1 (i+1);have aP:Le.take (i+1)=Le.take i++[a]:=by rw[D1,ay];rfl
   rw[aP,mp,eO aL,←R,CE ak]at ag;have ah:gr q.n (q.clock+1) ((aq (ep u) (q.clock+1) q.pause (Le.take i) o).1++a.after J (q.clock+1) q.pause::Le.drop (i+1)) (rs++(aq (ep u) (q.clock+1) q.pause (Le.take i) o).2.2.map gV++[gV (a.id.toNat,J)]):=by simpa[List.append_assoc]using ag
   have aQ:=p9 ah (by rw[M.2.2.1,S.1]) (by rw[M.2.2.2,S.2]) M.2.1;have aY:(da (ep u) (q.clock+1) (Le.take i) o++[(a.asks,J)]).length≤100000:=by have:=iD (P:=ep u) (ck:=q.clock+1) (Le.take i) o;simp only[Cr,CM];omega
   have aZ:ii (q.clock+1) q.pause q.fl true (da (ep u) (q.clock+1) (Le.take i) o++[(a.asks,J)]) 0 (Le.map fg) ((aq (ep u) (q.clock+1) q.pause (Le.take i) o).1.map fg++(fg a).cutA J (q.clock+1) q.pause::(Le.drop (i+1)).map fg) true:=by rw[O];have:=tn (P:=ep u) (ck:=q.clock+1) (pause:=q.pause) (Le.take i) (Le.drop (i+1)) a o aL;rw[←R,←aX]at this;exact this
   have go:∀{T},bE T→bA T≤q.n-1→JD q.n B (T.map ba.bytes)→km ((aq (ep u) (q.clock+1) q.pause (Le.take i) o).1.map fg++(fg a).cutA J (q.clock+1) q.pause::(Le.drop (i+1)).map fg) T→(JZ q.n B (T.map ba.bytes)∨∃Z r,T=Z++[r]∧km ((aq (ep u) (q.clock+1) q.pause (Le.take i) o).1.map fg++(fg a).cutA J (q.clock+1) q.pause::(Le.drop (i+1)).map fg) Z)→nF (fun _ an M' f U=>kN q X s log w an M' f U) q.L q.D q.A q.Pp q.n j q.nn q.em (.pointer q.x) q.pause q.clock q.Lv q.fl k.d.told log (.returned v) U:=fun{T} k1 k2 k3 k4 k5=>
    eq H (io:=true) (f:=true) (new:=da (ep u) (q.clock+1) (Le.take i) o++[(a.asks,J)]) (td':=B.d.told) hv.tell (fun N=>⟨B,_,(fun b=>F' b∧∃c t,U.heap[b]?=some (.cells c t (0,0))∧iJ t),V,T,ai,ab,fun b E=>hF b E.1,a1,fun b E=>E.2,fun b E=>E.2,y,K,N,k1,k2,k3,k4,k5,.inr ⟨rfl,_,_,_,by rw[a6];exact a5,a9⟩⟩) F (fun _=>ax) aY (fun e=>by rw[O]at e;cases e) K (fun e=>by simp at e) (fun _=>aZ) aa ⟨V,s+2,y⟩
   rcases aN with a3|b0
   ·exact go I.ok I.nd a3.jd a9 (.inl a3)
   ·exact go ah.ok ah.nd b0 aQ (.inr ⟨_,_,rfl,a9⟩)
theorem vz(h:cG w j s q)(hs:s<40000)(hG:cN w)(hb:1<j)(P:q.x≠none):Calls prog 85 #[.pointer (some ⟨q.D,0,none⟩),.bool q.fl] w fun e Q=>e= .returned (.bool true)∧∃q',q'.fl=q.fl∧dE w j (s+2) q q' Q:=by
 rcases h.g with⟨_,e,_⟩|⟨R,k,rs,hd,hj,T⟩
 ·exact absurd e P
 have hi:dY q.n=true:=by
  cases hi:dY q.n with
  |true=>rfl
  |false=>exact absurd (T hi) P
 obtain⟨hJ,y⟩:=hj hi;rcases y with e|⟨X,hX,G,z,B,C,I,y⟩
 ·exact absurd e P
 obtain⟨log,M⟩:=h.p;have E:(Value.pointer q.x)= .pointer (some ⟨X,0,none⟩):=by rw[hX]
 have J:=h.l;rcases y with⟨i,Le,N,U⟩|⟨i,Le,a5,ck,V,hm⟩
 ·have m:q.em=false∧bw q.L rs∧(JZ q.n k (rs.map ba.bytes)∨∃K r,rs=K++[r]∧bw q.L K):=by
   rcases hJ.2.2 with⟨_,a,b,c,d⟩|⟨a,_⟩
   ·exact⟨a,c,d⟩
   ·rw[G]at a;cases a
  have H:AB w j s q X Le rs k log:=⟨h,hs,hG,hb,hi,z,B,C,I,N,U,m.2.1,m.2.2,M⟩;rw[i]at J;refine(xH (Post:=fun _ o O f u=>kN q X s log w o O f u) (b:=j) (fails:=q.fl) (L:=q.L) J N.disk.told M.logR (by have:=h.ln;omega) C (by omega) z B (fun r W=>⟨?_,by have:=(h.ml r W).2;omega⟩) ?_).mono ?_
  ·by_cases h0:r.S.1=0
   ·exact .inl h0
   ·obtain⟨a,ha,e⟩:=U.there W h0;rw[←jG U m.2.1 N.1 ha W e];exact .inr (N.1.mem ha).1
  ·have:Calls prog 23 #[.pointer (some ⟨X,0,none⟩)] w fun e u=>nF (fun _ o O f u=>kN q X s log w o O f u) q.L q.D q.A q.Pp q.n j q.nn q.em (.pointer q.x) q.pause q.clock q.Lv q.fl k.d.told log e u:=by
    cases t:q.fl with
    |true=>have:=sg H t i;rwa[t]at this
    |false=>have:=uv H t i;rwa[t]at this
   rw[E]at this⊢;exact this
  ·rintro e Q ⟨rfl,wS,a6,Ln,io,o,O,f,hT,Y,Z,hM,a0,a1,a2⟩;exact⟨rfl,xz h R hi hX G m.1 z B C I hT Y Z hM a0 a1 a2⟩
 ·rw[i]at J;refine(uK (Post:=fun u=>Fr (fun _=>False) w u) (td:=k.d.told) J hd.told M.logR ?_).mono ?_
  ·rw[E];refine V.tick.mono ?_;rintro e u ⟨v,rfl,hv,F⟩;refine⟨v,rfl,hv.tell,hG.fr F ka,?_,F,(M.fr F fI).logR⟩;rw[←E];exact J.fr F jI
  ·rintro e Q ⟨rfl,wS,a3,a4⟩;have F:=a3.trans a4 fI;exact⟨rfl,q,rfl,rfl,fun _ h=> .inl h,(h.fr F fI (fun _ _ _ h=>h)).mono (by omega),F.mono (fun _ _ h=>h.elim)⟩
end
section
variable{w w':World}{a s:Nat}{q:DQ}
theorem DG.off{k A B n:Nat}{l:DS}{C:Nat→Prop}(h:DG w k A B n l C)(z:k<80000)(j:Int)(t:0≤j)(p:j≤1000):Calls prog 30 #[.pointer (some ⟨A,0,none⟩),.int .i64 j] w fun e w'=>e= .returned (.tuple #[])∧DG w' k A B n ⟨{l.d with off:=l.d.calls+j},l.ents,l.bs⟩ C∧Fr (· =A) w w':=by obtain⟨f,m,i,g,u,v⟩:=h;have x:=f.c1;refine(ti g.d f.c0 (by omega) j t p).mono ?_;rintro e w' ⟨rfl,y,o⟩;exact⟨rfl,⟨⟨f.c0,f.c1,f.w0,f.w1,f.t0,f.t1,f.e⟩,m,i,⟨y,⟨o.keep g.r.1 (fun e=>g.ne.1 e.symm),g.r.2⟩,g.q.fr o (fun b c f _ e=>by rw[e,g.d]at f;simp at f),Ct g.b o.size,g.c⟩,u,v⟩,o⟩
theorem lF(h:cG w a s q)(i:q.n≠0){r f:DS}{v:List ba}(I:dY q.n=true→Jn q.n q.nn q.em q.L r v)(J:dY q.n=false→q.x=none)(m:Fr (· =q.A) w w')(H:DG w' s q.A q.B q.n f q.C)(K:f.ents=r.ents)(M:f.bs=r.bs)(N:f.d.cap=r.d.cap)(O:dY q.n=true→AL w' s q f v):dE w a (s+1) q q w':=by
 have o:Fr (fun b=>b=q.D∨cu q b) w w':=m.mono (fun _ _ h=> .inr (.inl h));obtain⟨y,P⟩:=h.p;have z:¬q.D=q.A:=fun e=>h.notD (.inl e);refine⟨rfl,fun _ h=> .inl h,cG.mono (s:=s) ⟨h.l.fr m z,.inr ⟨i,f,v,H,fun hi=>⟨(I hi).keep K M N,O hi⟩,J⟩,⟨y,h.keepP o P⟩,h.keepL o,h.ln,h.ml,h.ls,h.lo,h.fu.fr m (fun b E e=>?_),fun b E=>?_,h.sl,h.n⟩ (DC s),m.mono (fun b _ e=> .inr (.inl e))⟩
 ·obtain⟨c,t,u,F⟩:=h.fu b E;obtain⟨c2,Q⟩:=H.cell.1;rcases h.g with⟨G,_⟩|⟨_,d0,R,j,_⟩
  ·exact i G
  ·obtain⟨c3,k⟩:=j.cell.1;have e:=e;subst e;have:=u.symm.trans k;simp at this;rw[this.2]at F;unfold iJ at F;revert F;decide
 ·obtain⟨c,u⟩:=h.ct b E;refine⟨c,m.keep u (fun e=>?_)⟩;rcases h.g with⟨G,_⟩|⟨_,d0,R,j,_⟩
  ·exact i G
  ·obtain⟨c3,k⟩:=j.cell.1;have e:=e;subst e;have:=u.symm.trans k;simp at this
theorem cG.nFA(h:cG w a s q)(d:q.n≠0):∀b,q.F b→¬b=q.A:=fun b k e=>by
 rcases h.g with⟨l,_⟩|⟨_,d0,o,f,_⟩
 ·exact d l
 ·obtain⟨c,t,m,i⟩:=h.fu b k;obtain⟨c3,j⟩:=f.cell.1;subst e;have:=m.symm.trans j;simp at this;rw[this.2]at i;unfold iJ at i;revert i;decide
theorem Av(h:cG w a s q)(P:s<50000)(b:q.n≠0)(j:Int)(G:0≤j)(f:j≤1000):Calls prog 30 #[.pointer (some ⟨q.A,0,none⟩),.int .i64 j] w fun e w'=>e= .returned (.tuple #[])∧dE w a (s+1) q q w':=by
 rcases h.g with⟨I,_⟩|⟨_,J,K,M,d,H⟩
 ·exact absurd I b
 by_cases i:dY q.n=true∧∃X c,q.x=some ⟨X,0,none⟩∧q.fd=false∧q.nn=false∧1≤q.pause∧q.pause≤64∧0≤q.clock∧q.clock≤s∧EG w s X q.A q.B q.n q.clock q.pause (ge q.fl q.Pp) c K J q.C q.F∧ci false c q.L
 ·obtain⟨hi,X,c,o,k,p,r,t,u,v,l,z⟩:=i;refine(l.off (by omega) j G f).mono ?_;rintro e w' ⟨rfl,m,y⟩;exact⟨rfl,lF h b (fun hi=>(d hi).1) H y m.disk rfl rfl rfl (fun _=> .inr ⟨X,o,p,r,t,u,v,.inl ⟨k,c,m,z⟩⟩)⟩
 ·refine(M.off (by omega) j G f).mono ?_;rintro e w' ⟨rfl,D,y⟩;refine⟨rfl,lF h b (fun hi=>(d hi).1) H y D rfl rfl rfl (fun hi=>?_)⟩;rcases(d hi).2 with e|⟨X,o,p,r,t,u,v,⟨k,c,l,z⟩|⟨k,c,E,N,l,O⟩⟩
  ·exact .inl e
  ·exact absurd ⟨hi,X,c,o,k,p,r,t,u,v,l,z⟩ i
  ·exact .inr ⟨X,o,p,r,t,u,v,.inr ⟨k,c,E,N,l.fr y (h.nFA b),O⟩⟩
theorem Ab(h:cG w a s q)(S:s<50000)(b:q.n≠0)(j m:Int)(J:0≤j)(f:j≤1000)(i:0≤m)(k:m≤1000):Calls prog 31 #[.pointer (some ⟨q.A,0,none⟩),.int .i64 j,.int .i64 m] w fun e w'=>e= .returned (.tuple #[])∧dE w a (s+1) q q w':=by
 rcases h.g with⟨M,_⟩|⟨_,N,O,P,d,K⟩
 ·exact absurd M b
 by_cases l:dY q.n=true∧∃X c,q.x=some ⟨X,0,none⟩∧q.fd=false∧q.nn=false∧1≤q.pause∧q.pause≤64∧0≤q.clock∧q.clock≤s∧EG w s X q.A q.B q.n q.clock q.pause (ge q.fl q.Pp) c O N q.C q.F∧ci false c q.L
 ·obtain⟨hi,X,c,t,o,u,v,y,z,D,p,G⟩:=l;refine(p.bad (by omega) j m J f i k).mono ?_;rintro e w' ⟨rfl,r,E⟩;exact⟨rfl,lF h b (fun hi=>(d hi).1) K E r.disk rfl rfl rfl (fun _=> .inr ⟨X,t,u,v,y,z,D,.inl ⟨o,c,r,G⟩⟩)⟩
 ·refine(P.bad (by omega) j m J f i k).mono ?_;rintro e w' ⟨rfl,H,E⟩;refine⟨rfl,lF h b (fun hi=>(d hi).1) K E H rfl rfl rfl (fun hi=>?_)⟩;rcases(d hi).2 with e|⟨X,t,u,v,y,z,D,⟨o,c,p,G⟩|⟨o,c,I,Q,p,R⟩⟩
  ·exact .inl e
  ·exact absurd ⟨hi,X,c,t,o,u,v,y,z,D,p,G⟩ l
  ·exact .inr ⟨X,t,u,v,y,z,D,.inr ⟨o,c,I,Q,p.fr E (h.nFA b),R⟩⟩
end
theorem aH.set0{w:World}{D A b n:Nat}{nn em fd:Bool}{x Lv:Value}{pause clock:Int}(h:aH w D A b n nn em x pause clock fd Lv)(c:Nat):aH (w.setCell ⟨D,0,none⟩ (.pointer (some ⟨c,0,none⟩))) D c b n nn em x pause clock fd Lv:=ag w D 0 _ _ _ h
theorem lM{c:List ba}{r:ba}{b:List (List Value)}{x:List Value}(h:(c++[r]).map ba.bytes=b++[x]):b=c.map ba.bytes:=by rw[CV,List.map_singleton]at h;exact(List.append_inj' h rfl).1.symm
theorem Jn.crash{n b:Nat}{nn em:Bool}{L:List RS}{z:DS}{A:List ba}(h:Jn n nn em L z A)(V:8≤n)(P:n≤400)(B:n≤b)(j:List Int){d:DP}(I:d.cap=b):∃J,Jn n nn em L ⟨d,[],jb n b z j⟩ J:=by
 obtain⟨c,f,t⟩:=h;have K:∀{r:List ba},bE r→bA r≤n-1→(r.map ba.bytes).length<n:=fun M W=>by have:=(gH M).lf;rw[CR];omega
 have l:∀{o:List (List Value)} {G:List Value},bQ n b (jb n b z j) o G→JZ n ⟨d,[],jb n b z j⟩ o:=fun m=>⟨_,by show bQ n d.cap _ _ _;rw[I];exact m,fun p i=>absurd i (by simp)⟩;have u:dp n b (jb n b z j)→P1 n ⟨d,[],jb n b z j⟩:=fun C=>by obtain⟨Q,R,S,T⟩:=C;exact⟨⟨by show _=d.cap*128;rw[I];exact R,by show n≤d.cap;rw[I];exact Q,S,fun p i=>absurd i (by simp)⟩,T,fun p i=>absurd i (by simp)⟩
 have sub:∀{g:List ba} {r:ba},A=g++[r]→bE g∧bA g≤n-1:=fun e=>by subst e;have M:=dl.1 c;rw[dr]at f;exact⟨M.1,by omega⟩
 rcases t with⟨k,D,U,H,N⟩|⟨k,i|⟨D,i⟩|⟨i,H⟩⟩
 ·rcases N with N|⟨g,r,e,v⟩
  ·obtain⟨G,m⟩:=N.crash (K c f) B j;have:=l m;exact⟨A,c,f,.inl ⟨k,D,this.jd,H,.inl this⟩⟩
  ·obtain⟨y,G,m,O⟩:=U.crash (K c f) B j;have:=l m;rcases O with rfl|⟨_,x,E⟩
   ·exact⟨A,c,f,.inl ⟨k,D,this.jd,H,.inl this⟩⟩
   ·have F:=sub e;rw[e]at E;obtain rfl:=lM E;exact⟨g,F.1,F.2,.inl ⟨k,D,this.jd,v,.inl this⟩⟩
 ·exact⟨[],cK,CH _,.inr ⟨k,.inl (u (i.crash (by omega) B j))⟩⟩
 ·rcases i.crash (by omega) P B j with m|C
  ·have:=l m;exact⟨[],cK,CH _,.inr ⟨k,.inr (.inr ⟨this.jd.p0 (.inl this),.inr ⟨D,rfl⟩⟩)⟩⟩
  ·exact⟨[],cK,CH _,.inr ⟨k,.inl (u C)⟩⟩
 ·rcases i.crash (K c f) B j with⟨y,G,m,O⟩|C
  ·have:=l m;rcases O with rfl|⟨⟨g,r,e,v⟩,x,E⟩
   ·exact⟨A,c,f,.inr ⟨k,.inr (.inr ⟨this.jd.p0 (.inl this),H⟩)⟩⟩
   ·have F:=sub e;rw[e]at E;obtain rfl:=lM E;exact⟨g,F.1,F.2,.inr ⟨k,.inr (.inr ⟨this.jd.p0 (.inl this),.inl v⟩)⟩⟩
  ·exact⟨[],cK,CH _,.inr ⟨k,.inl (u C)⟩⟩
section
variable{w w1:World}{a s:Nat}{q:DQ}
theorem vX(h:cG w a s q)(i:1<a)(G:q.n≠0){z:DS}{V:List ba}(X:dY q.n=true→Jn q.n q.nn q.em q.L z V){E:List Int}{j:Nat}(Y:Aj w q.n z E (.returned (.pointer (some ⟨j,0,none⟩))) w1):∃H,H.fl=q.fl∧H.x=none∧dE w a (s+1) q H ((w1.setCell ⟨q.D,0,none⟩ (.pointer (some ⟨j,0,none⟩))).setCell ⟨q.D,5,none⟩ (.pointer none)):=by
 obtain⟨A2,I,f,e,O,m,o,P⟩:=Y;simp only[Ending.returned.injEq,Value.pointer.injEq,Cu,Ec,ER]at e;subst e;have Z:=lt_of_heap h.l;have a0:a≤w.heap.size:=by have:=h.sl q.D (.inl rfl);omega
 have J:=h.l.fr P jI;have t:=(J.set0 j).set5 (.pointer none);obtain⟨W,Q⟩:∃W,W=(w1.setCell ⟨q.D,0,none⟩ (.pointer (some ⟨j,0,none⟩))).setCell ⟨q.D,5,none⟩ (.pointer none):=⟨_,rfl⟩;rw[←Q]at t⊢;have u:Fr (· =q.D) w1 W:=by rw[Q];exact eh.set (eh.set (Fr.refl _ _))
 have k:Fr (fun b=>b=q.D∨cu q b) w W:=(P.mono (fun _ _ h=>h.elim)).trans (u.mono (fun _ _ h=> .inl h)) fI;have K:DG w1 (s+1) j I q.n ⟨⟨0,0,0,-1,0,0,f⟩,[],jb q.n f z E⟩ (fun _=>False):=⟨⟨DL _,by show(0:Int)≤_;omega,DL _,by show(0:Int)≤_;omega,DL _,by show(0:Int)≤_;omega,CH _⟩,w.heap.size,_,O,(fun b i=>by cases i),by omega,m,o⟩;have M:q.n≤f:=O.c;obtain⟨N,hp⟩:=h.p;have R:∀b,DQ.S {q with A:=j,B:=I,x:=none,C:=fun _=>False,F:=fun _=>False} b→q.S b∨w.heap.size≤b:=DQ.S_of rfl (.inr m) (.inr o) (fun _ h=>h.elim) (fun _ h=>h.elim) q.sG q.sL q.sM;have v:∃g,dY q.n=true→Jn q.n q.nn q.em q.L ⟨⟨0,0,0,-1,0,0,f⟩,[],jb q.n f z E⟩ g:=by
  by_cases hi:dY q.n=true
  ·have y:8≤q.n∧q.n≤400:=by simpa[dY]using hi
   obtain⟨g,v⟩:=(X hi).crash y.1 y.2 M E (d:=⟨0,0,0,-1,0,0,f⟩) rfl;exact⟨g,fun _=>v⟩
  ·exact⟨[],fun e=>absurd e hi⟩
 obtain⟨g,v⟩:=v;refine⟨{q with A:=j,B:=I,x:=none,C:=fun _=>False,F:=fun _=>False},rfl,rfl,rfl,R,⟨t,.inr ⟨G,_,g,K.fr u (fun e=>?_) (fun e=>?_) (fun _ h=>h.elim),fun hi=>⟨v hi,.inl rfl⟩,fun _=>rfl⟩,⟨N,(h.keepP k hp).mono (DC s)⟩,h.keepL k,E7 h.ln,fun r T=>⟨(h.ml r T).1,by have:=(h.ml r T).2;omega⟩,h.ls,h.lo,fun b i=>i.elim,fun b i=>i.elim,fun b i=>?_,h.n⟩,k.mono (fun b _ h=>h.elim (fun e=> .inl e) cu.own)⟩
 ·have e:=e;omega
 ·have e:=e;omega
 ·rcases R b i with U|U
  ·exact h.sl b U
  ·omega
end
def Bp(p q:DQ):Prop:=∀b,p.S b→¬q.S b
structure C6(kv rv:Value)(kxs rxs fxs:List Value)(a:List DQ)(l:List Bool):Prop where
 pw:a.Pairwise Bp
 fx:fxs=l.map Value.bool
 rx:∃rl:List Int,rxs=rl.map (fun x=>Value.int .i64 x)∧rj rl
 kr:∀q∈a,∀b,q.S b→kv.ownBlock≠some b∧rv.ownBlock≠some b
 kx:∃zs:List Int,kxs=zs.map (fun x=>Value.int .i64 x)
 fl:∀(i:Nat) (q:DQ),a[i]?=some q→q.x≠none→l[i]?=some q.fl
def dm(w:World)(g W0 s:Nat)(a:List DQ)(l:List Bool):Prop:=∃e f h i j k r st b c ch d,WI w g W0 e f h i j k r st a.length b c (an ch) (a.map DQ.D) d∧ch.length=st∧k≤s∧r≤s∧st≤s∧a.length≤s∧(∀q∈a,cG w g s q)∧C6 e f b c d a l
def cV(w:World)(g W0 s:Nat)(e:Ending)(w':World):Prop:=∃b c,e= .returned (.bool true)∧dm w' g W0 (s+2) b c∧Below g w w'
section
variable{w w':World}{g W0 s s':Nat}{q:DQ}{a:List DQ}{l:List Bool}
theorem cG.frz(h:cG w g s q)(b:Fr (fun _=>False) w w'):cG w' g s q:=h.fr b fI (fun _ _ _ h=>h)
theorem cG.notW(h:cG w g s q){b:Nat}{c:Array Value}{t:TypeId}(f:w.heap[b]?=some (.cells c t (0,0)))(i:t=80∨t=165∨t=105∨t=4∨t=74):¬q.S b:=fun j=>by obtain⟨k,m,e,d⟩:=h.ty j;have:=f.symm.trans e;simp at this;rw[←this.2]at d;unfold Aa iJ PT at d;rcases i with rfl|rfl|rfl|rfl|rfl<;>revert d<;>simp
theorem cG.setW{cs:Array Value}(h:cG w g s q)(d:w.heap[W0]?=some (.cells cs 80 (0,0)))(i:Nat)(v:Value):cG (w.setCell ⟨W0,i,none⟩ v) g s q:=h.fr (Fr.set1 w W0 i v) (fun b j e=>h.notW d (.inl rfl) (e▸j)) (fun b c f e=>by
 have e:=e;subst e;rw[d]at f;simp at f)
theorem dm.frz(h:dm w g W0 s a l)(e:Fr (fun _=>False) w w')(f:s≤s'):dm w' g W0 s' a l:=by obtain⟨i,j,m,n,o,k,r,st,b,c,ch,d,p,t,y,z,A,B,u,v⟩:=h;exact⟨i,j,m,n,o,k,r,st,b,c,ch,d,p.frz e,t,by omega,by omega,by omega,by omega,fun q x=>((u q x).frz e).mono f,v⟩
theorem dm.size(h:dm w g W0 s a l):g≤w.heap.size:=by obtain⟨f,i,j,m,n,k,r,st,c,d,ch,e,b,_⟩:=h;have:=lt_of_heap b.hw;have:=b.w0;omega
theorem dm.upd(h:dm w g W0 s a l)(i:Nat){L:DQ}(hi:a[i]?=some q)(hs:s≤s')(E:dE w g s' q L w')(O:L.x≠none→l[i]?=some L.fl):dm w' g W0 s' (a.set i L) l∧Below g w w':=by
 have P:=h.size;obtain⟨kv,rv,sv,dv,fv,k,r,st,Q,R,ch,T,U,V,hk,hr,a0,hm,F,n⟩:=h;obtain⟨G,H⟩:=Co.1 hi;have I:=F q (Cq hi);have W:=U.fr E.f (fun b c t m ht=>I.notW m (by rcases ht with h|h|h|h;exact .inl h;exact .inr (.inl h);exact .inr (.inr (.inl h));exact .inr (.inr (.inr (.inl h))))) (fun b X hS=>by
  have:=n.kr q (Cq hi) b hS;rcases X with h|h
  ·exact this.1 h
  ·exact this.2 h)
 have y:∀p∈a,∀b,p.S b→b<w.heap.size:=fun p z b m=>(F p z).lt m;have M:∀j (u:j<a.length),j≠i→∀b,a[j].S b→¬q.S b:=by
  intro j u J b m A;have v:=n.pw;rw[D7]at v;rcases FJ J with y|y
  ·have:=v j i u G y;rw[H]at this;exact this b m A
  ·have:=v i j G u y;rw[H]at this;exact this b A m
 have C:∀j (u:j<a.length),j≠i→∀b,a[j].S b→¬L.S b:=fun j u J b m A=>by
  rcases E.o b A with B|B
  ·exact M j u J b m B
  ·have:=y _ (Ef u) b m;omega
 refine⟨⟨kv,rv,sv,dv,fv,k,r,st,Q,R,ch,T,?_,V,by omega,by omega,by omega,by simp;omega,?_,?_,n.fx,n.rx,fun p z b m=>?_,n.kx,fun j p u hx=>?_⟩,E.f.below P (fun b m=>I.sl b m)⟩
 ·have em:(a.set i L).map DQ.D=a.map DQ.D:=by
   rw[List.map_set,E.d,←H];apply DX;intro j;rw[E8];split
   ·rename_i e;subst e;simp[G]
   ·rfl
  rw[em,DV];exact W
 ·intro p z;obtain⟨j,u,rfl⟩:=DZ.1 z;rw[DV]at u;rw[Ew];split
  ·exact E.i
  ·rename_i Y;exact((F a[j] (Ef u)).fr E.f (fun b m=>M j u (fun e=>Y e.symm) b m) (fun b c hc=>I.step hc)).mono hs
 ·have v:=n.pw;rw[D7]at v⊢;intro j1 j2 B Z N;rw[DV]at B Z;rw[Ew,Ew];have z:=v j1 j2 B Z N;split
  ·rename_i e1;split
   ·omega
   ·rename_i e2;exact fun b m K=>C j2 Z (fun e=>e2 e.symm) b K m
  ·rename_i e1;split
   ·exact fun b m K=>C j1 B (fun e=>e1 e.symm) b m K
   ·exact z
 ·rcases EI z with z|rfl
  ·exact n.kr p z b m
  ·rcases E.o b m with B|B
   ·exact n.kr q (Cq hi) b B
   ·exact⟨fun e=>by have:=(U.hk.lt b e).2;omega,fun e=>by have:=(U.hr.lt b e).2;omega⟩
 ·rw[E8]at u;split at u
  ·rename_i e;subst e;simp only[Cu]at u;subst u;exact O hx
  ·exact n.fl j p u hx
end
end Go.Proofs.YteebjgfalllbjaaGreatDoor
