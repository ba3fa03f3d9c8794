import Derived.Test.YteebjgfalllbjaaGreatDoorK30
namespace Go.Proofs.YteebjgfalllbjaaGreatDoor
open Go.RowKit Go.Proofs.Tryz
set_option maxRecDepth 100000
set_option maxHeartbeats 4000000
section
variable{w:World}{A B n:Nat}{f:Value}{d:DP}
theorem ti(h:aP w A B n f d)(i:0≤d.calls)(j:d.calls<1000000000)(k:Int)(l:0≤k)(b:k≤1000):Calls prog 30 #[.pointer (some ⟨A,0,none⟩),.int .i64 k] w fun e a=>e= .returned (.tuple #[])∧aP a A B n f {d with off:=d.calls+k}∧Fr (· =A) w a:=by have c2:w.cell? ⟨A,2,none⟩=some (.int .i64 d.calls):=h.c rfl;have c5:w.cell? ⟨A,5,none⟩=some (.int .i64 d.off):=h.c rfl;have m:=h.fz 5;have g:Hid (aP (w.setCell ⟨A,5,none⟩ (.int .i64 (d.calls+k))) A B n f {d with off:=d.calls+k}∧Fr (· =A) w (w.setCell ⟨A,5,none⟩ (.int .i64 (d.calls+k)))):=⟨h.set5 _,Fr.set1 _ _ _ _⟩;clear h;go_enter func30,ntmps30;go_wp2;go_end0;exact⟨rfl,g.out⟩
end
theorem jB{P:Program}{w:World}{q:Array Oper}{rest:List Oper}{o:Oper}{a:Act}{Q:Exit→Act→World→Prop}(r:o.guard=none)(s x:Operand)(t:TypeId)(E:o.op= .call {callee:= .builtin .append,args:=#[s,x],argTypes:=#[t,t]})(e:TypeId)(i:TypeInfo)(z:Value)(size bytes:Nat)(F:P.underlying t=some (.slice e))(hi:P.info? e=some i)(G:i.zero=some z)(k:i.size=size)(v:i.bytes=bytes)(H:a.eval s= .slice none 0 0)(y:Addr)(m c:Nat)(b:List Value)(I:a.eval x= .slice (some y) m c)(J:b.length=m*size)(l:∀j u,b[j]?=some u→w.cell? (y.add j)=some u)(L:0<m)(M:m<1000000)(C:m*bytes≤281474976710656)(h:∀g p D,m≤p→Hid (g=w.heap.size)→Hid (D=w.drew.alloc (.cells (b.toArray++Builtin.zeroCells z.cells (p-m)) e))→wpList P q Q rest (a.put o.dst (.slice (some ⟨g,0,none⟩) m p)) D):wpList P q Q (o::rest) a w:=by subst k v;have N:=run_append_nil (P:=P) w t o.type e i z F hi G y m c b J l L (by omega) C;refine FX r fun K O=>?_;unfold Oper.wp execOp;simp only[E,resolve,invoke,builtin,D9,Du,CS,EC,CY,Ed,H,I,N];exact O _ _ (h _ _ _ (grownCap_ge _ _ _ _) rfl rfl)
def ff(z:Int)(t:Nat):Bool:=bits BinOp.and IntKind.i64 (z/2^t) 1==1
def cf(b:List Value)(a:Nat)(c:List Value)(z:Int):Nat→List Value
 |0=>b
 |t+1=>if ff z t=true then splice (cf b a c z t) (a*128+t*32) ((c.drop (t*32)).take 32)else cf b a c z t
theorem vF(b:List Value)(a:Nat)(c:List Value)(z:Int):cf b a c z 0=b:=rfl
def cutL(b:List Value)(l:List ((Nat×List Value)×Int)):List Value:=l.foldl (fun b p=>cf b p.1.1 p.1.2 p.2 4) b
theorem zG(m:Nat):(Builtin.zeroCells (Value.agg bJ).cells m).toList=List.replicate (m*128) (.int .u8 0):=by
 have e:(Value.agg bJ).cells=bJ:=rfl;rw[e];apply DX;intro i;by_cases h:i<m*128
 ·rw[E9,CE h,Fl];simp[Builtin.zeroCells,bV,h];have:i%128<128:=Nat.mod_lt _ (by decide);simp[bJ,this]
 ·rw[E9,Cz h,Da (by rw[DM,size_zeroCells,bV];omega)]
def v8(w:World)(g e n a b k:Nat)(f:Value)(c:List (Nat×List Value))(h:List Value)(wr:World):Prop:=aP wr g e n (.slice none 0 0) ⟨0,0,0,-1,0,0,a⟩∧cD wr e a h∧fy wr b k n f c∧Fr (fun _=>False) w wr∧w.heap.size≤g∧w.heap.size≤e
theorem v8.frz{w:World}{i j n a b k:Nat}{f:Value}{c:List (Nat×List Value)}{l:List Value}{wr e:World}(h:v8 w i j n a b k f c l wr)(g:Fr (fun _=>False) wr e):v8 w i j n a b k f c l e:=⟨h.1.fr g jI,⟨g.keep h.2.1.1 jI,h.2.1.2⟩,h.2.2.1.fr g (fun _ _ _ _ h=>h),h.2.2.2.1.trans g fI,h.2.2.2.2⟩
theorem uX{b:List Value}{a:List (Nat×List Value)}{c:List Int}{j:Nat}{p:Nat×List Value}{z:Int}(e:a[j]?=some p)(g:c[j]?=some z):cutL b ((a.zip c).take (j+1))=cf (cutL b ((a.zip c).take j)) p.1 p.2 z 4:=by
 have h:(a.zip c)[j]?=some (p,z):=by simp[List.getElem?_zip_eq_some,e,g]
 rw[D1,h];simp[cutL]
theorem jS{a:List Value}(h:a.length=128){t:Nat}(b:t<4):((a.drop (t*32)).take 32).length=32:=by rw[Cy,Dx];omega
theorem v8.sect{w:World}{x m n g j k a t G:Nat}{f:Value}{l:List (Nat×List Value)}{p i:List Value}{z:Int}{wr s:World}(h:v8 w x m n g j k f l (cf p a i z t) wr)(y:wr.heap[G]?=some (.cells (Value.int .i64 a::i).toArray 101 (0,0)))(P:n≤g)(Q:a<n)(J:i.length=128)(C:∀v∈i,v.oneCell'=true)(K:t<4)(q:ff z t=true)(H:s=wr.setRow m (splice (cf p a i z t) (a*128+t*32) ((i.drop (t*32)).take 32)).toArray):v8 w x m n g j k f l (cf p a i z (t+1)) s∧s.heap[G]?=some (.cells (Value.int .i64 a::i).toArray 101 (0,0)):=by
 obtain⟨I,o,L,M,N,O⟩:=h;have e:cf p a i z (t+1)=splice (cf p a i z t) (a*128+t*32) ((i.drop (t*32)).take 32):=by rw[cf,CE q]
 have D:=jS J K;have E:x≠m:=fun e=>by have:=I;rw[e]at this;have:=this.symm.trans o.1;simp at this
 have F:G≠m:=fun e=>by rw[e]at y;have:=y.symm.trans o.1;simp at this
 have u:Fr (fun b=>b=m) wr s:=by rw[H];exact Fr.setRow (S:=fun b=>b=m) (Fr.refl _ _) _ (fun _=>rfl) _
 refine⟨⟨I.fr u E,?_,L.fr u (fun b c q _ e=>by rw[e,o.1]at q;simp at q),M.trans u (fun b q e=>by omega),N,O⟩,u.keep y F⟩;rw[e];refine⟨by rw[H];exact CA _ _ _ _ _ _ o.1,?_,fun v r=>?_⟩
 ·rw[dK (by rw[D,o.2.1];have:a+1≤g:=(by omega);omega),o.2.1]
 ·rcases eC r with r|r
  ·exact o.2.2 v r
  ·exact C v (D8 (CU r))
def Aj(w:World)(n:Nat)(s:DS)(h:List Int)(e:Ending)(c:World):Prop:=∃b g a,e= .returned (.pointer (some ⟨b,0,none⟩))∧bi c b g n w.heap.size (.slice none 0 0) ⟨⟨0,0,0,-1,0,0,a⟩,[],cutL (s.bs.take (n*128)++List.replicate ((a-n)*128) (Value.int .u8 0)) (s.ents.zip h)⟩∧w.heap.size≤b∧w.heap.size≤g∧Fr (fun _=>False) w c
theorem v8.post{w:World}{e g n a b k:Nat}{f:Value}{s:DS}{i:List Int}{j:List Value}{wr:World}(h:v8 w e g n a b k f s.ents j wr)(l:n≤a)(m:j=cutL (s.bs.take (n*128)++List.replicate ((a-n)*128) (Value.int .u8 0)) (s.ents.zip i)):Aj w n s i (.returned (.pointer (some ⟨e,0,none⟩))) wr:=by subst m;exact⟨e,g,a,rfl,⟨h.1,h.2.1,⟨CT _ _ _ _,by show(0:Nat)<_;omega,(fun p c=>absurd c (by simp)),(fun p c=>absurd c (by simp)),(fun p c=>absurd c (by simp))⟩,h.2.2.2.1.size,l⟩,h.2.2.2.2.1,h.2.2.2.2.2,h.2.2.2.1⟩
theorem zN(B o t:Nat)(h:t<4)(w:World):(Instr.sliceAt 97 (.pointer (some ⟨B,o,none⟩)) (some (.int .i64 ((t:Int)*32))) (some (.int .i64 (((t:Int)+1)*32))) none).run prog w= .ok (.slice (some ⟨B,o+t*32,none⟩) 32 (128-t*32)) w:=by
 have a:prog.arrayLen 97=128:=by kernel_rfl
 have b:(sizeOf (prog.elem 97)).run prog w= .ok 1 w:=by kernel_rfl
 rw[run_sliceAt_array_lh w 97 ⟨B,o,none⟩ (by kernel_rfl) .i64 .i64 _ _ (by omega) (by omega) (by rw[a];omega),b,a];have c:(((t:Int)+1)*32).toNat=t*32+32:=by omega
 have e:((t:Int)*32).toNat=t*32:=by omega
 have g:¬128=t*32:=by omega
 simp only[CS,slicedAt,c,e,Cz g,DJ,FS,DF]
structure yV(g:List Value):Prop where
 len:g.length=128
 k:∃b:Nat→Nat,(∀i,i<4→g[i*32]?=some (.int .u8 (b i)))∧∃i,i<4∧b i=0
theorem yV.not{g:List Value}(h:yV g):∃b:Nat→Nat,(∀i,i<4→g[i*32]?=some (.int .u8 (b i)))∧gJ b=false:=by obtain⟨b,a,i,hi,d⟩:=h.k;refine⟨b,a,?_⟩;unfold gJ;rw[decide_eq_false_iff_not];rintro⟨c,e⟩;have:=c ⟨i,hi⟩;simp only at this;omega
theorem my{i:Nat}(h:i<128):zB[i]?=some (.int .u8 0):=by unfold zB;rw[E9,CE h]
theorem eQ.one{l:List Value}(h:eQ l):∀v∈l,v.oneCell'=true:=fun v a=>by obtain⟨k,_,rfl⟩:=h v a;rfl
theorem jK:eQ zB:=eQ.rep _
def yd(r:List Value):Prop:=jN r∧eQ r
theorem lG:yV zB:=⟨ce,fun _=>0,fun i hi=>my (by omega),0,by decide,rfl⟩
structure bQ(n m:Nat)(f:List Value)(recs:List (List Value))(g:List Value):Prop where
 nm:n≤m
 len:f.length=m*128
 one:eQ f
 head:aI f 0=bc n
 get:∀(i:Nat) (r:List Value),recs[i]?=some r→aI f (i+1)=r
 tail:recs.length+1<n→aI f (recs.length+1)=g∧yV g
 zero:∀i,recs.length+1<i→i<n→aI f i=zB
section
variable{n m:Nat}{f:List Value}{recs:List (List Value)}{g:List Value}
theorem bQ.lay(h:bQ n m f recs g):yx n f recs g:=⟨⟨m,h.nm,h.len⟩,h.one.one,h.head,h.get,fun a=>(h.tail a).1,fun a=>(h.tail a).2.not,h.zero⟩
theorem bQ.oneS(h:bQ n m f recs g){c:List Value}{o:Nat}(b:eQ c):eQ (splice f o c):=fun v a=>by
 rcases eC a with a|a
 ·exact h.one v a
 ·exact b v a
theorem bQ.wipe(h:bQ n m f recs g)(e:recs.length+1<n):bQ n m (splice f ((recs.length+1)*128) zB) recs zB:=by
 have j:=h.nm;have a:∀i,i<m→aI (splice f ((recs.length+1)*128) zB) i=if recs.length+1=i then zB else aI f i:=fun i hi=>fB h.len ce (by omega) hi
 refine⟨h.nm,by rw[dK (by rw[ce,h.len];omega),h.len],h.oneS jK,?_,?_,?_,?_⟩
 ·rw[a 0 (by omega),Cz (by omega)];exact h.head
 ·intro i r b;have:=(Co.1 b).1;rw[a (i+1) (by omega),Cz (by omega)];exact h.get i r b
 ·intro _;rw[a _ (by omega),CE rfl];exact⟨rfl,lG⟩
 ·intro i c d;rw[a i (by omega),Cz (by omega)];exact h.zero i c d
theorem bQ.add{r:List Value}(h:bQ n m f recs g)(l:recs.length+1<n)(d:r.length=128)(e:eQ r):bQ n m (splice f ((recs.length+1)*128) r) (recs++[r]) zB:=by
 have o:=h.nm;have b:∀i,i<m→aI (splice f ((recs.length+1)*128) r) i=if recs.length+1=i then r else aI f i:=fun i hi=>fB h.len d (by omega) hi
 refine⟨h.nm,by rw[dK (by rw[d,h.len];omega),h.len],h.oneS e,?_,?_,?_,?_⟩
 ·rw[b 0 (by omega),Cz (by omega)];exact h.head
 ·intro i x a;have c:=(Co.1 a).1;rw[Cr,CM]at c;rw[b (i+1) (by omega)];by_cases hi:recs.length=i
  ·rw[CE (by omega)];rw[←hi,CG (Cs _),Em]at a;simpa using a
  ·rw[Cz (by omega)];rw[CI (by omega)]at a;exact h.get i x a
 ·rw[Cr,CM];intro j;rw[b _ (by omega),Cz (by omega)];exact⟨h.zero _ (by omega) j,lG⟩
 ·rw[Cr,CM];intro i p k;rw[b i (by omega),Cz (by omega)];exact h.zero i (by omega) k
end
def ZW(n e:Nat)(a:List (Nat×List Value)):Prop:=∀p∈a,p=(e,zB)∧e<n
theorem ZW.snoc{n e:Nat}{a:List (Nat×List Value)}(h:ZW n e a)(c:e<n):ZW n e (a++[(e,zB)]):=fun p b=>by
 rcases Cv.1 b with b|b
 ·exact h p b
 ·exact⟨Db.1 b,c⟩
theorem bQ.wipes{n m:Nat}{recs:List (List Value)}:∀{ents:List (Nat×List Value)} {f g:List Value},bQ n m f recs g→ZW n (recs.length+1) ents→(ents=[]∧bv f ents=f)∨bQ n m (bv f ents) recs zB
 |[],_,_,_,_=> .inl ⟨rfl,rfl⟩
 |p::l,f,g,h,b=>by
  obtain⟨rfl,d⟩:=b p (by simp);have c:=h.wipe d;have e:bv f ((recs.length+1,zB)::l)=bv (splice f ((recs.length+1)*128) zB) l:=rfl;rw[e];rcases bQ.wipes (ents:=l) c (fun q i=>b q (by simp[i]))with⟨_,a⟩|a
  ·rw[a];exact .inr c
  ·exact .inr a
theorem bQ.wipes'{n m:Nat}{recs:List (List Value)}{a:List (Nat×List Value)}{f g:List Value}(h:bQ n m f recs g)(d:ZW n (recs.length+1) a):∃b,bQ n m (bv f a) recs b:=by
 rcases h.wipes d with⟨_,c⟩|c
 ·rw[c];exact⟨g,h⟩
 ·exact⟨zB,c⟩
def JD(n:Nat)(s:DS)(recs:List (List Value)):Prop:=(∃g,bQ n s.d.cap s.bs recs g∧ZW n (recs.length+1) s.ents)∨(∃a r b,recs=a++[r]∧bQ n s.d.cap s.bs a zB∧s.ents=(a.length+1,r)::b∧ZW n (recs.length+1) b∧yd r∧a.length+1<n)
def JZ(n:Nat)(s:DS)(recs:List (List Value)):Prop:=∃g,bQ n s.d.cap s.bs recs g∧ZW n (recs.length+1) s.ents
def eZ(n:Nat)(s:DS)(recs:List (List Value)):Prop:=bQ n s.d.cap s.bs recs zB∧s.ents=[]
section
variable{n:Nat}{s:DS}{recs:List (List Value)}
theorem JZ.jd(h:JZ n s recs):JD n s recs:= .inl h
theorem eZ.jz(h:eZ n s recs):JZ n s recs:=⟨zB,h.1,by rw[h.2];exact fun p a=>absurd a (by simp)⟩
theorem JZ.keep{a:DS}(h:JZ n s recs)(b:a.ents=s.ents)(c:a.bs=s.bs)(e:a.d.cap=s.d.cap):JZ n a recs:=by unfold JZ;rw[b,c,e];exact h
theorem JZ.wipe{s':DS}(h:JZ n s recs)(a:recs.length+1<n)(b:s'.ents=s.ents++[(recs.length+1,zB)])(c:s'.bs=s.bs)(e:s'.d.cap=s.d.cap):JZ n s' recs:=by obtain⟨g,i,j⟩:=h;exact⟨g,by rw[c,e];exact i,by rw[b];exact j.snoc a⟩
theorem eZ.jd(h:eZ n s recs):JD n s recs:= .inl ⟨zB,h.1,by rw[h.2];exact fun p a=>absurd a (by simp)⟩
theorem JD.view(h:JD n s recs):∃g,bQ n s.d.cap (bv s.bs s.ents) recs g:=by
 rcases h with⟨g,a,b⟩|⟨e,r,k,rfl,a,b,i,c,j⟩
 ·exact a.wipes' b
 ·rw[b];exact(a.add j c.1.1 c.2).wipes' i
theorem JD.keep{a:DS}(h:JD n s recs)(b:a.ents=s.ents)(c:a.bs=s.bs)(e:a.d.cap=s.d.cap):JD n a recs:=by unfold JD;rw[b,c,e];exact h
theorem JD.wipe{s':DS}(h:JD n s recs)(c:recs.length+1<n)(e:s'.ents=s.ents++[(recs.length+1,zB)])(i:s'.bs=s.bs)(j:s'.d.cap=s.d.cap):JD n s' recs∧bQ n s'.d.cap (bv s'.bs s'.ents) recs zB:=by
 rw[e,i,j];have o:∀a,bv s.bs (a++[(recs.length+1,zB)])=splice (bv s.bs a) ((recs.length+1)*128) zB:=fun a=>by simp[bv]
 obtain⟨g,p⟩:=h.view;refine⟨?_,by rw[o];exact p.wipe c⟩;rcases h with⟨g,k,l⟩|⟨b,r,q,rfl,k,l,t,u,v⟩
 ·exact .inl ⟨g,by rw[i,j];exact k,by rw[e];exact l.snoc c⟩
 ·exact .inr ⟨b,r,q++[((b++[r]).length+1,zB)],rfl,by rw[i,j];exact k,by rw[e,l];rfl,t.snoc c,u,v⟩
theorem eZ.pend{s':DS}{r:List Value}(h:eZ n s recs)(b:recs.length+1<n)(a:yd r)(j:s'.ents=s.ents++[(recs.length+1,r)])(c:s'.bs=s.bs)(i:s'.d.cap=s.d.cap):JD n s' (recs++[r])∧bQ n s'.d.cap (bv s'.bs s'.ents) (recs++[r]) zB:=by
 have e:s'.ents=[(recs.length+1,r)]:=by rw[j,h.2];rfl
 refine⟨.inr ⟨recs,r,[],rfl,by rw[c,i];exact h.1,e,fun p k=>absurd k (by simp),a,b⟩,?_⟩;rw[e,c,i];exact h.1.add b a.1.1 a.2
structure bO(k:Int)(a b:DP):Prop where
 c0:a.calls≤b.calls
 c1:b.calls≤a.calls+k
 w0:a.writes≤b.writes
 w1:b.writes≤a.writes+k
 t0:a.told≤b.told
 t1:b.told≤a.told+k
 o:b.off=a.off
 l:b.lo=a.lo
 h:b.hi=a.hi
 c:b.cap=a.cap
theorem bO.refl(a:DP):bO 0 a a:=⟨by omega,by omega,by omega,by omega,by omega,by omega,rfl,rfl,rfl,rfl⟩
theorem bO.trans{a b c:DP}{k l:Int}(h:bO k a b)(d:bO l b c):bO (k+l) a c:=by obtain⟨e,i,j,o,p,q,r,t,u,v⟩:=h;obtain⟨w,x,y,z,A,B,C,D,E,F⟩:=d;exact⟨by omega,by omega,by omega,by omega,by omega,by omega,by omega,by omega,by omega,by omega⟩
theorem bO.mono{a b:DP}{k l:Int}(h:bO k a b)(j:k≤l):bO l a b:=by obtain⟨o,p,q,r,t,u,c,d,e,i⟩:=h;exact⟨by omega,by omega,by omega,by omega,by omega,by omega,c,d,e,i⟩
theorem ez(a:DP):bO 1 a a.next:=by have:=a.told_next;exact⟨by show a.calls≤a.calls+1;omega,by show a.calls+1≤a.calls+1;omega,DL _,by show a.writes≤a.writes+1;omega,this.1,this.2,rfl,rfl,rfl,rfl⟩
theorem eP(a:DP):bO 1 a a.next.wrote:=by have:=a.told_next;exact⟨by show a.calls≤a.calls+1;omega,by show a.calls+1≤a.calls+1;omega,by show a.writes≤a.writes+1;omega,by show a.writes+1≤a.writes+1;omega,this.1,this.2,rfl,rfl,rfl,rfl⟩
theorem bO.good{a b:DP}{k:Int}(h:bO k a b)(c:a.good):b.good:=⟨by rw[h.o];exact c.1,by rw[h.h,h.l];exact c.2⟩
theorem gu{a:DP}(h:a.bad=true):a.told<a.next.told:=by
 show a.told<if a.bad=true then a.told+1 else a.told
 rw[CE h];omega
theorem dB(s:DS)(i:Nat)(b:List Value):bO 2 s.d (s.put i b).2.d∧(s.d.good→(s.put i b).1=true)∧(s.put i b).2.ents.length≤s.ents.length+1∧((s.put i b).1=false→s.d.told<(s.put i b).2.d.told)∧(((s.put i b).1=false∧(s.put i b).2.ents=s.ents∧(s.put i b).2.bs=s.bs)∨((s.put i b).1=false∧(s.put i b).2.ents=s.ents++[(i,b)]∧(s.put i b).2.bs=s.bs)∨((s.put i b).1=true∧(s.put i b).2.ents=[]∧(s.put i b).2.bs=bv s.bs (s.ents++[(i,b)]))):=by
 unfold DS.put;by_cases a:s.d.bad=true
 ·have e:s.store i b=(false,s.fail):=by unfold DS.store;rw[CE a]
  rw[e];refine⟨(ez s.d).mono (by decide),(fun j=>by rw[j.bad]at a;cases a),DC _,fun _=>gu a,.inl ⟨rfl,rfl,rfl⟩⟩
 ·have e:s.store i b=(true,⟨s.d.next.wrote,s.ents++[(i,b)],s.bs⟩):=by unfold DS.store;rw[Cz a]
  rw[e];simp only[FH];unfold DS.secure;by_cases c:s.d.next.wrote.bad=true
  ·rw[CE c];refine⟨(eP s.d).trans (ez _),(fun j=>by have:=((eP s.d).good j).bad;rw[this]at c;cases c),by simp[DS.fail],fun _=>Eb (eP s.d).t0 (gu c),.inr (.inl ⟨rfl,rfl,rfl⟩)⟩
  ·rw[Cz c];exact⟨(eP s.d).trans (ez _),fun _=>rfl,CH _,(fun h=>by cases h),.inr (.inr ⟨rfl,rfl,rfl⟩)⟩
theorem kH{a:Bool}(h:JD n s recs)(p:a=true→eZ n s recs)(l:recs.length+1<n):bO 2 s.d (br a s (recs.length+1)).2.d∧(s.d.good→(br a s (recs.length+1)).1=true)∧(br a s (recs.length+1)).2.ents.length≤s.ents.length+1∧((br a s (recs.length+1)).1=false→s.d.told<(br a s (recs.length+1)).2.d.told)∧(JD n (br a s (recs.length+1)).2 recs∧(JZ n s recs→JZ n (br a s (recs.length+1)).2 recs))∧((br a s (recs.length+1)).1=true→eZ n (br a s (recs.length+1)).2 recs):=by
 cases a with
 |true=>exact⟨(bO.refl _).mono (by decide),fun _=>rfl,DC _,(fun h=>by cases h),⟨h,fun h=>h⟩,fun _=>p rfl⟩
 |false=>
  have e:br false s (recs.length+1)=s.put (recs.length+1) zB:=rfl;rw[e];obtain⟨j,q,r,pt,t⟩:=dB s (recs.length+1) zB;refine⟨j,q,r,pt,?_⟩;rcases t with⟨k,b,i⟩|⟨k,b,i⟩|⟨k,b,i⟩
  ·exact⟨⟨h.keep b i j.c,fun h=>h.keep b i j.c⟩,(fun h=>by rw[k]at h;cases h)⟩
  ·exact⟨⟨(h.wipe l b i j.c).1,fun h=>h.wipe l b i j.c⟩,fun h=>by rw[k]at h;cases h⟩
  ·have u:=(h.wipe (s':=⟨s.d,s.ents++[(recs.length+1,zB)],s.bs⟩) l rfl rfl rfl).2;have o:eZ n (s.put (recs.length+1) zB).2 recs:=⟨by rw[i,j.c];exact u,b⟩;exact⟨⟨o.jd,fun _=>o.jz⟩,fun _=>o⟩
theorem xi{sb:Bool}{r:List Value}(h:JD n s recs)(u:sb=true→eZ n s recs)(l:recs.length+1<n)(q:yd r):bO 4 s.d (dI sb s (recs.length+1) r).2.d∧(s.d.good→(dI sb s (recs.length+1) r).1=true)∧(dI sb s (recs.length+1) r).2.ents.length≤s.ents.length+2∧((dI sb s (recs.length+1) r).1=false→s.d.told<(dI sb s (recs.length+1) r).2.d.told)∧((dI sb s (recs.length+1) r).1=true→eZ n (dI sb s (recs.length+1) r).2 (recs++[r]))∧(¬(dI sb s (recs.length+1) r).1=true→(JD n (dI sb s (recs.length+1) r).2 recs∧(JZ n s recs→JZ n (dI sb s (recs.length+1) r).2 recs))∨JD n (dI sb s (recs.length+1) r).2 (recs++[r])):=by
 obtain⟨k,v,B,at',t,w⟩:=kH h u l;unfold dI;by_cases a:(br sb s (recs.length+1)).1=true
 ·rw[CE a];have o:=w a;generalize (br sb s (recs.length+1)).2=s1 at*
  obtain⟨i,x,C,pt,y⟩:=dB s1 (recs.length+1) r;refine⟨k.trans i,fun p=>x (k.good p),by omega,fun z=>Eb k.t0 (pt z),?_⟩;rcases y with⟨j,b,e⟩|⟨j,b,e⟩|⟨j,b,e⟩
  ·exact⟨(fun h=>by rw[j]at h;cases h),fun _=> .inl ⟨t.1.keep b e i.c,fun _=>o.jz.keep b e i.c⟩⟩
  ·exact⟨(fun h=>by rw[j]at h;cases h),fun _=> .inr (o.pend l q b e i.c).1⟩
  ·have A:=(o.pend (s':=⟨s1.d,s1.ents++[(recs.length+1,r)],s1.bs⟩) l q rfl rfl rfl).2;exact⟨fun _=>⟨by rw[e,i.c];exact A,b⟩,fun h=>absurd j h⟩
 ·rw[Cz a];exact⟨k.mono (by decide),fun p=>absurd (v p) a,by show(br sb s (recs.length+1)).2.ents.length≤_;omega,fun _=>at' (by simpa using a),(fun h=>by cases h),fun _=> .inl t⟩
end
def aM(s:DS):Nat→Bool×DS
 |0=>(true,s)
 |m+1=>if(aM s m).1=true then(aM s m).2.store (m+1) zB else aM s m
theorem lN{s:DS}{k:Nat}(h:¬(aM s k).1=true):∀m,k≤m→aM s m=aM s k
 |0,a=>by
  obtain rfl:k=0:=by omega
  rfl
 |m+1,a=>by
  by_cases e:k=m+1
  ·rw[e]
  ·have b:=lN h m (by omega);rw[aM,b,Cz h]
theorem fQ(s:DS)(i:Nat)(b:List Value):bO 1 s.d (s.store i b).2.d:=by
 unfold DS.store;split
 ·exact ez s.d
 ·exact eP s.d
theorem jP(s:DS):bO 1 s.d s.secure.2.d:=by
 unfold DS.secure;split
 ·exact ez s.d
 ·exact ez s.d
theorem rQ(s:DS)(i:Nat)(b:List Value):(s.store i b).2.ents.length≤s.ents.length+1:=by
 unfold DS.store;split
 ·exact DC _
 ·simp
theorem eH(s:DS):∀m:Nat,bO m s.d (aM s m).2.d∧(aM s m).2.ents.length≤s.ents.length+m
 |0=>⟨bO.refl _,Cs _⟩
 |m+1=>by
  obtain⟨a,b⟩:=eH s m;rw[aM];split
  ·have:=rQ (aM s m).2 (m+1) zB;exact⟨by push_cast;exact a.trans (fQ _ _ _),by omega⟩
  ·exact⟨a.mono (by push_cast;omega),by omega⟩
theorem bO.okQ{a b:DP}{j:Int}(h:bO j a b)(c:a.Q)(d:j≤1000):b.Ok:=by obtain⟨e,f,g,i,k,l⟩:=c;obtain⟨m,n,o,p,q,r,_⟩:=h;exact⟨by omega,by omega,by omega,by omega,by omega,by omega⟩
def bF(s:DS)(n:Nat):Bool×DS:=
 if(s.put 0 zB).1=true then
  if(aM (s.put 0 zB).2 (n-1)).1=true then
   if(aM (s.put 0 zB).2 (n-1)).2.secure.1=true then(aM (s.put 0 zB).2 (n-1)).2.secure.2.put 0 (bc n)
   else(false,(aM (s.put 0 zB).2 (n-1)).2.secure.2)
  else(false,(aM (s.put 0 zB).2 (n-1)).2)
 else(false,(s.put 0 zB).2)
structure fT(w:World)(X V A B n base:Nat)(a:Value)(s:DS):Prop where
 x:w.heap[X]?=some (.cells #[.pointer (some ⟨V,0,none⟩)] 155 (0,0))
 v:aZ w V A n
 d:bi w A B n base a s
section
variable{w w':World}{X V A B n base:Nat}{a:Value}{s s':DS}
theorem fT.cx(h:fT w X V A B n base a s):w.cell? ⟨X,0,none⟩=some (.pointer (some ⟨V,0,none⟩)):=by rw[Cn w X 0 _ _ _ h.x];rfl
theorem fT.next{b:Value}(h:fT w X V A B n base a s)(c:Fr (fK A B a) w w')(e:bi w' A B n base b s'):fT w' X V A B n base b s':=⟨c.keep h.x (h.d.not h.x (by decide)),c.keep h.v (h.d.not h.v (by decide)),e⟩
theorem fT.frz(h:fT w X V A B n base a s)(b:Fr (fun _=>False) w w'):fT w' X V A B n base a s:=⟨b.keep h.x jI,b.keep h.v jI,h.d.frz b⟩
theorem fh{c d:World}{c1:Value}(hF:Fr (fK A B a) w c)(e:CB w a c1)(f:Fr (fK A B c1) c d):Fr (fK A B a) w d:=hF.trans f (fun b g h=>by
 rcases h with h|h|h
 ·exact .inl h
 ·exact .inr (.inl h)
 ·rcases e b h with h|h
  ·exact .inr (.inr h)
  ·omega)
end
def Bt(w:World)(V A B n base:Nat)(a:Value)(s:DS)(e:Ending)(w':World):Prop:=∃b,bi w' A B n base b (bF s n).2∧CB w a b∧aZ w' V A n∧Fr (fK A B a) w w'∧gp (bF s n).1 (e= .returned .nilIface) (∃g,e=im g∧dH w' g)
theorem xL{w:World}{X V A B n base:Nat}{a:Value}{s:DS}(h:fT w X V A B n base a s)(hq:s.d.Q)(aW:s.ents.length<800000)(ba:8≤n)(hn:n≤400)(aF:∀i,i<n→li i)(hG:cN w)(aG:NG (fK A B a)):Calls prog 136 #[.pointer (some ⟨X,0,none⟩)] w fun e w'=>Bt w V A B n base a s e w':=by
 have HG:Hid (∀w1,Fr (fK A B a) w w1→cN w1):=fun w1 hf=>hG.fr hf aG;have O:=aG.mono (fun b h=> .inl h);have av:=af aF;have cx:=h.cx;obtain⟨p,HP⟩:=aw (s.put 0 zB);have P:Hid (bF s n=if p.1=true then(if(aM p.2 (n-1)).1=true then(if(aM p.2 (n-1)).2.secure.1=true then(aM p.2 (n-1)).2.secure.2.put 0 (bc n)else(false,(aM p.2 (n-1)).2.secure.2))else(false,(aM p.2 (n-1)).2))else(false,p.2)):=by rw[HP.out];rfl
 have R:=iw h.v h.d hq.ok (by omega) 0 (by omega) zB ce se (aF 0 (by omega)) hG O;have HH:=af h;clear h aF hG aG;go_enter func136,ntmps136;go_wp2_with (first|(refine fw 130 #[] (v:= .agg zB.toArray) (w':=w) rfl rfl #[] ?_ ?_ ?_;rfl;exact pK w));try go_simp
 refine R.mono ?_;rintro e w1 ⟨y,T,z,H,ah⟩;by_cases hb:(s.store 0 zB).1=true
 ·rw[CE hb]at ah;subst ah;have U:=HH.out.next H T;have b7:=U.cx;have ai:0<(s.store 0 zB).2.ents.length:=by
   unfold DS.store at hb⊢;split at hb
   ·cases hb
   ·rename_i h1;rw[Cz h1];simp
  have I:=gx U.v U.d ((fQ s 0 zB).okQ hq (by decide)) ai;have aX:Hid (p=(s.store 0 zB).2.secure):=by rw[HP.out];show s.put 0 zB=_;unfold DS.put;rw[CE hb]
  obtain⟨s1,aj⟩:=aw ((s.store 0 zB).2);rw[←aj.out]at I T;have aY:Hid (p=s1.secure):=by rw[aj.out];exact aX.out
  have Y:fT w1 X V A B n base y s1:=by rw[aj.out];exact U
  clear R aX U cx;go_wp2_with fail;refine I.mono ?_;rintro e w2 ⟨C,Z,ax,ak,a0⟩;have a1:=z.trans ax H.size;have aH:=fh H z ak;rw[←aY.out]at Z a0;by_cases q:p.1=true
  ·rw[CE q]at a0;subst a0;have b0:=Y.next ak Z;have aI:bO 2 s.d p.2.d∧p.2.ents=[]:=by
    have hc:=dB s 0 zB;rw[←HP.out]at hc;refine⟨hc.1,?_⟩;rcases hc.2.2.2.2 with⟨h,_⟩|⟨h,_⟩|⟨_,h,_⟩
    ·rw[q]at h;cases h
    ·rw[q]at h;cases h
    ·exact h
   have HI:Hid (∃j,fT w2 X V A B n base j (aM p.2 0).2∧(aM p.2 0).1=true∧CB w a j∧Fr (fK A B a) w w2):=⟨C,b0,rfl,a1,aH⟩;have HQ:Hid (bO 2 s.d p.2.d∧p.2.ents=[]∧s.d.Q):=⟨aI.1,aI.2,hq⟩;clear Y H T z ak Z ax b0 aH a1 aI aY aj I b7 hq aW HH;go_wp2;go_loopw [2] (fun c wr=>∃m:Nat,m+1≤n∧c= .int .i64 (m+1:Nat)∧Hid (∃j,fT wr X V A B n base j (aM p.2 m).2∧(aM p.2 m).1=true∧CB w a j∧Fr (fK A B a) w wr)) (fun c _=>n-(intOf c).toNat);case atStart=>exact⟨0,by omega,rfl,HI⟩
   case round=>
    clear HI;obtain⟨m,hm,rfl,HR⟩:=hrel;obtain⟨j,hh,l,J,hF⟩:=HR.out;have cx:=hh.cx;have al:=eH p.2 m;have hQ:=HQ.out.2.2;have a2:=HQ.out.1.trans al.1;have aW:(aM p.2 m).2.ents.length≤m:=by have:=al.2;rw[HQ.out.2.1]at this;simpa using this
    by_cases b1:m+1<n
    ·have b2:(m:Int)+1<n:=by omega
     have R:=iw hh.v hh.d (a2.okQ hQ (by omega)) (by omega) (m+1) b1 zB ce se (av.out _ b1) (HG.out _ hF) O;go_wp2_with fail;refine(cJ hh.v).mono ?_;rintro e w' ⟨rfl,rfl⟩;go_wp2_with fail;refine R.mono ?_;rintro e w3 ⟨D,an,ay,aJ,a3⟩;have hw:aM p.2 (m+1)=(aM p.2 m).2.store (m+1) zB:=by rw[aM,CE l]
     rw[←hw]at an a3;have aK:=fh hF J aJ;have a4:=J.trans ay hF.size;have aL:=hh.next aJ an;by_cases a5:(aM p.2 (m+1)).1=true
     ·rw[CE a5]at a3;subst a3;have HN:Hid (∃j,fT w3 X V A B n base j (aM p.2 (m+1)).2∧(aM p.2 (m+1)).1=true∧CB w a j∧Fr (fK A B a) w w3):=⟨D,aL,a5,a4,aK⟩;clear HR an aJ ay aL hh hF aK a4 J R hw al a2 cx hQ;go_wp2;go_roundw;case rel=>exact⟨m+1,by omega,by go_num,HN⟩
      case measure=>simp[intOf];omega
     ·rw[Cz a5]at a3;obtain⟨g,rfl,ht⟩:=a3;have b3:=lN a5 (n-1) (by omega);have E:bF s n=(false,(aM p.2 (m+1)).2):=by rw[P.out,CE q,b3,Cz a5]
      exact⟨rfl,D,by rw[E];exact an,a4,aL.v,aK,gp.neg (by rw[E];simp) ⟨g,rfl,ht⟩⟩
    ·have b4:m=n-1:=by omega
     have b2:¬((m:Int)+1<n):=by omega
     have ai:0<(aM p.2 m).2.ents.length:=by
      obtain⟨k,hk⟩:∃k,m=k+1:=⟨m-1,by omega⟩;rw[hk]at l⊢;rw[aM]at l⊢;split at l
      ·rename_i h1;rw[CE h1];unfold DS.store at l⊢;split at l
       ·cases l
       ·rename_i h2;rw[Cz h2];simp
      ·rename_i h1;exact absurd l h1
     have I:=gx hh.v hh.d (a2.okQ hQ (by omega)) ai;go_wp2_with fail;refine(cJ hh.v).mono ?_;rintro e w' ⟨rfl,rfl⟩;go_wp2_with fail;refine I.mono ?_;rintro e w4 ⟨ao,aN,az,aO,t⟩;have aP:=fh hF J aO;have r:=J.trans az hF.size;have ap:=hh.next aO aN;by_cases u:(aM p.2 m).2.secure.1=true
     ·rw[CE u]at t;subst t;have aQ:=a2.trans (jP _);have t:(aM p.2 m).2.secure.2.ents=[]:=by
       unfold DS.secure at u⊢;split at u
       ·cases u
       ·rename_i h1;rw[Cz h1]
      have aq:Hid (bF s n=(aM p.2 m).2.secure.2.put 0 (bc n)):=by show bF s n=_;rw[P.out,CE q,←b4,CE l,CE u]
      obtain⟨s4,b8⟩:=aw ((aM p.2 m).2.secure.2);rw[←b8.out]at aq aQ t ap;clear HR aN aO az hh hF J I al a2 cx ai;go_wp2_with fail;try go_simp
      obtain⟨W,HW⟩:=aw w4.drew;have aR:=eG HW;have ar:=ap.frz aR;have b5:=aP.trans (aR.mono (fun _ _ h=>h.elim)) fI;let S:World→Prop:=fun w'=>w'.cell? ⟨X,0,none⟩=some (.pointer (some ⟨V,0,none⟩))
      have hS:S W:=ar.cx;refine dZ S HW ?_;clear HW;refine cU 0 20 155 0 (.pointer (some ⟨V,0,none⟩)) ⟨X,0,none⟩ rfl (fun _ hs=>hs) underlying155 hS ?_;refine cU 1 21 155 0 (.pointer (some ⟨V,0,none⟩)) ⟨X,0,none⟩ rfl (fun _ hs=>hs) underlying155 hS ?_;simp only[Act.put,aC,aB,aE];refine dN 2 22 110 #[.tmp 21] #[.pointer (some ⟨V,0,none⟩)] rfl ?_;refine(cJ ar.v).mono ?_;rintro e w' ⟨rfl,rfl⟩;refine⟨_,rfl,hS,?_⟩;simp only[Act.put,aC,aB,aE];refine dN 3 23 113 #[.tmp 22] #[.int .i64 n] rfl ?_;refine(oK _ n hn).mono ?_;rintro e w5 ⟨rfl,aS⟩;have K:=ar.frz aS;have L:=b5.trans (aS.mono (fun _ _ h=>h.elim)) fI;refine⟨_,rfl,K.cx,?_⟩;simp only[Act.put,aC,aB,aE];refine cj 4 ?_;have a6:=iw K.v K.d (aQ.okQ hQ (by omega)) (by rw[t];simp) 0 (by omega) (bc n) (cr n) (nl n) (av.out 0 (by omega)) (HG.out _ L) O;by_cases x:(s4.store 0 (bc n)).1=true
      ·refine bl (o:=⟨some 24,.call {callee:= .value (.func 94),args:=#[.tmp 20,.const (.int .i64 0),.tmp 23],argTypes:=_},_,_,_,none⟩) (f:=94) (args:=#[.pointer (some ⟨V,0,none⟩),.int .i64 0,.agg (bc n).toArray]) rfl rfl (by kernel_rfl) ?_;refine a6.mono ?_;rintro e w6 ⟨F,a7,a8,M,a9⟩;rw[CE x]at a9;subst a9;have aa:=fh L r M;have ab:=r.trans a8 L.size;have N:=K.next M a7;refine⟨_,rfl,N.cx,?_⟩;simp only[Act.put,aC,aB,aE];refine dn ?_;have bb:=N.cx;have b6:0<(s4.store 0 (bc n)).2.ents.length:=by
        unfold DS.store at x⊢;split at x
        ·cases x
        ·rename_i h1;rw[Cz h1];simp
       have aA:=gx N.v N.d ((aQ.trans (fQ s4 0 (bc n))).okQ hQ (by omega)) b6;have b9:Hid (bF s n=(s4.store 0 (bc n)).2.secure):=by show bF s n=_;rw[aq.out];unfold DS.put;rw[CE x]
       clear hS ar K L b5 aS M a7 a6 aq aR ap aP;go_wp2_with fail;refine aA.mono ?_;rintro e w7 ⟨G,ad,aD,aT,ae⟩;have aU:=fh aa ab aT;have ag:=ab.trans aD aa.size;have aV:=N.next aT ad;rw[←b9.out]at ad ae;by_cases au:(bF s n).1=true
       ·rw[CE au]at ae;subst ae;have HF:Hid (∃j,bi w7 A B n base j (bF s n).2∧CB w a j∧aZ w7 V A n∧Fr (fK A B a) w w7):=⟨G,ad,ag,aV.v,aU⟩;clear ad ag aV aU aT aD N aa ab aA;go_wp2;go_ret;obtain⟨c',q1,q2,q3,q4⟩:=HF.out;exact⟨c',q1,q2,q3,q4,gp.pos au rfl⟩
       ·rw[Cz au]at ae;obtain⟨g,rfl,ht⟩:=ae;exact⟨rfl,G,ad,ag,aV.v,aU,gp.neg au ⟨g,rfl,ht⟩⟩
      ·refine cW (o:=⟨some 24,.call {callee:= .value (.func 94),args:=#[.tmp 20,.const (.int .i64 0),.tmp 23],argTypes:=_},_,_,_,none⟩) (f:=94) (args:=#[.pointer (some ⟨V,0,none⟩),.int .i64 0,.agg (bc n).toArray]) rfl rfl (by kernel_rfl) ?_;refine a6.mono ?_;rintro e w6 ⟨F,a7,a8,M,a9⟩;rw[Cz x]at a9;obtain⟨g,rfl,ht⟩:=a9;have E:bF s n=(false,(s4.store 0 (bc n)).2):=by rw[aq.out];unfold DS.put;rw[Cz x]
       have aa:=fh L r M;exact⟨_,rfl,rfl,F,by rw[E];exact a7,r.trans a8 L.size,(K.next M a7).v,aa,gp.neg (by rw[E];simp) ⟨g,rfl,ht⟩⟩
     ·rw[Cz u]at t;obtain⟨g,rfl,ht⟩:=t;have E:bF s n=(false,(aM p.2 m).2.secure.2):=by rw[P.out,CE q,←b4,CE l,Cz u]
      exact⟨rfl,ao,by rw[E];exact aN,r,ap.v,aP,gp.neg (by rw[E];simp) ⟨g,rfl,ht⟩⟩
  ·rw[Cz q]at a0;obtain⟨g,rfl,ht⟩:=a0;have E:bF s n=(false,p.2):=by rw[P.out,Cz q]
   exact⟨rfl,C,by rw[E];exact Z,a1,(Y.next ak Z).v,aH,gp.neg (by rw[E];simp) ⟨g,rfl,ht⟩⟩
 ·rw[Cz hb]at ah;obtain⟨g,rfl,ht⟩:=ah;have hp:p=(false,(s.store 0 zB).2):=by rw[HP.out];unfold DS.put;rw[Cz hb]
  have E:bF s n=(false,(s.store 0 zB).2):=by rw[P.out,hp,Cz (by simp)]
  exact⟨rfl,y,by rw[E];exact T,z,(HH.out.next H T).v,H,gp.neg (by rw[E];simp) ⟨g,rfl,ht⟩⟩
theorem s8{b c:List Value}{o:Nat}(h:o+c.length≤b.length)(j:Nat):(splice b o c)[j]?=if j<o then b[j]?else if j<o+c.length then c[j-o]?else b[j]?:=by
 unfold splice;have k:(b.take o).length=o:=by rw[Cy];omega
 by_cases e:j<o
 ·rw[CE e,CI (by omega),El e]
 ·rw[Cz e,CG (by omega),k];by_cases i:j<o+c.length
  ·rw[CE i,CI (by omega)]
  ·rw[Cz i,CG (by omega),E3];congr 1;omega
theorem fX{b:List Value}(i j:Nat)(c:j<128):(aI b i)[j]?=b[i*128+j]?:=by unfold aI;rw[El c,E3]
theorem iv{b f:List Value}{a:Nat}{z:Int}(c:f.length=128)(h:a*128+128≤b.length):∀t,t≤4→(cf b a f z t).length=b.length
 |0,_=>rfl
 |t+1,i=>by
  have e:=iv (z:=z) c h t (by omega);have j:=jS c (t:=t) (by omega);rw[cf];split
  ·rw[dK (by omega),e]
  ·exact e
theorem mK{b f:List Value}{a:Nat}{z:Int}(l:f.length=128)(p:a*128+128≤b.length):∀t,t≤4→∀j,(cf b a f z t)[j]?=if a*128≤j∧j<a*128+t*32∧ff z ((j-a*128)/32)=true then f[j-a*128]?else b[j]?
 |0,_,j=>by rw[Cz (by omega)];rfl
 |t+1,r,j=>by
  have o:=mK (z:=z) l p t (by omega) j;have s:=iv (z:=z) l p t (by omega);have q:=jS l (t:=t) (by omega);rw[cf];by_cases k:ff z t=true
  ·rw[CE k,s8 (by omega),q];by_cases i:j<a*128+t*32
   ·rw[CE i,o];by_cases c:a*128≤j∧ff z ((j-a*128)/32)=true
    ·rw[CE ⟨c.1,i,c.2⟩,CE ⟨c.1,by omega,c.2⟩]
    ·rw[Cz (fun h=>c ⟨h.1,h.2.2⟩),Cz (fun h=>c ⟨h.1,h.2.2⟩)]
   ·rw[Cz i];by_cases c:j<a*128+t*32+32
    ·have e:(j-a*128)/32=t:=by omega
     rw[CE c,CE ⟨by omega,by omega,by rw[e];exact k⟩,El (by omega),E3];congr 1;omega
    ·rw[Cz c,Cz (by omega),o,Cz (by omega)]
  ·rw[Cz k,o];by_cases i:a*128≤j∧j<a*128+t*32∧ff z ((j-a*128)/32)=true
   ·rw[CE i,CE ⟨i.1,by omega,i.2.2⟩]
   ·rw[Cz i];by_cases c:a*128≤j∧j<a*128+(t+1)*32∧ff z ((j-a*128)/32)=true
    ·exfalso;have u:¬j<a*128+t*32:=fun h=>i ⟨c.1,h,c.2.2⟩;have e:(j-a*128)/32=t:=by omega
     rw[e]at c;exact k c.2.2
    ·rw[Cz c]
section
variable{b f:List Value}{a m:Nat}{z:Int}
theorem ft(h:b.length=m*128)(e:f.length=128)(k:a<m){i:Nat}(hi:i≠a):aI (cf b a f z 4) i=aI b i:=by
 apply DX;intro j;by_cases c:j<128
 ·rw[fX _ _ c,fX _ _ c,mK e (by omega) 4 (Cs _),Cz (by omega)]
 ·rw[Da (by unfold aI;rw[Cy];omega),Da (by unfold aI;rw[Cy];omega)]
theorem ow(l:b.length=m*128)(i:f.length=128)(o:a<m){j:Nat}(c:j<128):(aI (cf b a f z 4) a)[j]?=if ff z (j/32)=true then f[j]?else(aI b a)[j]?:=by
 have e:a*128+j-a*128=j:=by omega
 rw[fX _ _ c,fX _ _ c,mK i (by omega) 4 (Cs _),e];by_cases h:ff z (j/32)=true
 ·rw[CE h,CE ⟨by omega,by omega,h⟩]
 ·rw[Cz h,Cz (fun k=>h k.2.2)]
theorem jO(e:eQ b)(h:eQ f):∀t,eQ (cf b a f z t)
 |0,v,c=>e v c
 |t+1,v,c=>by
  rw[cf]at c;split at c
  ·rcases eC c with c|c
   ·exact jO e h t v c
   ·exact h v (D8 (CU c))
  ·exact jO e h t v c
end
section
variable{n m:Nat}{d:List Value}{recs:List (List Value)}{g:List Value}
theorem bQ.cutW(h:bQ n m d recs g){a:Nat}(B:recs.length+1≤a)(C:a<n)(z:Int):∃v,bQ n m (cf d a zB z 4) recs v:=by
 have D:=h.nm;have c:∀i,i≠a→aI (cf d a zB z 4) i=aI d i:=fun i hi=>ft h.len ce (by omega) hi;have o:∀j,j<128→(aI (cf d a zB z 4) a)[j]?=if ff z (j/32)=true then zB[j]?else(aI d a)[j]?:=fun j p=>ow h.len ce (by omega) p
 have l:(cf d a zB z 4).length=m*128:=by rw[iv ce (by rw[h.len];omega) 4 (Cs _),h.len]
 have q:=jO (a:=a) (z:=z) h.one jK 4;refine⟨aI (cf d a zB z 4) (recs.length+1),h.nm,l,q,?_,?_,?_,?_⟩
 ·rw[c 0 (by omega)];exact h.head
 ·intro i r w;have:=(Co.1 w).1;rw[c _ (by omega)];exact h.get i r w
 ·intro x;refine⟨rfl,?_⟩;obtain⟨s,t⟩:=h.tail x;by_cases e:recs.length+1=a
  ·subst e;obtain⟨b,y,i,hi,A⟩:=t.k;refine⟨iQ l (by omega),fun j=>if ff z j=true then 0 else b j,fun j p=>?_,i,hi,?_⟩
   ·rw[o _ (by omega),show j*32/32=j by omega];by_cases u:ff z j=true
    ·rw[CE u,my (by omega)];simp[u]
    ·rw[Cz u,s,y j p];simp[u]
   ·show(if ff z i=true then 0 else b i)=0;split
    ·rfl
    ·exact A
  ·rw[c _ e,s];exact t
 ·intro i s t;by_cases e:i=a
  ·subst e;apply DX;intro j;by_cases p:j<128
   ·rw[o j p,h.zero _ s t];split<;>rfl
   ·rw[Da (by unfold aI;rw[Cy];omega),Da (by rw[ce];omega)]
  ·rw[c _ e];exact h.zero i s t
theorem bQ.cutR{r:List Value}(h:bQ n m d recs zB)(E:recs.length+1<n)(F:yd r)(z:Int):(∃u,bQ n m (cf d (recs.length+1) r z 4) recs u)∨bQ n m (cf d (recs.length+1) r z 4) (recs++[r]) zB:=by
 have J:=h.nm;obtain⟨⟨p,_,b,G,_⟩,v⟩:=F;have c:∀i,i≠recs.length+1→aI (cf d (recs.length+1) r z 4) i=aI d i:=fun i hi=>ft h.len p (by omega) hi;have s:∀j,j<128→(aI (cf d (recs.length+1) r z 4) (recs.length+1))[j]?=if ff z (j/32)=true then r[j]?else(aI d (recs.length+1))[j]?:=fun j t=>ow h.len p (by omega) t
 have e:(cf d (recs.length+1) r z 4).length=m*128:=by rw[iv p (by rw[h.len];omega) 4 (Cs _),h.len]
 have k:=jO (a:=recs.length+1) (z:=z) h.one v 4;have w:=(h.tail E).1;by_cases l:∀i,i<4→ff z i=true
 ·right;have y:aI (cf d (recs.length+1) r z 4) (recs.length+1)=r:=by
   apply DX;intro j;by_cases t:j<128
   ·rw[s j t,CE (l _ (by omega))]
   ·rw[Da (by unfold aI;rw[Cy];omega),Da (by omega)]
  refine⟨h.nm,e,k,by rw[c 0 (by omega)];exact h.head,?_,?_,?_⟩
  ·intro i x o;have A:=(Co.1 o).1;rw[Cr,CM]at A;by_cases hi:recs.length=i
   ·rw[←hi,y];rw[←hi,CG (Cs _),Em]at o;simpa using o
   ·rw[c _ (by omega)];rw[CI (by omega)]at o;exact h.get i x o
  ·rw[Cr,CM];intro H;rw[c _ (by omega)];exact⟨h.zero _ (by omega) H,lG⟩
  ·rw[Cr,CM];intro i D B;rw[c _ (by omega)];exact h.zero i (by omega) B
 ·left;obtain⟨i,hi,C⟩:∃i,i<4∧ff z i=false:=by
   refine Classical.byContradiction fun I=>l fun i hi=>?_;cases q:ff z i with
   |true=>rfl
   |false=>exact absurd ⟨i,hi,q⟩ I
  refine⟨aI (cf d (recs.length+1) r z 4) (recs.length+1),h.nm,e,k,by rw[c 0 (by omega)];exact h.head,?_,?_,?_⟩
  ·intro j x o;have:=(Co.1 o).1;rw[c _ (by omega)];exact h.get j x o
  ·intro _;refine⟨rfl,iQ e (by omega),fun j=>if ff z j=true then b j else 0,fun j t=>?_,i,hi,?_⟩
   ·rw[s _ (by omega),show j*32/32=j by omega];by_cases q:ff z j=true
    ·rw[CE q,G j t];simp[q]
    ·rw[Cz q,w,my (by omega)];simp[q]
   ·show(if ff z i=true then b i else 0)=0;rw[C];rfl
  ·intro j D B;rw[c _ (by omega)];exact h.zero j D B
theorem bQ.again(h:bQ n m d recs g)(u:recs.length<n){e:Nat}(o:n≤e):bQ n e (d.take (n*128)++List.replicate ((e-n)*128) (Value.int .u8 0)) recs g:=by
 have w:=h.nm;have k:(d.take (n*128)).length=n*128:=by rw[Cy,h.len];omega
 have l:∀i,i<n→aI (d.take (n*128)++List.replicate ((e-n)*128) (Value.int .u8 0)) i=aI d i:=by
  intro i hi;apply DX;intro j;by_cases p:j<128
  ·rw[fX _ _ p,fX _ _ p,CI (by omega),El (by omega)]
  ·rw[Da (by unfold aI;rw[Cy];omega),Da (by unfold aI;rw[Cy];omega)]
 refine⟨o,by rw[Cr,k,Dm];omega,fun v c=>?_,by rw[l 0 (by omega)];exact h.head,?_,?_,?_⟩
 ·rcases Cv.1 c with c|c
  ·exact h.one v (CU c)
  ·exact⟨0,by decide,(D6.1 c).2⟩
 ·intro i r q;have:=(Co.1 q).1;rw[l _ (by omega)];exact h.get i r q
 ·intro k;rw[l _ k];exact h.tail k
 ·intro i t s;rw[l _ s];exact h.zero i t s
theorem bQ.cutZ{a:Nat}(i:recs.length+1≤a):∀(l:List ((Nat×List Value)×Int)) {d g:List Value},(∀q∈l,q.1=(a,zB)∧a<n)→bQ n m d recs g→∃c,bQ n m (cutL d l) recs c
 |[],_,g,_,h=>⟨g,h⟩
 |(p,z)::l,d,g,j,h=>by obtain⟨rfl,k⟩:=j (p,z) (by simp);obtain⟨c,o⟩:=h.cutW i k z;exact bQ.cutZ i l (fun q e=>j q (by simp[e])) o
theorem oJ{e:Nat}{c:List (Nat×List Value)}(h:ZW n e c)(i:List Int):∀q∈c.zip i,q.1=(e,zB)∧e<n:=fun q j=>h q.1 (FA j).1
theorem JZ.crash{s:DS}(h:JZ n s recs)(k:recs.length<n){c:Nat}(e:n≤c)(i:List Int):∃j,bQ n c (cutL (s.bs.take (n*128)++List.replicate ((c-n)*128) (Value.int .u8 0)) (s.ents.zip i)) recs j:=by obtain⟨g,l,o⟩:=h;exact bQ.cutZ (Cs _) (s.ents.zip i) (oJ o i) (l.again k e)
theorem JD.crash{s:DS}(h:JD n s recs)(y:recs.length<n){u:Nat}(o:n≤u)(i:List Int):∃c l,bQ n u (cutL (s.bs.take (n*128)++List.replicate ((u-n)*128) (Value.int .u8 0)) (s.ents.zip i)) c l∧(c=recs∨(s.ents≠[]∧∃r,recs=c++[r])):=by
 rcases h with⟨g,v,q⟩|⟨j,r,t,rfl,v,q,p,B,C⟩
 ·obtain⟨l,p⟩:=bQ.cutZ (Cs _) (s.ents.zip i) (oJ q i) (v.again y o);exact⟨recs,l,p,.inl rfl⟩
 ·rw[Cr,CM]at y p;have A:=v.again (by omega) o;have D:s.ents≠[]:=by rw[q];simp
  rw[q];cases i with
  |nil=>exact⟨j,zB,A,.inr ⟨by simp,r,rfl⟩⟩
  |cons z i=>
   have e:∀b:List Value,cutL b (((j.length+1,r)::t).zip (z::i))=cutL (cf b (j.length+1) r z 4) (t.zip i):=fun b=>rfl;rw[e];rcases A.cutR C B z with⟨l,w⟩|w
   ·obtain⟨k,x⟩:=bQ.cutZ (by omega) (t.zip i) (oJ p i) w;exact⟨j,k,x,.inr ⟨by simp,r,rfl⟩⟩
   ·obtain⟨k,x⟩:=bQ.cutZ (by rw[Cr,CM];omega) (t.zip i) (oJ p i) w;exact⟨j++[r],k,x,.inl rfl⟩
end
theorem y5(w:World)(id r:Int):∃a,(Instr.storeAt 196 (.pointer (some ⟨w.heap.size,0,none⟩)) (.agg #[.int .i64 id,.int .i64 r])).run prog (w.alloc (.cells #[.int .i64 0,.int .i64 0] 196))= .ok () a∧a.heap[w.heap.size]?=some (.cells #[.int .i64 id,.int .i64 r] 196 (0,0))∧Fr (fun _=>False) w a:=by have b:=aa w (.cells ([.int .i64 0,.int .i64 0]:List Value).toArray 196);exact⟨_,fq (r:=[.int .i64 id,.int .i64 r]) b rfl rfl (by intro v c;simp at c;rcases c with rfl|rfl<;>rfl),CA _ _ _ _ _ _ b,Fr.setRow (S:=fun _=>False) ((Fr.refl _ _).alloc _) _ (fun h=>by omega) _⟩
theorem sq{w:World}{R:Nat}{Q:World→Prop}{B:Fn}{C D:Array Value}(id r:Nat)(o:id≤1000)(E:r≤2)(s:∀b,Fr (fun _=>False) w b→Calls prog 76 #[.pointer (some ⟨R,0,none⟩),.agg #[.int .i64 id,.int .i64 r]] b fun e p=>e= .returned (.bool true)∧Q p):Calls prog 116 #[.agg (mJ id r).toArray,.func B C D,.func (.func 76) #[.pointer (some ⟨R,0,none⟩)] #[]] w fun e b=>e= .returned (.bool true)∧Q b:=by
 have c:=dM id r;have d:(mJ id r).length=128:=bX 3 _ c 4 (by omega);have t:(mJ id r)[0]?=some (.int .u8 3):=iP 3 _ c 0 (by omega);have q:=fun b=>qo b id r o E;obtain⟨blk,F⟩:=aw (mJ id r);rw[←F.out]at d t q⊢;have a:=aa w (.cells blk.toArray 130);have f:Fr (fun _=>False) w (w.alloc (.cells blk.toArray 130)):=(Fr.refl _ _).alloc _;have c0:(w.alloc (.cells blk.toArray 130)).cell? ⟨w.heap.size,0,none⟩=some (.int .u8 3):=(Cn _ _ 0 _ _ _ a).trans (by rw[De];exact t);have u:(w.alloc (.cells blk.toArray 130)).rangeAt w.heap.size 0 blk:=fun j v G=>(Cn _ _ (0+j) _ _ _ a).trans (by simpa using G);go_enter func116,ntmps116;go_wp2_with (first|(refine CC rfl 130 _ rfl w.heap.size 0 ?_ _ _ u underlying130 rfl ?_ ?_;rfl;(rw[aV,d])));refine(q _).mono ?_;rintro e x ⟨rfl,g⟩;have h:=f.trans g fI;clear a f c0 u g q;obtain⟨y,i,k,l⟩:=y5 x id r;have m:=h.trans l fI;have z:=jR k;have n:=s y m;clear h l s;go_wp2_with (first|(refine ae 196 (w':=y) _ _ rfl rfl ?_ ?_;exact i)|(refine fZ ?_ (aL 196 (.tmp 7) rfl ⟨x.heap.size,0,none⟩ rfl z) ?_;(first|rfl|kernel_rfl|simp[Region.wanted,yielded])));refine n.mono ?_;rintro e I ⟨rfl,A⟩;have H:=af A;clear A n z i k m;go_wp2;go_ret;exact⟨rfl,H.out⟩
theorem rh{w:World}{R g h:Nat}{Q:World→Prop}{i:Fn}{k l:Array Value}(id r:Nat)(m:id≤1000)(x:r≤2)(y:w.heap[g]?=some (.cells #[.func i k l] 127 (0,0)))(z:w.heap[h]?=some (.cells #[.func (.func 76) #[.pointer (some ⟨R,0,none⟩)] #[]] 162 (0,0)))(s:∀b,Fr (fun _=>False) w b→Calls prog 76 #[.pointer (some ⟨R,0,none⟩),.agg #[.int .i64 id,.int .i64 r]] b fun e n=>e= .returned (.bool true)∧Q n):Calls prog 115 #[.agg (mJ id r).toArray,.pointer (some ⟨g,0,none⟩),.pointer (some ⟨h,0,none⟩)] w fun e b=>e= .returned (.bool true)∧Q b:=by
 have o:=dM id r;have d:(mJ id r).length=128:=bX 3 _ o 4 (by omega);have p:∀W,Fr (fun _=>False) w W→Calls prog 116 #[.agg (mJ id r).toArray,.func i k l,.func (.func 76) #[.pointer (some ⟨R,0,none⟩)] #[]] W fun e b=>e= .returned (.bool true)∧Q b:=fun W A=>sq id r m x (fun b q=>s b (A.trans q fI));obtain⟨blk,B⟩:=aw (mJ id r);rw[←B.out]at d p⊢;have c:=aa w (.cells blk.toArray 130);have a:Fr (fun _=>False) w (w.alloc (.cells blk.toArray 130)):=(Fr.refl _ _).alloc _;have t:(w.alloc (.cells blk.toArray 130)).rangeAt w.heap.size 0 blk:=fun j v C=>(Cn _ _ (0+j) _ _ _ c).trans (by simpa using C);have c3:(w.alloc (.cells blk.toArray 130)).cell? ⟨g,0,none⟩=some (.func i k l):=(Cn _ _ 0 _ _ _ (a.keep y jI)).trans rfl;have c4:(w.alloc (.cells blk.toArray 130)).cell? ⟨h,0,none⟩=some (.func (.func 76) #[.pointer (some ⟨R,0,none⟩)] #[]):=(Cn _ _ 0 _ _ _ (a.keep z jI)).trans rfl;have f:=p _ a;clear p s;go_enter func115,ntmps115;go_wp2_with (first|(refine CC rfl 130 _ rfl w.heap.size 0 ?_ _ _ t underlying130 rfl ?_ ?_;rfl;(rw[aV,d])));refine f.mono ?_;rintro e E ⟨rfl,u⟩;have D:=af u;clear u f c a t c3 c4;go_wp2;go_ret;exact⟨rfl,D.out⟩
def AC(c:List ba)(n d R i:Nat)(W:World):Prop:=∃ev a,aG W R d ((n:Int)-1-bA (c.take i)) ev a∧a.map (·.2)=bh (c.take i)∧(∀b,dc R ev a b→b=R∨R+7≤b)∧R+7≤W.heap.size
theorem Bm{d:List ba}{n e R:Nat}{W:World}(a:W.heap[R]?=some (.cells #[.slice none 0 0,.int .i64 ((n:Int)-1)] 176 (0,0)))(c:R+7≤W.heap.size):AC d n e R 0 W:=by
 refine⟨.slice none 0 0,[],⟨?_,CT _ _ _ _,by simp⟩,by simp[bh],?_,c⟩
 ·simpa[bA]using a
 ·rintro b (h|h|⟨q,f,_⟩)
  ·exact .inl h
  ·cases h
  ·cases f
theorem uz{b:List ba}(h:bE b)(i:Nat):bE (b.take i):=by intro j r a;have c:=(Co.1 a).1;rw[Cy]at c;rw[El (by omega)]at a;have:=h j r a;rwa[EU,show min j i=j from by omega]
theorem sy{rs:List ba}(i:Nat):bA (rs.take i)≤bA rs:=by rw[bA,bA,←CX i rs,CV,Er,CX];omega
theorem vw{α:Type}{a:List α}{i:Nat}{p:α}(b:a[i]?=some p):a.take (i+1)=a.take i++[p]:=by rw[D1,b];rfl
theorem B3{c:List ba}{n F R i:Nat}{r:List Value}{W:World}(n8:8≤n)(a5:n≤400)(a6:bA c≤n-1)(G:bE c)(a7:F≤R)(hr:(c.map ba.bytes)[i]?=some r)(O:AC c n F R i W)(h3:W.heap[R+2]?=some (.cells #[.func (.func 63) #[.pointer (some ⟨R,0,none⟩)] #[]] 127 (0,0)))(h4:W.heap[R+3]?=some (.cells #[.func (.func 76) #[.pointer (some ⟨R,0,none⟩)] #[]] 162 (0,0))):Calls prog 115 #[.agg r.toArray,.pointer (some ⟨R+2,0,none⟩),.pointer (some ⟨R+3,0,none⟩)] W fun e D=>e= .returned (.bool true)∧AC c n F R (i+1) D∧Fr (fun b=>b=R∨R+7≤b) W D:=by
 rw[CK]at hr;obtain⟨p,hp,rfl⟩:=Do.1 hr;obtain⟨ev,E,H,t,hF,a8⟩:=O;have I:=G i p hp;have P:=gH (uz G i);have j:=vw hp;have J:=sy (rs:=c) (i+1);rw[j,dr]at J;have a9:E.length=(bh (c.take i)).length:=by rw[←t,CR]
 have aa:=P.ln;have K:=gq t P.so;have u:=fun b hb=>hF b (.inr (.inl hb));cases p with
 |take id st=>
  obtain⟨o,S⟩:=I;obtain⟨_,_,_,h6,h8⟩:=cZ id st o;have v:∀q∈E,q.2.id≠(id:Int):=fun q x=>S q.2 (cy t x);refine(vM (Q:=fun d=>AC c n F R (i+1) d∧Fr (fun b=>b=R∨R+7≤b) W d) id st o h3 h4 (fun D f=>?_)).mono (fun e D h=>h);have l:=H.frz f;obtain⟨t1,t2,t3⟩:=jo l;have L:=f.size;have a4:bA (c.take i)+2*st.length≤bA c:=J;refine(tV l K (by omega) (id:Int) st h6 v (by omega) (by omega) (by omega) t1 t2 t3).mono ?_;rintro e d ⟨g,T,rfl,C,ab,k,U⟩;refine⟨rfl,⟨T,jp (g,bS id st) E,?_,?_,?_,by have:=k.size;omega⟩,?_⟩
  ·have V:(n:Int)-1-(bA (c.take (i+1)):Nat)=(n:Int)-1-(bA (c.take i):Nat)-2*st.length:=by rw[j,dr];show(n:Int)-1-((bA (c.take i)+2*st.length:Nat):Int)=_;push_cast;omega
   rw[V];exact C
  ·rw[qW,t,j,dw];rfl
  ·rintro b (h|h|⟨q,x,rfl⟩)
   ·exact .inl h
   ·rcases U b h with h|h
    ·exact u b h
    ·exact .inr (by omega)
   ·have M:q=(g,bS id st)∨q∈E:=by
     simp only[jp,Cv,CF]at x;rcases x with s|s|s
     ·exact .inr (Fm _ s)
     ·exact .inl s
     ·exact .inr (Fo _ s)
    rcases M with rfl|X
    ·exact .inr (by show R+7≤g;omega)
    ·exact hF _ (.inr (.inr ⟨q,X,rfl⟩))
  ·exact(f.mono (fun _ _ h=>h.elim)).trans k (fun b _ h=>by
    rcases h with h|h
    ·exact .inl h
    ·exact u b h)
 |move id m=>
  obtain⟨Y,Z,a,ha,N,a0,a1⟩:=I;refine(rh (Q:=fun d=>AC c n F R (i+1) d∧Fr (fun b=>b=R∨R+7≤b) W d) id m Z Y h3 h4 (fun D f=>?_)).mono (fun e D h=>h);have l:=H.frz f;have L:=f.size;rw[←t]at ha;obtain⟨q,x,rfl⟩:=Cx.1 ha;rw[←N];refine(pJ l K (by omega) (ck:=0) (fun z hz=>(P.ok z.2 (cy t hz)).1) x (m:Int) a0 a1).mono ?_;rintro e d ⟨rfl,C,k⟩;have a2:=hF q.1 (.inr (.inr ⟨q,x,rfl⟩));refine⟨rfl,⟨ev,eU E q.2.id (·.go m),?_,?_,?_,by have:=k.size;omega⟩,?_⟩
  ·have V:bA (c.take (i+1))=bA (c.take i):=by rw[j,dr];rfl
   rw[V];exact C
  ·rw[pH,t,j,dw,N];rfl
  ·rintro b (h|h|⟨z,hz,rfl⟩)
   ·exact .inl h
   ·exact u b h
   ·have s:z.1∈(eU E q.2.id (·.go m)).map (·.1):=Cx.2 ⟨z,hz,rfl⟩;rw[qT]at s;obtain⟨y,hy,a3⟩:=Cx.1 s;exact hF _ (.inr (.inr ⟨y,hy,a3.symm⟩))
  ·exact(f.mono (fun _ _ h=>h.elim)).trans k (fun b _ h=>by rw[h];exact a2)
section
variable{w:World}{A B n Pp:Nat}{calls writes:Int}
theorem sI{p:Int}{Q:Ending→World→Prop}(h:Calls prog 46 #[.iface 31 (.pointer (some ⟨A,0,none⟩)),.int .i64 p,.func (.func 120) #[] #[]] w fun e a=>∃x v,e= .returned (.tuple #[x,v])∧Q e a):Calls prog 83 #[.pointer (some ⟨A,0,none⟩),.int .i64 p] w Q:=by have b:=re;go_enter func83,ntmps83;go_wp2_with fail;refine h.mono ?_;rintro e a ⟨x,v,rfl,c⟩;go_wp2;exact c
def xA:Value:= .func (.func 120) #[] #[]
end
def jY:rT xA where
 σ:=Unit
 PA:=fun _ F _=>∀b,¬F b
 sz:=fun _=>0
 ask:=fun _ _=>(1,())
 fr:=fun h _ _=>h
 ty:=fun h a=>absurd a (h _)
 le:=fun _ _=>by decide
 szs:=fun _ _=>by decide
 rep:=by
  intro F w s X J R clock pause c h _ d
  refine(pZ c d).mono ?_
  rintro e g ⟨rfl,f⟩
  exact⟨rfl,f.mono (fun _ _ h=>h.elim),fun _=>False,fun _ h=>h,fun _ h=>h.elim⟩
end Go.Proofs.YteebjgfalllbjaaGreatDoor
