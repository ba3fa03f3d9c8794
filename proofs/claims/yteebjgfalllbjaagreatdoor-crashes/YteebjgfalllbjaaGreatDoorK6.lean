import Derived.Test.YteebjgfalllbjaaGreatDoorK5
namespace Go.Proofs.YteebjgfalllbjaaGreatDoor
open Go.RowKit Go.Proofs.Tryz
set_option maxRecDepth 100000
set_option maxHeartbeats 4000000
theorem jU{w:World}{g:Nat}{l:List SS}{t:TypeId}(h:w.heap[g]?=some (.cells (an l).toArray t (0,0))){i:Nat}{p:SS}(a:l[i]?=some p):w.cell? ⟨g,i*2,none⟩=some (.string p.1)∧w.cell? ⟨g,i*2+1,none⟩=some (.string p.2):=by
 have b:∀x∈l.map dj,x.length=2:=fun x c=>by simp only[Cx]at c;obtain⟨r,_,rfl⟩:=c;rfl
 have d:=iY 2 (l.map dj) b i (dj p) (by simp[a]) 0 (.string p.1) rfl;have e:=iY 2 (l.map dj) b i (dj p) (by simp[a]) 1 (.string p.2) rfl;exact⟨by rw[Cn w g _ _ _ _ h];simpa[an]using d,by rw[Cn w g _ _ _ _ h];simpa[an]using e⟩
def lZ:SS:=(tG,tG)
theorem zz(g n:Nat)(W:World):(Instr.sliceAt 38 (.slice (some ⟨g,0,none⟩) n (n+2)) none (some (.int .i64 ((n:Int)+2))) none).run prog W= .ok (.slice (some ⟨g,0,none⟩) (n+2) (n+2)) W:=by
 have a:prog.underlying 38=some (.slice (prog.elem 38)):=by kernel_rfl
 have b:(sizeOf (prog.elem 38)).run prog W= .ok 2 W:=by kernel_rfl
 rw[Fh W 38 _ _ _ _ a,run_slice_h W 38 _ n (n+2) a .i64 _ (by omega) (by omega),b];have:((n:Int)+2).toNat=n+2:=by omega
 simp[sliced,this,Addr.add]
def Af(g:Nat)(w:World)(e:Ending)(a:World):Prop:=e= .returned (.bool true)∧Fr (· =g) w a
theorem mS{w:World}{A:Option Addr}{s g:Nat}{st:List SS}(B:aY w A 2 (st.map dj))(T:st.length≤1000000)(o:w.heap[g]?=some (.cells (an (st++[eX,eX])).toArray 58 (0,0))):Calls prog 124 #[.slice (some ⟨g,0,none⟩) st.length (st.length+2),.slice A st.length s] w fun e J=>Af g w e J:=by
 have C:=af B;have t:=af o;have L:w.cell? ⟨g,st.length*2,none⟩=some (.string iX):=(jU o (i:=st.length) (p:=eX) (by simp)).1;have M:w.cell? ⟨g,(st.length+1)*2,none⟩=some (.string iX):=(jU o (i:=st.length+1) (p:=eX) (by simp)).1;have N:iX.toList=[98,101,121,111,110,100]:=by rw[FC];rfl
 have hcut:=zz g st.length;have O:¬(st.length:Int)+2<0:=by omega
 have P:(st.length:Int)<(st.length:Int)+2:=by omega
 have u:(st.length:Int)+1<(st.length:Int)+2:=by omega
 clear B o;go_enter func124,ntmps124;go_wp2_with (refine aR 38 _ _ _ _ rfl rfl (by exact hcut _) ?_);clear L M N hcut u;go_loopw [7,8] (fun q c wr=>∃i:Nat,i≤st.length∧q= .bool true∧c= .int .i64 i∧Hid (Fr (fun _=>False) w wr)) (fun _ c _=>st.length-(intOf c).toNat);case atStart=>exact⟨0,CH _,rfl,rfl,Fr.refl _ _⟩
 case round=>
  obtain⟨i,hi,rfl,rfl,f⟩:=hrel;by_cases k:i<st.length
  ·have l:(i:Int)<st.length:=by omega
   have D:(i:Int)<(st.length:Int)+2:=by omega
   obtain⟨p,v⟩:∃p,st[i]?=some p:=⟨_,Cp k⟩;obtain⟨Q,off,rfl,x⟩:=C.out i (dj p) (by simp[v]);have c0:wr.cell? ⟨Q,off+i*2,none⟩=some (.string p.1):=f.out.cell (x 0 _ rfl) jI;have c1:=f.out.cell (x 1 _ rfl) jI;obtain⟨d0,U⟩:=jU (f.out.keep t.out jI) (i:=i) (p:=p) (by rw[CI k];exact v);clear x v;go_wp2;refine E5 (by kernel_rfl) (by kernel_rfl) (Bx.out ?_);repeat(refine bu (fun K E=>?_);go_simp;refine E _ ?_;clear E K)
   refine bI ?_;go_wp2;go_roundw;case rel=>exact⟨i+1,by omega,rfl,by go_num,f.out.drew⟩
   case measure=>simp[intOf];omega
  ·have l:¬(i:Int)<st.length:=by omega
   have R:Hid (wr.heap[g]?=some (.cells (an (List.replicate 0 lZ++(st++[eX,eX]).drop 0)).toArray 58 (0,0))∧Fr (· =g) w wr):=⟨by simpa using f.out.keep t.out jI,f.out.mono (fun _ _ h=>h.elim)⟩;clear f C t;go_wp2;go_loopw [9] (fun c F=>∃j:Nat,j≤st.length+2∧c= .int .i64 j∧Hid (F.heap[g]?=some (.cells (an (List.replicate j lZ++(st++[eX,eX]).drop j)).toArray 58 (0,0))∧Fr (· =g) w F)) (fun c _=>st.length+2-(intOf c).toNat);case atStart=>exact⟨0,CH _,rfl,R⟩
   case round=>
    obtain⟨j,V,rfl,y⟩:=hrel;by_cases G:j<st.length+2
    ·have m:(j:Int)<(st.length:Int)+2:=by omega
     obtain⟨q,r⟩:∃q,(st++[eX,eX])[j]?=some q:=⟨_,Cp (by simp;omega)⟩;have a:=y.out.1;have H:(st++[eX,eX]).drop j=q::(st++[eX,eX]).drop (j+1):=by rw[Dk (by simp;omega)];rw[Cp (by simp;omega)]at r;simp only[Cu]at r;rw[r]
     rw[H]at a;have n:=dV (i:=j) lZ a (by simp);have b:=CA wr g _ (an (List.replicate j lZ++lZ::(st++[eX,eX]).drop (j+1))).toArray 58 (0,0) a;have I:List.replicate j lZ++lZ::(st++[eX,eX]).drop (j+1)=List.replicate (j+1) lZ++(st++[eX,eX]).drop (j+1):=by rw[List.replicate_succ'];simp
     obtain⟨z,d⟩:=aw (wr.setRow g (an (List.replicate j lZ++lZ::(st++[eX,eX]).drop (j+1))).toArray);have S:Hid (z.heap[g]?=some (.cells (an (List.replicate (j+1) lZ++(st++[eX,eX]).drop (j+1))).toArray 58 (0,0))∧Fr (· =g) w z):=⟨by rw[d.out,b,I],by rw[d.out];exact y.out.2.setRow _ (fun _=>rfl) _⟩;rw[←d.out]at n;clear a b I d r H;go_wp2_with (refine ae 58 (w':=z) _ _ rfl rfl ?_ ?_;exact n);go_roundw;case rel=>exact⟨j+1,by omega,by go_num,S⟩
     case measure=>simp[intOf];omega
    ·have m:¬(j:Int)<(st.length:Int)+2:=by omega
     go_wp2;go_ret;exact⟨rfl,y.out.2⟩
def lc(A Pp n:Nat)(nn:Bool)(x:Value)(pause clock:Int)(Lv:Value):Array Value:=#[.pointer (some ⟨A,0,none⟩),.pointer (some ⟨Pp,0,none⟩),.int .i64 n,.bool nn,.bool false,x,.int .i64 pause,.int .i64 clock,.bool false,Lv]
def Bg(w:World)(D A Pp n:Nat)(nn:Bool)(x:Value)(pause clock:Int)(Lv:Value):Prop:=w.heap[D]?=some (.cells (lc A Pp n nn x pause clock Lv) 111 (0,0))
def Ac(w:World)(Pp:Nat)(l:Value):Prop:=w.heap[Pp]?=some (.cells #[.slice none 0 0,.slice none 0 0,l,.int .i64 0] 48 (0,0))
structure ST where
 id:Int
 state:Int
 step:Int
 steps:Int
 tries:Int
 due:Int
def ST.cs(s:ST):List Value:=[.int .i64 s.id,.int .i64 s.state,.int .i64 s.step,.int .i64 s.steps,.int .i64 s.tries,.int .i64 s.due]
def RS.st'(r:RS):ST:=⟨r.id,r.S.1,r.S.2,r.st.length,r.tries,r.due⟩
end Go.Proofs.YteebjgfalllbjaaGreatDoor
