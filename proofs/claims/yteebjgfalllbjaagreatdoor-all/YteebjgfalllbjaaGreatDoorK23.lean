import Derived.Test.YteebjgfalllbjaaGreatDoorK22
namespace Go.Proofs.YteebjgfalllbjaaGreatDoor
open Go.RowKit Go.Proofs.Tryz
set_option maxRecDepth 100000
set_option maxHeartbeats 1000000
theorem gN(d:Nat)(a b:SS)(w:World):(Op.equalIn (d+3) 58 (.agg #[.string a.1,.string a.2]) (.agg #[.string b.1,.string b.2])).run prog w= .ok (decide (a=b)) w:=by
 obtain⟨c,f⟩:=a;obtain⟨h,g⟩:=b;rw[run_equalIn_agg]
 ·by_cases i:c=h
  ·subst i;by_cases j:f=g
   ·subst j;go_simp
   ·have k:¬f.toList=g.toList:=by simpa using mV j
    have e:decide ((c,f)=(c,g))=false:=by simp[j]
    rw[e];go_simp
  ·have l:¬c.toList=h.toList:=by simpa using mV i
   have e:decide ((c,f)=(h,g))=false:=by simp[i]
   rw[e];go_simp
 ·kernel_rfl
 ·kernel_rfl
theorem Ck(p0 a b c d e:SS)(w:World):(part 58 (an [p0,a,b,c,d,e]).toArray 0).run prog w= .ok (.agg #[.string p0.1,.string p0.2]) w:=by kernel_rfl
theorem AE(p0 a b c d e:SS)(w:World):(part 58 (an [p0,a,b,c,d,e]).toArray 2).run prog w= .ok (.agg #[.string a.1,.string a.2]) w:=by kernel_rfl
theorem B9(p0 b a c d e:SS)(w:World):(part 58 (an [p0,b,a,c,d,e]).toArray 4).run prog w= .ok (.agg #[.string a.1,.string a.2]) w:=by kernel_rfl
theorem Br(p0 b c a d e:SS)(w:World):(part 58 (an [p0,b,c,a,d,e]).toArray 6).run prog w= .ok (.agg #[.string a.1,.string a.2]) w:=by kernel_rfl
theorem BC(p0 b c d a e:SS)(w:World):(part 58 (an [p0,b,c,d,a,e]).toArray 8).run prog w= .ok (.agg #[.string a.1,.string a.2]) w:=by kernel_rfl
theorem C5(p0 b c d e a:SS)(w:World):(part 58 (an [p0,b,c,d,e,a]).toArray 10).run prog w= .ok (.agg #[.string a.1,.string a.2]) w:=by kernel_rfl
theorem Ao(d:Nat)(p0 a b c e f g h i j k l:SS)(w:World):(Op.equalIn (d+4) 120 (.agg (an [p0,a,b,c,e,f]).toArray) (.agg (an [g,h,i,j,k,l]).toArray)).run prog w= .ok (decide ([p0,a,b,c,e,f]=[g,h,i,j,k,l])) w:=by
 have m:(sizeOf 58).run prog w= .ok 2 w:=by kernel_rfl
 have t:List.range' 0 6=[0,1,2,3,4,5]:=rfl;unfold Op.equalIn;simp only[D9,Fe underlying120,CS,m,Ez,Std.Legacy.Range.size,Nat.sub_zero,FM,Nat.div_one,t,List.forIn_cons,List.forIn_nil,Nat.reduceMul,Ck,gN];by_cases n:p0=g
 ·subst n;by_cases o:a=h
  ·subst o;by_cases p:b=i
   ·subst p;by_cases q:c=j
    ·subst q;by_cases r:e=k
     ·subst r;by_cases s:f=l
      ·subst s;simp[AE,B9,Br,BC,C5,gN]
      ·simp[AE,B9,Br,BC,C5,gN,s]
     ·simp[AE,B9,Br,BC,gN,r]
    ·simp[AE,B9,Br,gN,q]
   ·simp[AE,B9,gN,p]
  ·simp[AE,gN,o]
 ·simp[n]
theorem xt(id:Int)(n m:Nat)(p0 a b c d e f g h i j k:SS)(w:World):(binOp .neq 122 (.agg (av id n [p0,a,b,c,d,e]).toArray) (.agg (av id m [f,g,h,i,j,k]).toArray)).run prog w= .ok (.bool (!decide (n=m∧[p0,a,b,c,d,e]=[f,g,h,i,j,k]))) w:=by
 have r:(Op.equalIn 9999 120 (.agg (List.take 12 (dj p0++(dj a++(dj b++(dj c++(dj d++dj e)))))).toArray) (.agg (List.take 12 (dj f++(dj g++(dj h++(dj i++(dj j++dj k)))))).toArray)).run prog w= .ok (decide ([p0,a,b,c,d,e]=[f,g,h,i,j,k])) w:=Ao 9995 p0 a b c d e f g h i j k w;obtain⟨t,l⟩:∃t,t=decide ([p0,a,b,c,d,e]=[f,g,h,i,j,k]):=⟨_,rfl⟩;have p:decide (n=m∧[p0,a,b,c,d,e]=[f,g,h,i,j,k])=(decide (n=m)&&t):=by rw[l];exact Bool.decide_and _ _
 rw[←l]at r;rw[p,EW,run_equalIn_agg]
 ·clear p l;by_cases o:n=m
  ·subst o;simp only[av,an];go_simp;cases t<;>simp
  ·have q:¬(n:Int)=m:=by omega
   simp only[av,an];go_simp
 ·kernel_rfl
 ·kernel_rfl
theorem vT(id:Int)(a b:List SS)(e:a.length≤6)(f:b.length≤6)(w:World):(binOp .neq 122 (.agg (av id a.length (bz a)).toArray) (.agg (av id b.length (bz b)).toArray)).run prog w= .ok (.bool (decide (¬a=b))) w:=by
 have c:(a.length=b.length∧bz a=bz b)↔a=b:=by
  constructor
  ·rintro⟨g,d⟩;unfold bz at d;exact(List.append_inj d g).1
  ·rintro rfl;exact⟨rfl,rfl⟩
 have i:decide (¬a=b)= !decide (a.length=b.length∧bz a=bz b):=by
  by_cases h:a=b
  ·simp[h]
  ·rw[Dg h,Dl (mt c.1 h)];rfl
 rw[i];have j:=bf a e;have k:=bf b f;match bz a,j,bz b,k with
 |[p0,l,m,n,o,p],_,[q0,q,r,s,t,u],_=>exact xt id a.length b.length p0 l m n o p q0 q r s t u w
end Go.Proofs.YteebjgfalllbjaaGreatDoor
