import Derived.Test.YteebjgfalllbjaaGreatDoorK35
namespace Go.Proofs.YteebjgfalllbjaaGreatDoor
open Go.RowKit Go.Proofs.Tryz
set_option maxRecDepth 100000
set_option maxHeartbeats 4000000
def zR(fd:Bool)(L:List RS)(id:Int)(w:World)(e:Ending)(a:World):Prop:=∃s v,e= .returned (.tuple #[.agg s.cs.toArray,v])∧Fr (fun _=>False) w a∧((∃r∈L,r.id=id∧ud fd s r∧bZ a v 0)∨((∀r∈L,r.id=id→tm fd r)∧s=eR∧bZ a v 9))
theorem Ak{w:World}{D A Pp n:Nat}{nn em fd:Bool}{x:Value}{pause clock:Int}{ao:Option Addr}{a2:Nat}{L:List RS}(h:aH w D A Pp n nn em x pause clock fd (.slice ao L.length a2))(hl:cO w ao L)(a3:∀r∈L,r.may.length≤1000000)(hn:L.length≤1000000)(hs:L.Pairwise (fun a b=>a.id<b.id))(hG:cN w)(id:Int)(hE:Calls prog 24 #[x,.int .i64 id] w fun e w'=>zR fd L id w e w'):Calls prog 86 #[.pointer (some ⟨D,0,none⟩),.int .i64 id] w fun e w'=>e= .returned (.bool true)∧Fr (fun _=>False) w w':=by
 have c5:=h.c5;have M:Hid (cO w ao L∧∀r∈L,r.may.length≤1000000):=⟨hl,a3⟩;have HL:=af hl.r;have HD:=af h;have HS:=af hs;clear h hl hs a3;go_enter func86,ntmps86;go_wp2_with fail;refine hE.mono ?_;rintro e R ⟨s,v,rfl,y,U⟩;have a4:=HD.out.fr y jI;have V:=hG.fr y ka;rcases U with⟨r,N,F,a5,J⟩|⟨a6,rfl,J⟩
 ·obtain rfl:v= .nilIface:=by
   rcases J with⟨h,_⟩|⟨_,_,_,_,h⟩
   ·exact h
   ·exact absurd rfl h
  clear hE c5;have E:Hid (r∈L∧r.id=id∧ud fd s r):=⟨N,F,a5⟩;obtain⟨W,O⟩:=aw (R.alloc (.cells #[.int .i64 s.id,.int .i64 s.state,.int .i64 s.step,.int .i64 s.steps,.int .i64 s.tries,.int .i64 s.due] 42));obtain⟨B,X⟩:=aw R.heap.size;have o:Fr (fun _=>False) w W:=by rw[O.out];exact y.alloc _
  have G:W.rangeAt B 0 s.cs:=by rw[O.out,X.out];intro j v J;rw[Cn _ R.heap.size _ _ _ _ (aa R _),D5];simpa[ST.cs]using J
  have ag:Hid (.agg s.cs.toArray=Value.agg #[.int .i64 s.id,.int .i64 s.state,.int .i64 s.step,.int .i64 s.steps,.int .i64 s.tries,.int .i64 s.due]):=rfl;unfold ST.cs;clear F N J a4 V y a5;go_wp2_with fail;rw[←O.out,←X.out];refine(q8 W).mono ?_;rintro e w' ⟨rfl,rfl⟩;go_wp2_with fail;refine(eS 0 _).mono ?_;rintro e w2 ⟨rfl,rfl⟩;have f:=HD.out.fr o jI;have d6:=f.c6;have d7:=f.c7;have d8:=f.c8;have d9:=f.c9;go_wp2_with fail;refine(eK (HL.out.frz o) hn pause clock fd id).mono ?_;rintro e l ⟨k,t,rfl,hp,p⟩;have i:=o.trans p fI;have z:=bL HS.out hp;have ht:t=true:=by
   cases t
   ·exact absurd E.out.2.1 (z.2 rfl r E.out.1)
   ·rfl
  subst ht;obtain⟨r',P,T⟩:=z.1 rfl;obtain⟨j,hj⟩:=E6.1 E.out.1;obtain rfl:r'=r:=ex HS.out P hj (by rw[T,E.out.2.1]);have ad:=(Co.1 P).1;have a7:(k:Int)<L.length:=by omega
  obtain⟨g,off,rfl,H⟩:=HL.out k r'.cs (by simp[P]);obtain⟨s0,s1,s2,s3,s4,s5,s6⟩:=cH (aW H i);have d:=aW G p;have u0:l.cell? ⟨B,0,none⟩=some (.int .i64 s.id):=d 0 _ rfl;have u1:l.cell? ⟨B,1,none⟩=some (.int .i64 s.state):=d 1 _ rfl;have u2:l.cell? ⟨B,2,none⟩=some (.int .i64 s.step):=d 2 _ rfl;have u3:l.cell? ⟨B,3,none⟩=some (.int .i64 s.steps):=d 3 _ rfl;have u4:l.cell? ⟨B,4,none⟩=some (.int .i64 s.tries):=d 4 _ rfl;have u5:l.cell? ⟨B,5,none⟩=some (.int .i64 s.due):=d 5 _ rfl;have Y:=HD.out.fr i jI;have Z:Hid (aH l.drew D A Pp n nn em x pause clock fd (.slice (some ⟨g,off,none⟩) L.length a2)∧Fr (fun _=>False) w l.drew∧Fr (fun _=>False) w l):=⟨Y,i.drew,i⟩;have e9:=Y.c9;clear d H Y i p f o d6 d7 d8 d9 G z hp hj P T O X;go_wp2_with fail;refine wp_region_still_tail 10 (by kernel_rfl) (by kernel_rfl) (Bx.out ?_);simp only[CW,Dc,CQ,D2];repeat(refine bu (fun K hK=>?_);go_simp;refine hK _ ?_;clear hK K)
  refine bI ?_;have HT:=np Z.out.1 s r' ((M.out.1.m r' E.out.1).frz Z.out.2.1) (M.out.2 r' E.out.1) E.out.2.2;unfold ST.cs at HT;go_wp2_with fail;refine HT.mono ?_;rintro e w4 ⟨rfl,c⟩;have I:=af (Z.out.2.1.trans c fI);clear c s0 s1 s2 s3 s4 s5 s6 u0 u1 u2 u3 u4 u5 e9 HT;go_wp2;go_ret;exact⟨rfl,I.out⟩
 ·clear hE c5;have a8:=af a6;obtain⟨W,O⟩:=aw (R.alloc (.cells #[.int .i64 0,.int .i64 0,.int .i64 0,.int .i64 0,.int .i64 0,.int .i64 0] 42));obtain⟨B,X⟩:=aw R.heap.size;have u:=j9 O;have o:=y.trans u fI;have G:W.rangeAt B 0 eR.cs:=by rw[O.out,X.out];intro j v J;rw[Cn _ R.heap.size _ _ _ _ (aa R _),D5];simpa[ST.cs,eR]using J
  have ah:=J.one;have a9:=J.fr u (fun _ _ _ h=>h);have ab:=V.fr u ka;unfold ST.cs eR;clear a6 J a4 V y u;go_wp2_with fail;rw[←O.out,←X.out];refine(mG a9 ab).mono ?_;rintro e w2 ⟨rfl,a0⟩;go_wp2_with fail;refine(eS 9 _).mono ?_;rintro e ai ⟨rfl,rfl⟩;have Q:=o.trans a0 fI;have f:=HD.out.fr Q jI;have d6:=f.c6;have d7:=f.c7;have d8:=f.c8;have d9:=f.c9;go_wp2_with fail;refine(eK (HL.out.frz Q) hn pause clock fd id).mono ?_;rintro e l ⟨k,t,rfl,hp,p⟩;have i:=Q.trans p fI;have z:=bL HS.out hp;have d:=aW (aW G a0) p;have u0:l.cell? ⟨B,0,none⟩=some (.int .i64 0):=d 0 _ rfl;have u1:l.cell? ⟨B,1,none⟩=some (.int .i64 0):=d 1 _ rfl;have u2:l.cell? ⟨B,2,none⟩=some (.int .i64 0):=d 2 _ rfl;have u3:l.cell? ⟨B,3,none⟩=some (.int .i64 0):=d 3 _ rfl;have u4:l.cell? ⟨B,4,none⟩=some (.int .i64 0):=d 4 _ rfl;have u5:l.cell? ⟨B,5,none⟩=some (.int .i64 0):=d 5 _ rfl;have C:=af i;have f8:=(HD.out.fr i jI).c8;have f9:=(HD.out.fr i jI).c9;have a1:=af z;clear d i p f o d6 d7 d8 d9 G z hp Q a0 O X a9 ab;have aj:=mm;cases t with
  |false=>
   clear a1;go_wp2;go_ret;exact⟨rfl,C.out⟩
  |true=>
   obtain⟨r,N,F⟩:=a1.out.1 rfl;have ad:=(Co.1 N).1;have a7:(k:Int)<L.length:=by omega
   obtain⟨g,off,rfl,H⟩:=HL.out k r.cs (by simp[N]);obtain⟨s0,s1,s2,s3,s4,s5,s6⟩:=cH (aW H C.out);have q:=a8.out r (Cq N) F;unfold tm at q;have E:Hid (aY l r.ma 2 (r.may.map wy)∧r.may.length≤1000000):=⟨(M.out.1.m r (Cq N)).frz C.out,M.out.2 r (Cq N)⟩;clear H N F a1 a8;cases fd with
   |true=>
    rw[CE rfl]at q;have hd:=Dg q;by_cases ae:r.S.1=0
    ·rw[ae]at s2;go_wp2_with fail;refine(cY E.out.1 E.out.2 (0,0)).mono ?_;rintro e w4 ⟨rfl,c⟩;rw[hd];have v0:=c.cell u0 jI;have v1:=c.cell u1 jI;have v2:=c.cell u2 jI;have v3:=c.cell u3 jI;have v4:=c.cell u4 jI;have v5:=c.cell u5 jI;have I:=af (C.out.trans c fI);clear c u0 u1 u2 u3 u4 u5 s0 s1 s2 s3 s4 s5 s6 f8 f9 hd q;go_wp2;go_ret;exact⟨rfl,I.out⟩
    ·go_wp2_with fail;refine(cY E.out.1 E.out.2 (0,0)).mono ?_;rintro e w4 ⟨rfl,c⟩;rw[hd];have v0:=c.cell u0 jI;have v1:=c.cell u1 jI;have v2:=c.cell u2 jI;have v3:=c.cell u3 jI;have v4:=c.cell u4 jI;have v5:=c.cell u5 jI;have I:=af (C.out.trans c fI);clear c u0 u1 u2 u3 u4 u5 s0 s1 s2 s3 s4 s5 s6 f8 f9 hd q;go_wp2;go_ret;exact⟨rfl,I.out⟩
   |false=>
    rw[Cz (by simp)]at q;rw[q]at s2;go_wp2;go_ret;exact⟨rfl,C.out⟩
end Go.Proofs.YteebjgfalllbjaaGreatDoor
