import Derived.Test.YteebjgfalllbjaaGreatDoorK18
import Derived.Test.YteebjgfalllbjaaGreatDoorK21
namespace Go.Proofs.YteebjgfalllbjaaGreatDoor
open Go.RowKit Go.Proofs.Tryz
set_option maxRecDepth 100000
set_option maxHeartbeats 4000000
def CL.same(e c:CL):Bool:=decide (e.saga=c.saga∧e.step=c.step∧e.back=c.back)
def js(l:List CL):List Value:=(l.map CL.cs).flatten
theorem xy(l:List CL):(js l).length=l.length*4:=by
 induction l with
 |nil=>rfl
 |cons a l b=>simp[js,CL.cs]at b⊢;omega
theorem gG:(prog.info? 50).map (·.size)=some 4:=by kernel_rfl
theorem yb{w:World}{E:Nat}(c:CL){lg l:Value}{F:Option Addr}{A:Nat}{at':Int}{a:List CL}(h:w.heap[E]?=some (.cells #[lg,.slice F a.length A,l,.int .i64 at'] 48 (0,0)))(K:aY w F 4 (a.map CL.cs))(U:a.length≤20000000):Calls prog 77 #[.pointer (some ⟨E,0,none⟩),.agg c.cs.toArray] w fun e Q=>e= .returned (.bool (a.any (·.same c)))∧Fr (fun _=>False) w Q:=by
 obtain⟨f,k,d,o⟩:=c;obtain⟨W,B⟩:=aw (w.alloc (.cells #[.int .i64 f,.int .i64 k,.bool d,.string o] 50));have u:=j9 B;have r:W.heap[w.heap.size]?=some (.cells #[.int .i64 f,.int .i64 k,.bool d,.string o] 50 (0,0)):=by rw[B.out];exact aa _ _
 have c1:(w.alloc (.cells #[.int .i64 f,.int .i64 k,.bool d,.string o] 50)).cell? ⟨E,1,none⟩=some (.slice F a.length A):=by rw[←B.out];exact(Cn W E 1 _ _ _ (u.keep h jI)).trans rfl
 have s:Hid (Fr (fun _=>False) w W∧W.heap[w.heap.size]?=some (.cells #[.int .i64 f,.int .i64 k,.bool d,.string o] 50 (0,0))∧aY w F 4 (a.map CL.cs)):=⟨u,r,K⟩;clear u r K h;unfold CL.cs;go_enter func77,ntmps77;go_wp2;rw[←B.out]at*
 clear B;go_loopw [12] (fun c wr=>∃i:Nat,i≤a.length∧c= .int .i64 i∧Hid (Fr (fun _=>False) W wr∧(a.take i).any (·.same ⟨f,k,d,o⟩)=false)) (fun c _=>a.length-(intOf c).toNat);case atStart=>exact⟨0,CH _,rfl,Fr.refl _ _,rfl⟩
 case round=>
  obtain⟨i,hi,rfl,n⟩:=hrel;by_cases G:i<a.length
  ·have L:(i:Int)<a.length:=by omega
   obtain⟨p,H⟩:∃p,a[i]?=some p:=⟨_,Cp G⟩;obtain⟨g,off,rfl,M⟩:=s.out.2.2 i p.cs (by simp[H]);have C:=s.out.1.trans n.out.1 fI;have m:wr.rangeAt g (off+i*4) p.cs:=fun j v R=>C.cell (M j v R) jI;obtain⟨x,y,t,z⟩:=p;have D:=n.out.1.keep s.out.2.1 jI;have q:Fr (fun _=>False) W (wr.alloc (.cells #[.int .i64 x,.int .i64 y,.bool t,.string z] 50)):=n.out.1.alloc _;have V:(wr.alloc (.cells #[.int .i64 x,.int .i64 y,.bool t,.string z] 50)).cell? ⟨w.heap.size,0,none⟩=some (.int .i64 f):=(Cn _ _ 0 _ _ _ (q.keep s.out.2.1 jI)).trans rfl;have X:(wr.alloc (.cells #[.int .i64 x,.int .i64 y,.bool t,.string z] 50)).cell? ⟨w.heap.size,1,none⟩=some (.int .i64 k):=(Cn _ _ 1 _ _ _ (q.keep s.out.2.1 jI)).trans rfl;have Y:(wr.alloc (.cells #[.int .i64 x,.int .i64 y,.bool t,.string z] 50)).cell? ⟨w.heap.size,2,none⟩=some (.bool d):=(Cn _ _ 2 _ _ _ (q.keep s.out.2.1 jI)).trans rfl;have N:=af H;clear H M C D q;unfold CL.cs at m;have I:Hid (∀b,CL.same ⟨x,y,t,z⟩ ⟨f,k,d,o⟩=b→(a.take (i+1)).any (·.same ⟨f,k,d,o⟩)=b):=fun b D=>by rw[D1,N.out,List.any_append,n.out.2];simp[D]
   have S:Hid (CL.same ⟨x,y,t,z⟩ ⟨f,k,d,o⟩=true→a.any (·.same ⟨f,k,d,o⟩)=true):=fun D=>List.any_eq_true.2 ⟨_,Cq N.out,D⟩;by_cases O:x=f
   ·subst O;by_cases P:y=k
    ·subst P;by_cases J:t=d
     ·subst J;go_wp2_with (first|(refine CC rfl 50 _ rfl g (off+i*4) ?_ _ _ m underlying50 rfl ?_ ?_;rfl;exact gG));go_ret;refine⟨?_,(s.out.1.trans n.out.1 fI).alloc _⟩;rw[S.out (by simp[CL.same])];rfl
     ·have T:(t==d)=false:=by simpa using J
      go_wp2_with (first|(refine CC rfl 50 _ rfl g (off+i*4) ?_ _ _ m underlying50 rfl ?_ ?_;rfl;exact gG));go_roundw;case rel=>exact⟨i+1,by omega,by go_num,n.out.1.alloc _,I.out _ (by simp[CL.same,J])⟩
      case measure=>simp[intOf];omega
    ·go_wp2_with (first|(refine CC rfl 50 _ rfl g (off+i*4) ?_ _ _ m underlying50 rfl ?_ ?_;rfl;exact gG));go_roundw;case rel=>exact⟨i+1,by omega,by go_num,n.out.1.alloc _,I.out _ (by simp[CL.same,P])⟩
     case measure=>simp[intOf];omega
   ·go_wp2_with (first|(refine CC rfl 50 _ rfl g (off+i*4) ?_ _ _ m underlying50 rfl ?_ ?_;rfl;exact gG));go_roundw;case rel=>exact⟨i+1,by omega,by go_num,n.out.1.alloc _,I.out _ (by simp[CL.same,O])⟩
    case measure=>simp[intOf];omega
  ·go_wp2;go_ret;refine⟨?_,s.out.1.trans n.out.1 fI⟩;have e:=n.out.2;rw[CO (by omega)]at e;rw[e];rfl
def RS.turn(r:RS)(reply:Int)(M:Nat):RS:={r with S:=r.next reply,tries:=0,due:=0,ma:=some ⟨M,0,none⟩,mc:=1,may:=[r.next reply]}
theorem gM{w:World}{g:Nat}{cs:List Value}{r:RS}{t:TypeId}(a:w.heap[g]?=some (.cells cs.toArray t (0,0)))(b:cs.length=7):(Instr.storeAt 223 (.pointer (some ⟨g,0,none⟩)) (.agg r.cs.toArray)).run prog w= .ok () (w.setRow g r.cs.toArray):=by have:=au (P:=prog) (o:=0) (ty:=223) (vs:=r.cs) a (by rw[r.len];omega) r.one (by rw[ky,r.len]);rwa[show splice cs 0 r.cs=r.cs from by simp[splice,r.len,b]]at this
theorem rz(L:List RS)(i:Nat)(a:RS)(hi:i<L.length):az (L.set i a)=splice (az L) (i*7) a.cs:=by obtain⟨b,_⟩:=fk L i (by omega);obtain⟨_,c⟩:=fk L (i+1) (by omega);rw[splice,b,a.len,show i*7+7=(i+1)*7 from by omega,c,Fb,CE hi,de];simp[az]
theorem jF{w:World}{f g d:Nat}{L:List RS}{i:Nat}(c:RS)(h:w.ownsRow f 223 7 (.slice (some ⟨g,0,none⟩) L.length d) L.length (az L))(hi:i<L.length):∃m,(Instr.storeAt 223 (.pointer (some ⟨g,i*7,none⟩)) (.agg c.cs.toArray)).run prog w= .ok () m∧m.ownsRow f 223 7 (.slice (some ⟨g,0,none⟩) L.length d) L.length (az (L.set i c))∧Fr (fun b=>b=g) w m:=by
 rcases h.2 with⟨k,_⟩|⟨x,s,a,k,u,t,n,p,q,j⟩
 ·simp at k
 ·simp only[DW,Cu,Ec,ER,FK]at k;obtain⟨rfl,rfl⟩:=k;obtain⟨a⟩:=a;have v:a.length=d*7:=by simpa using q
  have r:=au (P:=prog) (o:=i*7) (ty:=223) (vs:=c.cs) t (by rw[c.len];omega) c.one (by rw[ky,c.len]);refine⟨_,r,⟨by rw[er,DV],.inr ⟨g,d,(splice a (i*7) c.cs).toArray,rfl,u,CA _ _ _ _ _ _ t,n,p,?_,?_⟩⟩,Fr.setRow (S:=fun b=>b=g) (Fr.refl _ _) _ (fun _=>rfl) _⟩
  ·rw[Df];simp only[splice,Cr,Cy,Dx,c.len];omega
  ·have e:a.take (L.length*7)=az L:=by simpa using j
   rw[rz L i c hi,←e];show(splice a (i*7) c.cs).take (L.length*7)=splice (a.take (L.length*7)) (i*7) c.cs;simp only[splice,c.len];rw[Fp,Fp,EU,EU,Cy,c.len,List.drop_take];rw[show min (L.length*7) (i*7)=i*7 from by omega,show min (i*7) (L.length*7)=i*7 from by omega,show min (i*7) a.length=i*7 from by omega];rw[CO (l:=c.cs) (by rw[c.len];omega),show L.length*7-i*7-7=L.length*7-(i*7+7) from by omega]
end Go.Proofs.YteebjgfalllbjaaGreatDoor
