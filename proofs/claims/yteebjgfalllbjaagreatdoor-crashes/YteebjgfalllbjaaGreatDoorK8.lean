import Derived.Test.YteebjgfalllbjaaGreatDoorK3
import Derived.Test.YteebjgfalllbjaaGreatDoorK7
namespace Go.Proofs.YteebjgfalllbjaaGreatDoor
open Go.RowKit Go.Proofs.Tryz
def eR:ST:=⟨0,0,0,0,0,0⟩
theorem mm(w:World):(binOp .eql 42 (.agg #[.int .i64 0,.int .i64 0,.int .i64 0,.int .i64 0,.int .i64 0,.int .i64 0]) (.agg #[.int .i64 0,.int .i64 0,.int .i64 0,.int .i64 0,.int .i64 0,.int .i64 0])).run prog w= .ok (.bool true) w:=by kernel_rfl
theorem bL{L:List RS}(g:L.Pairwise (fun a b=>a.id<b.id)){id:Int}{k:Nat}{t:Bool}(h:fM L id k t):(t=true→∃r,L[k]?=some r∧r.id=id)∧(t=false→∀r∈L,r.id≠id):=by
 refine⟨h.2.2.2.1,fun i r l e=>?_⟩;obtain⟨j,f,rfl⟩:=DZ.1 l;by_cases c:j<k
 ·have:=h.2.1 j _ c (Cp f);omega
 ·have d:k<L.length:=by omega
  have n:=h.2.2.1 _ (Cp d);have:L[k].id=id:=by
   by_cases m:k=j
   ·subst m;exact e
   ·have:=(D7.1 g) k j d f (by omega);omega
  have:=h.2.2.2.2 ⟨L[k],Cp d,this⟩;rw[i]at this;cases this
theorem ex{L:List RS}(f:L.Pairwise (fun a b=>a.id<b.id)){i j:Nat}{a b:RS}(g:L[i]?=some a)(k:L[j]?=some b)(e:a.id=b.id):a=b:=by
 obtain⟨hi,rfl⟩:=Co.1 g;obtain⟨c,rfl⟩:=Co.1 k;have d:=D7.1 f;rcases EJ i j with h|h|h
 ·have:=d i j hi c h;omega
 ·subst h;rfl
 ·have:=d j i c hi h;omega
end Go.Proofs.YteebjgfalllbjaaGreatDoor
