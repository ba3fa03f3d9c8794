import Derived.Test.YteebjgfalllbjaaGreatDoorK48
import Derived.Test.YteebjgfalllbjaaGreatDoorK49
import Derived.LaidHandle
import Derived.Stop.Joined
import Derived.Deep.DeepHandedRow
import Derived.OpenShut
namespace Go.Proofs.YteebjgfalllbjaaGreatDoor
open Go.RowKit Go.Proofs.Tryz Go.ChangeShapes Go.WideShapes Go.ChangeAt
set_option maxRecDepth 100000
theorem own:ownKnob prog.godebug=none:=by kernel_rfl
theorem oU:laidOutB prog=true:=by kernel_rfl
theorem et:prog.globalNamed "errors.errorType" =some 0:=by kernel_rfl
theorem rt:(Tryz.prog.cutTypes.find? (·.1== "internal/reflectlite.rtype")).map (·.2)=some 198:=by kernel_rfl
theorem sA:((List.range 310).filter fun t=>prog.rowNamed t [101,114,114,111,114])=[36]:=by kernel_rfl
theorem kC:Tryz.prog.types.size=310:=by kernel_rfl
theorem fF{W:World}(h:laidMetH prog Rows.crashesRow.laid W):cN W:=by
 have a:laidMet prog [("math/bits.deBruijn32tab",Rows.laid_math_bits_deBruijn32tab),("math/bits.deBruijn64tab",Rows.laid_math_bits_deBruijn64tab),("internal/strconv.uint64pow10",Rows.laid_internal_strconv_uint64pow10)] W∧handlesMet prog [("errors.errorType",Rows.laid_errors_errorType)] W:=h;obtain⟨name,u,ty,d,e,f,g,b⟩:=a.2 _ (Db.2 rfl);have i:=(Es d).symm;subst i;obtain rfl:=Es (rt.symm.trans e);have c:ty∈(List.range 310).filter fun t=>prog.rowNamed t [101,114,114,111,114]:=Et.2 ⟨FL.2 (by rw[←kC];exact f),g⟩;rw[sA]at c;obtain rfl:=Db.1 c;have j:typeHandle prog 36= .pointer (some ⟨4,36,none⟩):=by kernel_rfl
 rw[j]at b;exact⟨by simpa using World.var?_cell et b 0,jf a.1⟩
def dy(c:Array Value):Obj→Obj
 | .cells _ t frozen=> .cells c t frozen
 |o=>o
noncomputable def eu(os:Os):World:=
 {World.holding prog os ⟨#[],#[],[]⟩with heap:=((((World.holding prog os ⟨#[],#[],[]⟩).heap.modify 0 (dy #[.iface 198 (.agg #[.pointer (some ⟨4,36,none⟩)])])).modify 1 (dy #[.int .u64 1,.int .u64 10,.int .u64 100,.int .u64 1000,.int .u64 10000,.int .u64 100000,.int .u64 1000000,.int .u64 10000000,.int .u64 100000000,.int .u64 1000000000,.int .u64 10000000000,.int .u64 100000000000,.int .u64 1000000000000,.int .u64 10000000000000,.int .u64 100000000000000,.int .u64 1000000000000000,.int .u64 10000000000000000,.int .u64 100000000000000000,.int .u64 1000000000000000000,.int .u64 10000000000000000000])).modify 2 (dy #[.int .u8 0,.int .u8 1,.int .u8 28,.int .u8 2,.int .u8 29,.int .u8 14,.int .u8 24,.int .u8 3,.int .u8 30,.int .u8 22,.int .u8 20,.int .u8 15,.int .u8 25,.int .u8 17,.int .u8 4,.int .u8 8,.int .u8 31,.int .u8 27,.int .u8 13,.int .u8 23,.int .u8 21,.int .u8 19,.int .u8 16,.int .u8 7,.int .u8 26,.int .u8 12,.int .u8 18,.int .u8 6,.int .u8 11,.int .u8 5,.int .u8 10,.int .u8 9])).modify 3 (dy #[.int .u8 0,.int .u8 1,.int .u8 56,.int .u8 2,.int .u8 57,.int .u8 49,.int .u8 28,.int .u8 3,.int .u8 61,.int .u8 58,.int .u8 42,.int .u8 50,.int .u8 38,.int .u8 29,.int .u8 17,.int .u8 4,.int .u8 62,.int .u8 47,.int .u8 59,.int .u8 36,.int .u8 45,.int .u8 43,.int .u8 51,.int .u8 22,.int .u8 53,.int .u8 39,.int .u8 33,.int .u8 30,.int .u8 24,.int .u8 18,.int .u8 12,.int .u8 5,.int .u8 63,.int .u8 55,.int .u8 48,.int .u8 27,.int .u8 60,.int .u8 41,.int .u8 37,.int .u8 16,.int .u8 46,.int .u8 35,.int .u8 44,.int .u8 21,.int .u8 52,.int .u8 32,.int .u8 23,.int .u8 11,.int .u8 54,.int .u8 26,.int .u8 40,.int .u8 15,.int .u8 34,.int .u8 20,.int .u8 31,.int .u8 10,.int .u8 25,.int .u8 14,.int .u8 19,.int .u8 9,.int .u8 13,.int .u8 8,.int .u8 7,.int .u8 6])}
theorem ms(os:Os):laidMetH prog Rows.crashesRow.laid ((eu os).forCall (fun _ _=>0) ⟨#[],#[.slice none 0 0],[]⟩).memory:=laidMetH_of_parts (laidMet_of_run' 8 (by kernel_rfl) (by kernel_rfl)) (by kernel_rfl)
theorem xB(os:Os){H:Type}(b:TypeId×Value→H):∃a,DataW.whole b prog ((eu os).forCall (fun _ _=>0) ⟨#[],#[.slice none 0 0],[]⟩).memory Tryz.f6.params.toList Rows.crashesSpec.vars false #[Value.slice none 0 0].toList 8=some ([.nil],[],a):=⟨[],by kernel_rfl⟩
theorem lK(H:Type)(f:TypeId×Value→H)(W:World)(g:Nat)(args:Array Value)(B C:List (DataW H))(a:List MemPlace)(b:∀(j:Nat) t v,Tryz.f6.params[j]?=some t→args[j]?=some v→Value.okWide prog W .any g t v)(s:DataW.Whole f prog Tryz.f6.params.toList Rows.crashesSpec.vars false W args.toList B C a)(D:laidMetH prog Rows.crashesRow.laid W):Calls prog 6 args W fun e u=>∃v,e= .returned v∧Rows.crashesSpec.post f prog Tryz.f6 false true false false W args v u:=by
 have c:=s;obtain⟨p,q,i,E,rfl,F,G⟩:=s;have w:=i;rw[Tryz.params6]at w b;obtain⟨y,I,d0,J,p0,O,k,rfl,rfl,z,K⟩:=trodAll_cons w;obtain⟨rfl,rfl,rfl⟩:=trodAll_nil K;obtain rfl:args=#[y]:=by cases args;simp_all
 obtain⟨rfl,rfl⟩:=trodVars_none E;clear i;simp only[D4]at c;obtain⟨P,m,l,rfl,d,n⟩:=qS (b 0 22 y rfl rfl) z;have L:=fF D;have o:=fun x M=>by simpa using c.lt x M
 have r:Rows.crashesSpec.fn H ([d0]++[])={results:=[.lit (.bool true)],args:=[d0]}:=rfl;refine(rk (cap:=m) d n L).mono fun e u ⟨N,A⟩=>?_;subst N;refine⟨_,rfl,[d0],[],p0,[],p0,[],c,?_,?_,?_,A.frame _,fun h=>by cases h⟩
 ·rw[r];exact trodAll_cons_mk (shut_bool underlying4 true) trodAll_mk0
 ·rw[r];simpa using trodAll_cons_mk (Below.trod oU (by kernel_rfl) (Dh (by kernel_rfl)) z A o) trodAll_mk0
 ·rw[r];rfl
theorem sP(os:Os)(a:os.Started)(H:Type)(b:TypeId×Value→H)(F:Stop.Interp):ReturnsInHanded {} Tryz.checked os 6 .any ((OpenSpec.ofChange Rows.crashesSpec).preRow b prog Tryz.f6 Rows.crashesRow.domain false Rows.crashesRow.laid) (((OpenSpec.ofChange Rows.crashesSpec).at F).post b prog Tryz.f6 false true false false):=by obtain⟨f,g⟩:=xB os b;refine returnsInHanded_of_row (C:=Tryz.checked) (s:=OpenSpec.ofChange Rows.crashesSpec) own a (by kernel_rfl) func6 (witness_row_at (enc:=b) (C:=Tryz.checked) false (eu os) #[.slice none 0 0] rfl (by kernel_rfl) (by kernel_rfl) (by kernel_rfl) (OpenSpec.preRow_of_cond 8 g (by kernel_rfl) (fun k h=>by cases h) (by kernel_rfl) (ms os))) ?_;intro W d args i j c e l _ _ _ m _ _;exact lK H b W d args i j c e l m
theorem A9:Rows.CrashesSaid:=OpenClaim.holds_of_cond 6 Tryz.f6 rfl rfl rfl rfl rfl rfl rfl ⟨rfl,rfl,rfl,rfl,rfl⟩ rfl rfl rfl rfl rfl (by kernel_rfl) func6 (by kernel_rfl) (Dh (by kernel_rfl)) (by unfold Func.isWrapper;first|(rw[CE (by decide+kernel)];kernel_rfl)|(rw[Cz (by decide+kernel)];exact⟨rfl,rfl⟩)) (fun os a H b _ F=>by rw[OpenClaim.pre_eq_preRow];exact sP os a H b F)
end Go.Proofs.YteebjgfalllbjaaGreatDoor
