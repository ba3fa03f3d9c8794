import Derived.Test.YteebjgfalllbjaaGreatDoorCLnLpOwn
import Derived.Test.YteebjgfalllbjaaGreatDoorCRjLsLk
namespace Go.Proofs.YteebjgfalllbjaaGreatDoor
open Go.RowKit

theorem own_fr {S : Nat → Prop} {w w' : World} {base e size n : Nat} {v : Value} {xs : List Value} (h : w.ownsRow base e size v n xs) (hf : Fr S w w') (hS : ∀ b c, w.heap[b]? = some (.cells c e (0, 0)) → v.ownBlock = some b → ¬ S b) : w'.ownsRow base e size v n xs := by
 refine ⟨h.1, ?_⟩
 rcases h.2 with hn | ⟨g, cap, cur, rfl, hb, hg, rest⟩
 ·exact .inl hn
 ·exact .inr ⟨g, cap, cur, rfl, hb, hf.keep hg (hS g cur hg rfl), rest⟩

structure WI (w : World) (b0 W0 : Nat) (kv rv sv dv fv : Value) (k r st m : Nat) (kxs rxs sxs : List Value) (ds : List Nat) (fxs : List Value) : Prop where
 hw : w.heap[W0]? = some (.cells #[kv, rv, sv, dv, fv] 80 (0, 0))
 hk : w.ownsRow b0 3 1 kv k kxs
 hr : w.ownsRow b0 3 1 rv r rxs
 hs : w.ownsRow b0 165 2 sv st sxs
 hd : w.ownsRow b0 105 1 dv m (ds.map fun D => Value.pointer (some ⟨D, 0, none⟩))
 hf : w.ownsRow b0 4 1 fv m fxs
 ne : ∀ b, kv.ownBlock = some b → rv.ownBlock ≠ some b
 ro : ∀ v ∈ rxs, v.oneCell' = true
 so : ∀ v ∈ sxs, v.oneCell' = true
 w0 : b0 ≤ W0
section
variable {w w' : World} {b0 W0 : Nat} {kv rv sv dv fv : Value} {k r st m : Nat} {kxs rxs sxs : List Value} {ds : List Nat} {fxs : List Value}
end

structure DR where
 D : Nat
 A : Nat
 B : Nat
 Pp : Nat
 n : Nat
 nn : Bool
 x : Option Addr
 pause : Int
 clock : Int
 Lv : Value
 L : List RS
 F : Nat → Prop
 fl : Bool
structure AS where
 id : Int
 st : List SS
 S : SP
 tries : Int
 due : Int
def RS.a (r : RS) : AS := ⟨r.id, r.st, r.S, r.tries, r.due⟩
structure DK where
 A : Nat
 B : Nat
 Pp : Nat
 n : Nat
 nn : Bool
 x : Option Addr
 pause : Int
 clock : Int
 L : List AS
 F : Nat → Prop
 fl : Bool
def DR.k (q : DR) : DK := ⟨q.A, q.B, q.Pp, q.n, q.nn, q.x, q.pause, q.clock, q.L.map RS.a, q.F, q.fl⟩
def EngT (t : TypeId) : Prop := t ≠ 80 ∧ t ≠ 165 ∧ t ≠ 105 ∧ t ≠ 4 ∧ t ≠ 111 ∧ t ≠ 96 ∧ t ≠ 97 ∧ t ≠ 48 ∧ t ≠ 223 ∧ t ≠ 220 ∧ t ≠ 58 ∧ t ≠ 119 ∧ t ≠ 74
def RlOk (rl : List Int) : Prop := rl.length ≤ 100000 ∧ ∀ z ∈ rl, -9223372036854775808 ≤ z ∧ z ≤ 9223372036854775807
structure Prg where
 Dev : World → Nat → DK → List Value → Prop
 fr : ∀ {S : Nat → Prop} {w w' : World} {s : Nat} {q : DK} {bs : List Value}, Dev w s q bs → Fr S w w' → ¬ S q.A → ¬ S q.B → ¬ S q.Pp → (∀ b, q.F b → ¬ S b) → Dev w' s q bs
 mono : ∀ {w : World} {s s' : Nat} {q : DK} {bs : List Value}, Dev w s q bs → s ≤ s' → Dev w s' q bs
 new : ∀ {w : World} {A B Pp n s b1 : Nat} {F : Nat → Prop} {lv : Value} {rl : List Int}, w.heap[Pp]? = some (.cells #[.slice none 0 0, .slice none 0 0, lv, .int .i64 0] 48 (0, 0)) → w.ownsRow b1 3 1 lv rl.length (rl.map fun x => Value.int .i64 x) → b1 ≤ w.heap.size → RlOk rl → (∀ b, lv.ownBlock = some b → F b) → Dev w s ⟨A, B, Pp, n, true, none, 0, 0, [], F, false⟩ (List.replicate (n * 128) (.int .u8 0))
def DevI (G : Prg) (w : World) (s : Nat) (k : DK) : Prop := ∃ calls writes bs, DiskAt w k.A k.B k.n (.slice none 0 0) calls writes ∧ RowsAt w k.B k.n bs ∧ 0 ≤ calls ∧ calls ≤ 1000 * (s : Int) ∧ 0 ≤ writes ∧ writes ≤ 1000 * (s : Int) ∧ G.Dev w s k bs
variable {G : Prg}
structure DI (G : Prg) (w : World) (b0 s : Nat) (q : DR) : Prop where
 l : LawAt w q.D q.A q.Pp q.n q.nn (.pointer q.x) q.pause q.clock q.Lv
 p : ∃ lo lm lcap pe pl pa, w.heap[q.Pp]? = some (.cells #[.slice lo lm lcap, pe, pl, pa] 48 (0, 0))
 d : DevI G w s q.k
 a : LAt w b0 q.Lv q.L
 ln : q.L.length ≤ s
 ls : ∀ r ∈ q.L, r.S.1 ≠ 0 ∧ sagaOk r.id r.st = true
 lo : q.L.Pairwise (fun a b => a.id < b.id)
 f : ∀ b, q.F b → b0 ≤ b ∧ ∃ c t, w.heap[b]? = some (.cells c t (0, 0)) ∧ EngT t
 b : b0 ≤ q.D ∧ b0 ≤ q.A ∧ b0 ≤ q.B ∧ b0 ≤ q.Pp
 n : q.n < 1000
def Apart (p q : DR) : Prop := p.D ≠ q.D ∧ p.A ≠ q.A ∧ p.B ≠ q.B ∧ p.Pp ≠ q.Pp ∧ (∀ b, p.F b → ¬ q.F b) ∧ ∀ b, p.Lv.ownBlock = some b → q.Lv.ownBlock ≠ some b
structure PwX (kv rv : Value) (rxs fxs : List Value) (qs : List DR) (fs : List Bool) : Prop where
 pw : qs.Pairwise Apart
 fx : fxs = fs.map Value.bool
 rx : ∃ rl : List Int, rxs = rl.map (fun x => Value.int .i64 x) ∧ RlOk rl
 kr : ∀ q ∈ qs, ∀ b, q.F b → kv.ownBlock ≠ some b ∧ rv.ownBlock ≠ some b
def InvF (G : Prg) (w : World) (b0 W0 s : Nat) (qs : List DR) (fs : List Bool) : Prop := ∃ kv rv sv dv fv k r st kxs rxs sts fxs,
 WI w b0 W0 kv rv sv dv fv k r st qs.length kxs rxs (scells sts) (qs.map DR.D) fxs ∧ sts.length = st ∧ k ≤ s ∧ r ≤ s ∧ st ≤ s ∧ qs.length ≤ s ∧ (∀ q ∈ qs, DI G w b0 s q) ∧ PwX kv rv rxs fxs qs fs
def Inv (G : Prg) (w : World) (b0 W0 s : Nat) (qs : List DR) : Prop := InvF G w b0 W0 s qs (qs.map DR.fl)
theorem frz_below {w w' : World} {b0 : Nat} (hf : Fr (fun _ => False) w w') (hb : b0 ≤ w.heap.size) : Below b0 w w' := hf.below hb (fun _ h => h.elim)

end Go.Proofs.YteebjgfalllbjaaGreatDoor
namespace Go.Proofs.YteebjgfalllbjaaGreatDoor
open Go.RowKit

def AS.zero (a : AS) : AS := ⟨a.id, a.st, a.S, 0, 0⟩
def AS.told (a : AS) : ST := ⟨a.id, a.S.1, a.S.2, a.st.length, a.tries, a.due⟩
def DK.opened (k : DK) (x : Option Addr) (p : Int) (F : Nat → Prop) (f : Bool) : DK := ⟨k.A, k.B, k.Pp, k.n, false, x, p, 0, k.L.map AS.zero, F, f⟩
def DK.with (k : DK) (L : List AS) (F : Nat → Prop) : DK := ⟨k.A, k.B, k.Pp, k.n, k.nn, k.x, k.pause, k.clock, L, F, k.fl⟩
def insA (a : AS) (L : List AS) : List AS := L.takeWhile (fun b => decide (b.id < a.id)) ++ a :: L.dropWhile (fun b => decide (b.id < a.id))
def StatA (L : List AS) (id : Int) (w : World) (e : Ending) (w' : World) : Prop := ∃ s v, e = .returned (.tuple #[.agg s.cs.toArray, v]) ∧ Fr (fun _ => False) w w' ∧ ((∃ a ∈ L, a.id = id ∧ s = a.told ∧ ErrAt w' v 0) ∨ ((∀ a ∈ L, a.id ≠ id) ∧ s = zST ∧ ErrAt w' v 9))
end Go.Proofs.YteebjgfalllbjaaGreatDoor
namespace Go.Proofs.YteebjgfalllbjaaGreatDoor
open Go.RowKit
def RS.moves (r : RS) (reply : Int) : Bool := decide (reply = 0 ∨ (reply = 2 ∧ r.S.1 = 1))
def backS (s2 : Int) : SP := if s2 = 1 then (4, 0) else (2, s2 - 1)
def RS.next (r : RS) (reply : Int) : SP := if r.S.1 = 1 ∧ reply = 0 then (if r.S.2 = r.st.length then (3, 0) else (1, r.S.2 + 1)) else backS r.S.2
set_option maxRecDepth 100000 in
theorem wrap64_id {x : Int} (h : -9223372036854775808 ≤ x ∧ x < 9223372036854775808) : wrap64 x = x := by unfold wrap64; omega
end Go.Proofs.YteebjgfalllbjaaGreatDoor
