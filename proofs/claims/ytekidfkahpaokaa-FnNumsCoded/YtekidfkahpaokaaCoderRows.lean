/-
  The bit coder of the specification in memory.
-/
import Derived.Test.YtekidfkahpaokaaCoderPure
import Derived.Test.YtekidfkahpaokaaHeldLast
import Derived.Test.YtekidfkahpaokaaRows
import Derived.Maps.AppendAt
import Derived.Deep.AppendLies
import Derived.Deep.RegionHeld3
namespace Go.Proofs.Ytekidfkahpaokaa
open Go.RowKit

def pCells (L : List Nat) : List Value := L.map fun x : Nat => Value.int .i64 (x : Int)
def bCells (O : List Nat) : List Value := O.reverse.map fun x : Nat => Value.int .u8 (x : Int)
theorem pCells_len (L : List Nat) : (pCells L).length = L.length := by simp [pCells]
theorem bCells_len (O : List Nat) : (bCells O).length = O.length := by simp [bCells]
theorem pCells_at (L : List Nat) (i : Nat) (h : i < L.length) : (pCells L)[i]? = some (.int .i64 ((L.getD i 2048 : Nat) : Int)) := by simp [pCells, h]
theorem pCells_set (L : List Nat) (i x : Nat) : (pCells L).set i (.int .i64 (x : Int)) = pCells (L.set i x) := by simp [pCells, List.map_set]
theorem bCells_at (A r : List Nat) (x : Nat) : (bCells (A ++ x :: r))[r.length]? = some (.int .u8 (x : Int)) := by
  simp [bCells, List.reverse_append]
theorem bCells_set (A r : List Nat) (x y : Nat) : (bCells (A ++ x :: r)).set r.length (.int .u8 (y : Int)) = bCells (A ++ y :: r) := by
  unfold bCells
  have e : ∀ z : Nat, (A ++ z :: r).reverse = r.reverse ++ (z :: A.reverse) := fun z => by simp
  rw [e, e, List.map_append, List.map_append, List.set_append_right _ _ (by simp)]
  simp
theorem bCells_cons (O : List Nat) (x : Nat) : bCells (x :: O) = bCells O ++ [.int .u8 (x : Int)] := by simp [bCells]

/-- The likelihoods, in a box. -/
structure Lk (B : World) (xb : Nat) (w : World) (v : Value) (P : List Nat) : Prop where
  own : w.ownsRow B.heap.size 3 1 v P.length (pCells P)
  box : w.heap[xb]? = some (.cells #[v] 88 (0, 0))
  ne : v.ownBlock ≠ some xb
  grown : B.grownBy w none
  base : B.heap.size ≤ xb
theorem Lk.lt {B w : World} {xb : Nat} {v : Value} {P : List Nat} (h : Lk B xb w v P) : xb < w.heap.size := (Array.getElem?_eq_some_iff.1 h.box).1
theorem grown_atC {a b : World} {g : Nat} {o : Obj} {row : Option Nat} (h : a.grownBy b row) (hg : a.heap[g]? = some o) (hne : row ≠ some g) : b.heap[g]? = some o :=
  (h.block g (Array.getElem?_eq_some_iff.1 hg).1 (fun e => hne e.symm)).trans hg
theorem Lk.beside {B w w' : World} {xb : Nat} {v : Value} {P : List Nat} {row : Option Nat} (h : Lk B xb w v P) (g : w.grownBy w' row) (h1 : row ≠ some xb) (h2 : ∀ k, v.ownBlock = some k → row ≠ some k) (h3 : ∀ k, row = some k → B.heap.size ≤ k) : Lk B xb w' v P :=
  ⟨own_beneath h.own g (fun a b e1 e2 e3 => h2 a e1 (by rw [e3]; exact e2)), grown_atC g h.box h1, h.ne, grown_new h.grown g h3, h.base⟩

end Go.Proofs.Ytekidfkahpaokaa
