/-
  The bit coder of the specification in memory.
-/
import Derived.Test.YtemfonnkaddmfaaCoderPure
import Derived.Test.YtemfonnkaddmfaaHeldLast
import Derived.Test.YtemfonnkaddmfaaRows
import Derived.Maps.AppendAt
import Derived.Deep.AppendLies
import Derived.Deep.RegionHeld3
namespace Go.Proofs.Ytemfonnkaddmfaa
open Go.RowKit

def pCells (L : List Nat) : List Value := L.map fun x : Nat => Value.int .i64 (x : Int)
def bCells (O : List Nat) : List Value := O.reverse.map fun x : Nat => Value.int .u8 (x : Int)
theorem pCells_len (L : List Nat) : (pCells L).length = L.length := by simp [pCells]
theorem bCells_len (O : List Nat) : (bCells O).length = O.length := by simp [bCells]
theorem pCells_at (L : List Nat) (i : Nat) (h : i < L.length) : (pCells L)[i]? = some (.int .i64 ((L.getD i 2048 : Nat) : Int)) := by simp [pCells, h]
theorem pCells_set (L : List Nat) (i x : Nat) : (pCells L).set i (.int .i64 (x : Int)) = pCells (L.set i x) := by simp [pCells, List.map_set]
theorem bCells_at (A r : List Nat) (x : Nat) : (bCells (A ++ x :: r))[r.length]? = some (.int .u8 (x : Int)) := by
  simp [bCells, List.reverse_append]
theorem bCells_set (A r : List Nat) (x y : Nat) : (bCells (A ++ x :: r)).set r.length (.int .u8 (y : Int)) = bCells (A ++ y :: r) := by
  unfold bCells
  have e : ∀ z : Nat, (A ++ z :: r).reverse = r.reverse ++ (z :: A.reverse) := fun z => by simp
  rw [e, e, List.map_append, List.map_append, List.set_append_right _ _ (by simp)]
  simp
theorem bCells_cons (O : List Nat) (x : Nat) : bCells (x :: O) = bCells O ++ [.int .u8 (x : Int)] := by simp [bCells]

/-- The likelihoods, in a box. -/
structure Lk (B : World) (xb : Nat) (w : World) (v : Value) (P : List Nat) : Prop where
  own : w.ownsRow B.heap.size 3 1 v P.length (pCells P)
  box : w.heap[xb]? = some (.cells #[v] 80 (0, 0))
  ne : v.ownBlock ≠ some xb
  grown : B.grownBy w none
  base : B.heap.size ≤ xb
theorem Lk.lt {B w : World} {xb : Nat} {v : Value} {P : List Nat} (h : Lk B xb w v P) : xb < w.heap.size := (Array.getElem?_eq_some_iff.1 h.box).1
theorem grown_atC {a b : World} {g : Nat} {o : Obj} {row : Option Nat} (h : a.grownBy b row) (hg : a.heap[g]? = some o) (hne : row ≠ some g) : b.heap[g]? = some o :=
  (h.block g (Array.getElem?_eq_some_iff.1 hg).1 (fun e => hne e.symm)).trans hg
theorem Lk.beside {B w w' : World} {xb : Nat} {v : Value} {P : List Nat} {row : Option Nat} (h : Lk B xb w v P) (g : w.grownBy w' row) (h1 : row ≠ some xb) (h2 : ∀ k, v.ownBlock = some k → row ≠ some k) (h3 : ∀ k, row = some k → B.heap.size ≤ k) : Lk B xb w' v P :=
  ⟨own_beneath h.own g (fun a b e1 e2 e3 => h2 a e1 (by rw [e3]; exact e2)), grown_atC g h.box h1, h.ne, grown_new h.grown g h3, h.base⟩

/-- The coder, in a box. -/
structure Ow (B : World) (xb ob : Nat) (w : World) (v u : Value) (P : List Nat) (s : En) : Prop where
  lk : Lk B xb w v P
  own : w.ownsRow B.heap.size 5 1 u s.out.length (bCells s.out)
  box : w.heap[ob]? = some (.cells #[.pointer (some ⟨xb, 0, none⟩), .int .i64 (s.low : Int), .int .i64 (s.rang : Int), u] 78 (0, 0))
  n1 : v.ownBlock ≠ some ob
  n2 : u.ownBlock ≠ some xb
  n3 : u.ownBlock ≠ some ob
  n4 : xb ≠ ob
  n5 : ∀ k, v.ownBlock = some k → u.ownBlock ≠ some k
  base : B.heap.size ≤ ob
theorem Ow.cells {B w : World} {xb ob : Nat} {v u : Value} {P : List Nat} {s : En} (h : Ow B xb ob w v u P s) : w.cell? ⟨ob, 0, none⟩ = some (.pointer (some ⟨xb, 0, none⟩)) ∧ w.cell? ⟨ob, 1, none⟩ = some (.int .i64 (s.low : Int)) ∧ w.cell? ⟨ob, 2, none⟩ = some (.int .i64 (s.rang : Int)) ∧ w.cell? ⟨ob, 3, none⟩ = some u ∧ w.cell? ⟨xb, 0, none⟩ = some v := by
  refine ⟨?_, ?_, ?_, ?_, ?_⟩
  · rw [cell_of_row w ob 0 _ _ (0, 0) h.box]; rfl
  · rw [cell_of_row w ob 1 _ _ (0, 0) h.box]; rfl
  · rw [cell_of_row w ob 2 _ _ (0, 0) h.box]; rfl
  · rw [cell_of_row w ob 3 _ _ (0, 0) h.box]; rfl
  · rw [cell_of_row w xb 0 _ _ (0, 0) h.lk.box]; rfl
theorem Ow.fz {B w : World} {xb ob : Nat} {v u : Value} {P : List Nat} {s : En} (h : Ow B xb ob w v u P s) (j : Nat) : w.frozen? ⟨ob, j, none⟩ = false := frozen_of_row w ob j _ _ h.box
theorem Ow.drewN {B w : World} {xb ob : Nat} {v u : Value} {P : List Nat} {s : En} (h : Ow B xb ob w v u P s) {w' : World} (g : w.grownBy w' none) : Ow B xb ob w' v u P s :=
  ⟨h.lk.beside g (by simp) (fun _ _ => by simp) (fun k e => by simp at e), own_grown h.own g, grown_atC g h.box (by simp), h.n1, h.n2, h.n3, h.n4, h.n5, h.base⟩
/-- One of the numbers in the box is another one. -/
theorem Ow.set1 {B w : World} {xb ob : Nat} {v u : Value} {P : List Nat} {s : En} (h : Ow B xb ob w v u P s) (x : Nat) : Ow B xb ob (w.setCell ⟨ob, 1, none⟩ (.int .i64 (x : Int))) v u P ⟨x, s.rang, s.out⟩ := by
  have G := grown_set w ob 1 (.int .i64 (x : Int))
  exact ⟨h.lk.beside G (fun e => h.n4 (Option.some.inj e).symm) (fun k e e2 => h.n1 (by rw [e2]; exact e)) (fun k e => by have := Option.some.inj e; have := h.base; omega), own_beneath h.own G (fun a b e1 e2 e3 => h.n3 (by rw [e2, ← e3]; exact e1)), heap_setCell_same w ob 1 _ _ _ h.box, h.n1, h.n2, h.n3, h.n4, h.n5, h.base⟩
theorem Ow.set2 {B w : World} {xb ob : Nat} {v u : Value} {P : List Nat} {s : En} (h : Ow B xb ob w v u P s) (x : Nat) : Ow B xb ob (w.setCell ⟨ob, 2, none⟩ (.int .i64 (x : Int))) v u P ⟨s.low, x, s.out⟩ := by
  have G := grown_set w ob 2 (.int .i64 (x : Int))
  exact ⟨h.lk.beside G (fun e => h.n4 (Option.some.inj e).symm) (fun k e e2 => h.n1 (by rw [e2]; exact e)) (fun k e => by have := Option.some.inj e; have := h.base; omega), own_beneath h.own G (fun a b e1 e2 e3 => h.n3 (by rw [e2, ← e3]; exact e1)), heap_setCell_same w ob 2 _ _ _ h.box, h.n1, h.n2, h.n3, h.n4, h.n5, h.base⟩
/-- A byte that was laid is another one. -/
theorem Ow.turn {B w w' : World} {xb ob : Nat} {v u : Value} {P : List Nat} {s : En} (h : Ow B xb ob w v u P s) (O : List Nat) (ho : w'.ownsRow B.heap.size 5 1 u O.length (bCells O)) (g : w.grownBy w' u.ownBlock) : Ow B xb ob w' v u P ⟨s.low, s.rang, O⟩ :=
  ⟨h.lk.beside g h.n2 (fun k e => h.n5 k e) (fun k e => (h.own.lt k e).1), ho, grown_atC g h.box h.n3, h.n1, h.n2, h.n3, h.n4, h.n5, h.base⟩
/-- A byte more is laid. -/
theorem Ow.add {B w w' : World} {xb ob : Nat} {v u : Value} {P : List Nat} {s : En} {g cap n1 x : Nat} (h : Ow B xb ob w v u P s) (hn1 : n1 = s.out.length + 1) (o1 : w'.ownsRow B.heap.size 5 1 (.slice (some ⟨g, 0, none⟩) n1 cap) n1 (bCells (x :: s.out))) (g1 : w.grownBy w' u.ownBlock) (hat : u.ownBlock = some g ∨ w.heap.size ≤ g) :
    Ow B xb ob (w'.setCell ⟨ob, 3, none⟩ (.slice (some ⟨g, 0, none⟩) n1 cap)) v (.slice (some ⟨g, 0, none⟩) n1 cap) P ⟨s.low, s.rang, x :: s.out⟩ := by
  subst hn1
  have hlt : ob < w.heap.size := (Array.getElem?_eq_some_iff.1 h.box).1
  have hxl := h.lk.lt
  have gx : g ≠ xb := by
    rcases hat with e | e
    · intro e2; rw [e2] at e; exact h.n2 e
    · omega
  have go' : g ≠ ob := by
    rcases hat with e | e
    · intro e2; rw [e2] at e; exact h.n3 e
    · omega
  have gv : ∀ k, v.ownBlock = some k → g ≠ k := fun k e => by
    rcases hat with e2 | e2
    · intro e3; rw [e3] at e2; exact h.n5 k e e2
    · have := (h.lk.own.lt k e).2; omega
  have G := grown_set w' ob 3 (.slice (some ⟨g, 0, none⟩) (s.out.length + 1) cap)
  have hl1 := h.lk.beside g1 h.n2 (fun k e => h.n5 k e) (fun k e => (h.own.lt k e).1)
  refine ⟨hl1.beside G (fun e => h.n4 (Option.some.inj e).symm) (fun k e e2 => h.n1 (by rw [e2]; exact e)) (fun k e => by have := Option.some.inj e; have := h.base; omega), ?_, ?_, h.n1, fun e => gx (Option.some.inj e), fun e => go' (Option.some.inj e), h.n4, fun k e e2 => gv k e (Option.some.inj e2), h.base⟩
  · exact own_beneath o1 G (fun a b e1 e2 e3 => go' (by have h1 : g = a := Option.some.inj e1; have h2 : ob = b := Option.some.inj e2; omega))
  · exact heap_setCell_same w' ob 3 _ _ _ (grown_atC g1 h.box h.n3)

end Go.Proofs.Ytemfonnkaddmfaa
