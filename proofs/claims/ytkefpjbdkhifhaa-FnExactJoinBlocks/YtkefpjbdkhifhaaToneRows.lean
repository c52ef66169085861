/-
  Rows of numbers that are known whole: their block of memory, cell by cell.
-/
import Derived.Test.YtkefpjbdkhifhaaTonePure
import Derived.Test.YtkefpjbdkhifhaaCopyRow
import Derived.Laws.Rows
namespace Go.Proofs.Ytkefpjbdkhifhaa
open Go.RowKit

/-- A block of numbers, whole. -/
def Blk (K : IntKind) (t : TypeId) (w : World) (g : Nat) (L : List Int) : Prop := w.heap[g]? = some (.cells (L.map (Value.int K)).toArray t (0, 0))
section
variable {K : IntKind} {t : TypeId} {w w' : World} {g : Nat} {L : List Int}
theorem Blk.lt (h : Blk K t w g L) : g < w.heap.size := (Array.getElem?_eq_some_iff.1 h).1
theorem Blk.cell (h : Blk K t w g L) (i : Nat) (hi : i < L.length) : w.cell? ⟨g, i, none⟩ = some (.int K (L.getD i 0)) := by
  rw [cell_of_row w g i _ t (0, 0) h]
  simp [hi]
theorem Blk.frozen (h : Blk K t w g L) (i : Nat) : w.frozen? ⟨g, i, none⟩ = false := frozen_of_row w g i _ t h
theorem Blk.same (h : Blk K t w g L) (e : w'.heap[g]? = w.heap[g]?) : Blk K t w' g L := e.trans h
theorem Blk.grown (h : Blk K t w g L) (hg : w.grownBy w' none) : Blk K t w' g L := h.same (hg.block g h.lt (by simp))
theorem Blk.beside {row : Option Nat} (h : Blk K t w g L) (hg : w.grownBy w' row) (hn : some g ≠ row) : Blk K t w' g L := h.same (hg.block g h.lt hn)
theorem Blk.rd (h : Blk K t w g L) (a c : Nat) (hl : a + c ≤ L.length) : Rd K w (some ⟨g, a, none⟩) c ((L.drop a).take c) := by
  refine ⟨by simp; omega, fun i hi => ⟨g, a, rfl, ?_⟩⟩
  rw [h.cell (a + i) (by omega)]
  simp [List.getElem?_take_of_lt hi]
theorem Blk.rd0 (h : Blk K t w g L) : Rd K w (some ⟨g, 0, none⟩) L.length L := by
  have := h.rd 0 L.length (by omega)
  simpa using this
theorem Blk.set (h : Blk K t w g L) (i : Nat) (z : Int) : Blk K t (w.setCell ⟨g, i, none⟩ (.int K z)) g (L.set i z) := by
  have hs : (w.setCell ⟨g, i, none⟩ (.int K z)).heap[g]? = some (.cells ((L.map (Value.int K)).toArray.setIfInBounds i (.int K z)) t (0, 0)) := by
    unfold Blk at h
    simp [World.setCell, Array.getElem?_modify, h]
  unfold Blk
  rw [hs, List.map_set]
  simp
/-- What is made anew. -/
theorem Blk.made {base n : Nat} (h : w.ownsRow base t 1 (.slice (some ⟨g, 0, none⟩) n n) n (madeCells (Value.int K 0).cells (n * 1)).toList) : Blk K t w g (List.replicate n 0) := by
  have h1 := (own_full h).1
  unfold Blk
  rw [h1]
  have e : madeCells (Value.int K 0).cells (n * 1) = ((List.replicate n (0 : Int)).map (Value.int K)).toArray := by
    refine Array.ext (by simp [madeCells]) (fun i h1 h2 => ?_)
    simp [madeCells, Value.cells, Nat.mod_one]
  rw [e]
theorem Blk.own {base : Nat} (h : Blk K t w g L) (hb : base ≤ g) (hl : L.length ≤ maxLen) : w.ownsRow base t 1 (.slice (some ⟨g, 0, none⟩) L.length L.length) L.length (L.map (Value.int K)) :=
  full_own h hb (by simp) hl
end

end Go.Proofs.Ytkefpjbdkhifhaa
