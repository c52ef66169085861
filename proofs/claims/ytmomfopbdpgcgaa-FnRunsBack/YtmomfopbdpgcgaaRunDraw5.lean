/-
  Items that are drawn: the walk.
-/
import Derived.Test.YtmomfopbdpgcgaaRunDraw4
namespace Go.Proofs.Ytmomfopbdpgcgaa
open Go.RowKit

theorem runsG_len (xs : List Int) : (runsG xs).length ≤ 64 := by
  unfold runsG
  split
  · rename_i h
    simp only [coefsB, Bool.and_eq_true, decide_eq_true_eq] at h
    have := runsGo_len 0 xs
    omega
  · simp

/-- A row of items, a box with one item, and the cursor. -/
structure Bx (w : World) (tb : Nat) (ao : Option Addr) (n cap : Nat) (zs : List Int) (pb g ic : Nat) (I : List It) (W : World) (a b c : Int) (q : Nat) : Prop where
  own : W.ownsRow w.heap.size 52 3 (.slice (some ⟨g, 0, none⟩) I.length ic) I.length (itCells I)
  box : W.heap[pb]? = some (.cells #[.int .i64 a, .int .i64 b, .int .i64 c] 52 (0, 0))
  cur : Cur W tb ao n cap zs q
  grown : w.grownBy W none
/-- Where they lie. -/
structure Ly (w : World) (tb : Nat) (ao : Option Addr) (n pb g : Nat) : Prop where
  gp : g ≠ pb
  gt : g ≠ tb
  pt : pb ≠ tb
  p0 : w.heap.size ≤ pb
  g0 : w.heap.size ≤ g
  t0 : w.heap.size ≤ tb
  code : 0 < n → ∀ b off, ao = some ⟨b, off, none⟩ → b < w.heap.size
section
variable {w : World} {tb : Nat} {ao : Option Addr} {n cap : Nat} {zs : List Int} {pb g ic : Nat} {I : List It} {W W' : World} {a b c : Int} {q q' : Nat}
theorem Bx.pick (h : Bx w tb ao n cap zs pb g ic I W a b c q) (l : Ly w tb ao n pb g) (hc : Cur W' tb ao n cap zs q') (hg : W.grownBy W' (some tb)) : Bx w tb ao n cap zs pb g ic I W' a b c q' := by
  have := l.gt; have := l.pt; have := l.t0
  exact ⟨own_beneath h.own hg (fun g' t' e e' => by simp [Value.ownBlock] at e; simp at e'; omega), (hg.block pb (Array.getElem?_eq_some_iff.1 h.box).1 (by simp; omega)).trans h.box, hc, grown_new h.grown hg (fun g' e => by simp at e; omega)⟩
theorem Bx.new (h : Bx w tb ao n cap zs pb g ic I W a b c q) (hg : W.grownBy W' none) : Bx w tb ao n cap zs pb g ic I W' a b c q :=
  ⟨own_grown h.own hg, (hg.block pb (Array.getElem?_eq_some_iff.1 h.box).1 (by simp)).trans h.box, h.cur.grown hg, grown_trans h.grown hg⟩
theorem Bx.at0 (h : Bx w tb ao n cap zs pb g ic I W a b c q) (l : Ly w tb ao n pb g) (y : Int) : Bx w tb ao n cap zs pb g ic I (W.setCell ⟨pb, 0, none⟩ (.int .i64 y)) y b c q := by
  have l1 := l.gp; have l2 := l.pt; have l3 := l.p0
  have hs := grown_set W pb 0 (.int .i64 y)
  exact ⟨own_beneath h.own hs (fun g' t' e e' => by simp [Value.ownBlock] at e; simp at e'; omega), heap_setCell_same W pb 0 _ _ _ h.box, h.cur.beside hs (fun g' e => by simp at e; exact ⟨by omega, fun h b off e' => by have := l.code h b off e'; omega⟩), grown_new h.grown hs (fun g' e => by simp at e; omega)⟩
theorem Bx.at2 (h : Bx w tb ao n cap zs pb g ic I W a b c q) (l : Ly w tb ao n pb g) (y : Int) : Bx w tb ao n cap zs pb g ic I (W.setCell ⟨pb, 2, none⟩ (.int .i64 y)) a b y q := by
  have l1 := l.gp; have l2 := l.pt; have l3 := l.p0
  have hs := grown_set W pb 2 (.int .i64 y)
  exact ⟨own_beneath h.own hs (fun g' t' e e' => by simp [Value.ownBlock] at e; simp at e'; omega), heap_setCell_same W pb 2 _ _ _ h.box, h.cur.beside hs (fun g' e => by simp at e; exact ⟨by omega, fun h b off e' => by have := l.code h b off e'; omega⟩), grown_new h.grown hs (fun g' e => by simp at e; omega)⟩
theorem Bx.row (h : Bx w tb ao n cap zs pb g ic I W a b c q) (l : Ly w tb ao n pb g) (k : Nat) (hk : k < I.length) :
    RdT (((W.setCell ⟨g, k * 3, none⟩ (.int .i64 a)).setCell ⟨g, k * 3 + 1, none⟩ (.int .i64 b)).setCell ⟨g, k * 3 + 2, none⟩ (.int .i64 c)) (some ⟨g, 0, none⟩) I.length (I.set k (a, b, c)) ∧ w.grownBy (((W.setCell ⟨g, k * 3, none⟩ (.int .i64 a)).setCell ⟨g, k * 3 + 1, none⟩ (.int .i64 b)).setCell ⟨g, k * 3 + 2, none⟩ (.int .i64 c)) none := by
  have l1 := l.g0
  have s := own_put h.own k hk a b c
  have r := own_rdT s.1
  rw [List.length_set] at r
  exact ⟨r, grown_new h.grown s.2 (fun g' e => by simp at e; omega)⟩
theorem Bx.cells (h : Bx w tb ao n cap zs pb g ic I W a b c q) : (W.cell? ⟨pb, 0, none⟩ = some (.int .i64 a) ∧ W.cell? ⟨pb, 1, none⟩ = some (.int .i64 b) ∧ W.cell? ⟨pb, 2, none⟩ = some (.int .i64 c)) ∧ ∀ j, W.frozen? ⟨pb, j, none⟩ = false :=
  ⟨⟨by rw [cell_of_row W _ 0 _ _ (0, 0) h.box]; rfl, by rw [cell_of_row W _ 1 _ _ (0, 0) h.box]; rfl, by rw [cell_of_row W _ 2 _ _ (0, 0) h.box]; rfl⟩, fun j => frozen_of_row W pb j _ _ h.box⟩
theorem Bx.item (h : Bx w tb ao n cap zs pb g ic I W a b c q) (k : Nat) (hk : k < I.length) : (∃ x0 x1 x2 : Int, W.cell? ⟨g, k * 3, none⟩ = some (.int .i64 x0) ∧ W.cell? ⟨g, k * 3 + 1, none⟩ = some (.int .i64 x1) ∧ W.cell? ⟨g, k * 3 + 2, none⟩ = some (.int .i64 x2)) ∧ ∀ j, W.frozen? ⟨g, j, none⟩ = false := by
  obtain ⟨h0, h1, h2⟩ := itCells_at I k hk
  exact ⟨⟨_, _, _, (h.own.cellAt _ (by omega)).trans h0, (h.own.cellAt _ (by omega)).trans h1, (h.own.cellAt _ (by omega)).trans h2⟩, fun j => h.own.frozenAt j⟩
end

end Go.Proofs.Ytmomfopbdpgcgaa
