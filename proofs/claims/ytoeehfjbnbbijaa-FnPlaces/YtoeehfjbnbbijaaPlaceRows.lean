/-
  The walks of the law's own small functions on rows of places: comparing, marking, looking for the marks.
-/
import Derived.Test.YtoeehfjbnbbijaaFrameRows
import Derived.Test.YtoeehfjbnbbijaaGeoOrd
namespace Go.Proofs.Ytoeehfjbnbbijaa
open Go.RowKit

/-- What is read through a slice of places. -/
def RdP (w : World) (ao : Option Addr) (n : Nat) (C : Nat → Nat → Int) : Prop :=
  ∀ i, i < n → ∃ b off, ao = some ⟨b, off, none⟩ ∧ ∀ j, j < 3 → w.cell? ⟨b, off + i * 3 + j, none⟩ = some (.int .i64 (C i j))
theorem RdP.grown {w w' : World} {ao : Option Addr} {n : Nat} {C : Nat → Nat → Int} (h : RdP w ao n C) (hg : w.grownBy w' none) : RdP w' ao n C :=
  fun i hi => by obtain ⟨b, off, e, hc⟩ := h i hi; exact ⟨b, off, e, fun j hj => hg.cell (hc j hj) (by simp)⟩
theorem own_rdP {w : World} {base : Nat} {e : TypeId} {ao : Option Addr} {n cap : Nat} {C : Nat → Nat → Int} (h : w.ownsRow base e 3 (.slice ao n cap) n (rowsK n 3 (compCells C))) : RdP w ao n C := by
  intro i hi
  obtain ⟨g, rfl, _, _⟩ := own_at h (by omega)
  refine ⟨g, 0, rfl, fun j hj => ?_⟩
  rw [Nat.zero_add, h.cellAt _ (place_lt hi hj), rowsK_get n 3 _ i j hi hj]
  rfl
/-- The numbers of a list of places. -/
def plNum (L : List Pl) : Nat → Nat → Int := fun i j => if j = 0 then (L.getD i (0, 0, 0)).1 else if j = 1 then (L.getD i (0, 0, 0)).2.1 else (L.getD i (0, 0, 0)).2.2
theorem plCells_rows (L : List Pl) : plCells L = rowsK L.length 3 (compCells (plNum L)) := by
  apply List.ext_getElem?
  intro q
  by_cases hq : q < L.length * 3
  · obtain ⟨i, j, hj, rfl⟩ : ∃ i j, j < 3 ∧ q = i * 3 + j := ⟨q / 3, q % 3, by omega, by omega⟩
    have hi : i < L.length := by omega
    rw [rowsK_get L.length 3 _ i j hi hj]
    obtain ⟨h0, h1, h2⟩ := plCells_at L i hi
    have hg : L.getD i (0, 0, 0) = L[i] := by simp [hi]
    have e : j = 0 ∨ j = 1 ∨ j = 2 := by omega
    rcases e with rfl | rfl | rfl
    · rw [Nat.add_zero, h0]; simp [compCells, plNum, hi]
    · rw [h1]; simp [compCells, plNum, hi]
    · rw [h2]; simp [compCells, plNum, hi]
  · rw [List.getElem?_eq_none (by rw [plCells_len]; omega), List.getElem?_eq_none (by rw [rowsK_len]; omega)]

/-- Places that are marked all over, from k0 on. -/
def markedP (k0 : Int) : Nat → Nat → Int := fun i j => k0 + 3 * (i : Int) + (j : Int)
theorem markPl_set (C : Nat → Nat → Int) (k0 : Int) (n k : Nat) (q : Int) (hq : k0 + 3 * (k : Int) = q) :
    (((rowsK n 3 (compCells (fun i j => if i < k then markedP k0 i j else C i j))).set (k * 3) (.int .i64 q)).set (k * 3 + 1) (.int .i64 (q + 1))).set (k * 3 + 2) (.int .i64 (q + 1 + 1)) = rowsK n 3 (compCells (fun i j => if i < k + 1 then markedP k0 i j else C i j)) := by
  have e0 := rowsK_set n 3 (compCells (fun i j => if i < k then markedP k0 i j else C i j)) k 0 (.int .i64 q) (by omega)
  rw [Nat.add_zero] at e0
  rw [e0, rowsK_set _ _ _ k 1 _ (by omega), rowsK_set _ _ _ k 2 _ (by omega)]
  apply rowsK_congr
  intro i j _ hj
  have hj4 : j = 0 ∨ j = 1 ∨ j = 2 := by omega
  by_cases e1 : i = k
  · subst e1
    rcases hj4 with rfl | rfl | rfl <;> simp [compCells, markedP, hq] <;> omega
  · by_cases e2 : i < k
    · rcases hj4 with rfl | rfl | rfl <;> simp [compCells, e1, e2, show i < k + 1 by omega]
    · rcases hj4 with rfl | rfl | rfl <;> simp [compCells, e1, e2, show ¬ i < k + 1 by omega]

end Go.Proofs.Ytoeehfjbnbbijaa
