/-
  Items that are drawn.
-/
import Derived.Test.YtmomfopbdpgcgaaRunDraw2
import Derived.Test.YtmomfopbdpgcgaaRunSpec3
namespace Go.Proofs.Ytmomfopbdpgcgaa
open Go.RowKit

theorem itCells_set : ∀ (I : List It) (k : Nat) (a b c : Int), k < I.length → (((itCells I).set (k * 3) (.int .i64 a)).set (k * 3 + 1) (.int .i64 b)).set (k * 3 + 2) (.int .i64 c) = itCells (I.set k (a, b, c))
  | p :: I, 0, a, b, c, _ => by simp [itCells]
  | p :: I, k + 1, a, b, c, h => by
    have ih := itCells_set I k a b c (by simpa using h)
    have e0 : (k + 1) * 3 = k * 3 + 1 + 1 + 1 := by omega
    have e1 : (k + 1) * 3 + 1 = k * 3 + 1 + 1 + 1 + 1 := by omega
    have e2 : (k + 1) * 3 + 2 = k * 3 + 2 + 1 + 1 + 1 := by omega
    rw [e1, e2, e0]
    simp only [itCells, List.set_cons_succ, ih]

/-- A row of items of one's own, one of which is written anew. -/
theorem own_put {w : World} {base : Nat} {e : TypeId} {g cap : Nat} {I : List It} (h : w.ownsRow base e 3 (.slice (some ⟨g, 0, none⟩) I.length cap) I.length (itCells I)) (k : Nat) (hk : k < I.length) (a b c : Int) :
    (((w.setCell ⟨g, k * 3, none⟩ (.int .i64 a)).setCell ⟨g, k * 3 + 1, none⟩ (.int .i64 b)).setCell ⟨g, k * 3 + 2, none⟩ (.int .i64 c)).ownsRow base e 3 (.slice (some ⟨g, 0, none⟩) (I.set k (a, b, c)).length cap) (I.set k (a, b, c)).length (itCells (I.set k (a, b, c))) ∧ w.grownBy (((w.setCell ⟨g, k * 3, none⟩ (.int .i64 a)).setCell ⟨g, k * 3 + 1, none⟩ (.int .i64 b)).setCell ⟨g, k * 3 + 2, none⟩ (.int .i64 c)) (some g) := by
  have s0 := h.stored (k * 3) (.int .i64 a)
  have s1 := s0.1.stored (k * 3 + 1) (.int .i64 b)
  have s2 := s1.1.stored (k * 3 + 2) (.int .i64 c)
  rw [itCells_set I k a b c hk] at s2
  refine ⟨?_, grown_trans (grown_trans s0.2 s1.2) s2.2⟩
  rw [List.length_set]
  exact s2.1

end Go.Proofs.Ytmomfopbdpgcgaa
