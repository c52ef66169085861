/-
  ToYcc in the specification (written by gen_colour.py).
-/
import Derived.Test.YtgknninkfdgebaaColourSpec
namespace Go.Proofs.Ytgknninkfdgebaa
open Go.RowKit

theorem own_base17 {W : World} {b b' : Nat} {e : TypeId} {v : Value} {k : Nat} {cs : List Value} (h : W.ownsRow b e 1 v k cs) (hb : b' ≤ b) : W.ownsRow b' e 1 v k cs := by
  obtain ⟨h1, h2⟩ := h
  refine ⟨h1, ?_⟩
  rcases h2 with h2 | ⟨g, c, a, e1, e2, h3⟩
  · exact .inl h2
  · exact .inr ⟨g, c, a, e1, Nat.le_trans hb e2, h3⟩

end Go.Proofs.Ytgknninkfdgebaa
