/-
  The frame of a picture.
-/
import Derived.Test.YtgknninkfdgebaaPicPure
namespace Go.Proofs.Ytgknninkfdgebaa
open Go.RowKit

/-- The components: whether colours are turned, whether the others are halved. -/
def frC (tc hv : Bool) : Nat → Nat → Int := fun i j => if j = 0 then (if tc then 11 else 1) + (i : Int) else if j = 1 then (if i = 0 ∧ hv = true then 2 else 1) else if j = 2 then (if i = 0 ∧ hv = true then 2 else 1) else (if i = 0 then 0 else 1)
def tcB (co : Bool) (n : Nat) : Bool := co && decide ((n : Int) = 3)
def hvB (ha : Bool) (n : Nat) : Bool := ha && decide (2 < (n : Int))
def frForB (p wd ht : Int) (X : List (List Int)) (q m k r : Int) : Bool := picB p wd ht X && (decide (0 ≤ q ∧ q ≤ 100) && (decide (0 ≤ m ∧ m ≤ 1) && (decide (0 ≤ k ∧ k ≤ 2) && decide (0 ≤ r ∧ r ≤ 255))))
theorem picB_few {p wd ht : Int} {X : List (List Int)} (h : picB p wd ht X = true) : 1 ≤ X.length ∧ X.length ≤ 4 := by
  unfold picB picHead at h
  simp only [Bool.and_eq_true, decide_eq_true_eq] at h
  omega

end Go.Proofs.Ytgknninkfdgebaa
