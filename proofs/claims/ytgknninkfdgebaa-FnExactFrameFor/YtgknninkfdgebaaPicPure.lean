/-
  When a picture is ok.
-/
import Derived.Test.YtgknninkfdgebaaFramePure
namespace Go.Proofs.Ytgknninkfdgebaa
open Go.RowKit

def topI (prec : Int) : Int := if prec = 8 then 255 else 4095
def planeOkB (p : Int) (m : Int) (r : List Int) : Bool := decide ((r.length : Int) = m) && r.all fun z => decide (0 ≤ z ∧ z ≤ topI p)
def picHead (p wd ht : Int) (n : Nat) : Bool := headB p wd ht 0 && decide (1 ≤ (n : Int) ∧ (n : Int) ≤ 4)
def picB (p wd ht : Int) (X : List (List Int)) : Bool := picHead p wd ht X.length && X.all (planeOkB p (wd * ht))
theorem all_no {α : Type} {f : α → Bool} {L : List α} {i : Nat} (hi : i < L.length) (h : f L[i] = false) : L.all f = false := by
  cases hb : L.all f with
  | false => rfl
  | true => rw [List.all_eq_true] at hb; rw [hb _ (List.getElem_mem hi)] at h; exact absurd h (by simp)
theorem all_yes {α : Type} {f : α → Bool} {L : List α} (h : ∀ i (hi : i < L.length), f L[i] = true) : L.all f = true := by
  rw [List.all_eq_true]
  intro x hx
  obtain ⟨i, hi, rfl⟩ := List.getElem_of_mem hx
  exact h i hi

end Go.Proofs.Ytgknninkfdgebaa
