/-
  ToYcc and FromYcc in the specification, at any prec (written by gen_colour.py).
-/
import Derived.Test.YtgknninkfdgebaaColourFrom
namespace Go.Proofs.Ytgknninkfdgebaa
open Go.RowKit

theorem specPxNo (P : Int) (h8 : ¬ P = 8) (h12 : ¬ P = 12) (ao : Option Addr) (n cap : Nat) (w : World) :
    Calls Try.prog 27 #[.int .i64 P, .slice ao n cap] w fun e w' => e = .returned (.bool false) ∧ w = w' := by
  have e1 : (P != 8) = true := by simpa using h8
  have e2 : (P != 12) = true := by simpa using h12
  go_enter Try.func27, Try.ntmps27
  go_wp2
  go_ret
  exact ⟨rfl, rfl⟩
theorem px_else {P : Int} (h8 : ¬ P = 8) (h12 : ¬ P = 12) (zs : List Int) : pxB P zs = false := by
  unfold pxB
  rw [decide_eq_false h8, decide_eq_false h12]
  rfl

theorem specFromYcc (P : Int) (ao : Option Addr) (n cap : Nat) (zs : List Int) (w : World) (hr : Rd .i64 w ao n zs) (L : List Int) (HL : Hid (fromYG P zs = L)) :
    Calls Try.prog 7 #[.int .i64 P, .slice ao n cap] w fun e w' => ∃ so sc, e = .returned (.slice so L.length sc) ∧ w'.ownsRow w.heap.size 3 1 (.slice so L.length sc) L.length (L.map (Value.int .i64)) ∧ w.grownBy w' none := by
  by_cases h8 : P = 8
  · subst h8
    exact specFromYcc8 ao n cap zs w hr L HL
  by_cases h12 : P = 12
  · subst h12
    exact specFromYcc12 ao n cap zs w hr L HL
  obtain rfl : L = [] := by rw [← unhide HL, fromYG, px_else h8 h12]; rfl
  have H8 := hide h8
  have H12 := hide h12
  clear h8 h12 hr
  go_enter Try.func7, Try.ntmps7
  go_wp2_with fail
  refine (specPxNo P (unhide H8) (unhide H12) ao n cap w).mono ?_
  rintro e w ⟨rfl, rfl⟩
  go_wp2
  go_ret
  exact ⟨_, _, rfl, World.ownsRow_lit w #[] 0 (Nat.le_refl _) (by unfold maxLen; omega) rfl, World.grownBy_alloc _ _ _⟩

end Go.Proofs.Ytgknninkfdgebaa
