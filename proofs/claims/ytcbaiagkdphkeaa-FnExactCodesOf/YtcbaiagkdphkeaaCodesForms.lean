/-
  What CodesOf gives, in the form that the law's walk takes.
-/
import Derived.Test.YtcbaiagkdphkeaaLawPrefix
import Derived.Test.YtcbaiagkdphkeaaFieldHeld
import Derived.Test.YtcbaiagkdphkeaaIntRows
namespace Go.Proofs.Ytcbaiagkdphkeaa
open Go.RowKit

theorem codesG_short (xs : List Int) : (codesG xs).length ≤ 256 := by
  cases h : lensB xs with
  | false => rw [codesG, h]; simp
  | true => rw [codes_len h]; exact (lens_parts h).1

theorem specCodesL (ao : Option Addr) (n cap : Nat) (xs : List Int) (w : World) (hr : Rd .i64 w ao n xs) (L : List (Int × Int)) (HL : Hid (codesG xs = L)) :
    Calls Try.prog 12 #[.slice ao n cap] w fun e w' => ∃ so sc, e = .returned (.slice so L.length sc) ∧ w'.ownsRow w.heap.size 30 2 (.slice so L.length sc) L.length (flat L) ∧ w.grownBy w' none := by
  refine (specCodesOf ao n cap xs w hr).mono ?_
  rw [unhide HL]
  rintro e w' ⟨v, rfl, o, g⟩
  obtain ⟨so, sc, rfl⟩ := own_form o
  exact ⟨so, sc, rfl, o, g⟩

theorem implCodesL (HI : Hid ImplCodes) (ao : Option Addr) (n cap : Nat) (xs : List Int) (w : World) (hr : Rd .i64 w ao n xs) (hn : n ≤ 1048576) (L : List (Int × Int)) (HL : Hid (codesG xs = L)) :
    Calls Try.prog 11 #[.slice ao n cap] w fun e w' => ∃ so sc, e = .returned (.slice so L.length sc) ∧ w'.ownsRow w.heap.size 30 2 (.slice so L.length sc) L.length (flat L) ∧ w.grownBy w' none := by
  refine (unhide HI ao n cap xs w hr hn).mono ?_
  rw [unhide HL]
  rintro e w' ⟨v, rfl, o, g⟩
  obtain ⟨so, sc, rfl⟩ := own_form o
  exact ⟨so, sc, rfl, o, g⟩

end Go.Proofs.Ytcbaiagkdphkeaa
