/-
  What BestLens gives, in the form that the law's walk takes.
-/
import Derived.Test.YtcbaiagkdphkeaaBestSpec
import Derived.Test.YtcbaiagkdphkeaaIntRows
namespace Go.Proofs.Ytcbaiagkdphkeaa
open Go.RowKit

def ImplBestE : Prop := ∀ (ao : Option Addr) (n cap : Nat) (fs : List Int) (w : World), Rd .i64 w ao n fs → n ≤ 1048576 →
  Calls Try.prog 16 #[.slice ao n cap] w fun e w' => ∃ v, e = .returned v ∧ w'.ownsRow w.heap.size 3 1 v (bestG fs).length ((bestG fs).map (Value.int .i64)) ∧ w.grownBy w' none

theorem bestG_short (fs : List Int) : (bestG fs).length ≤ 256 := by
  cases h : freqsB fs with
  | false => rw [bestG, h]; simp
  | true =>
    rw [best_len h]
    unfold freqsB at h
    rw [Bool.and_eq_true, Bool.and_eq_true] at h
    exact of_decide_eq_true h.1.1

theorem specBestL (ao : Option Addr) (n cap : Nat) (xs : List Int) (w : World) (hr : Rd .i64 w ao n xs) (L : List Int) (HL : Hid (bestG xs = L)) :
    Calls Try.prog 17 #[.slice ao n cap] w fun e w' => ∃ so sc, e = .returned (.slice so L.length sc) ∧ w'.ownsRow w.heap.size 3 1 (.slice so L.length sc) L.length (L.map (Value.int .i64)) ∧ w.grownBy w' none := by
  refine (specBestLens ao n cap xs w hr).mono ?_
  rw [unhide HL]
  rintro e w' ⟨v, rfl, o, g⟩
  obtain ⟨so, sc, rfl⟩ := own_form o
  exact ⟨so, sc, rfl, o, g⟩

theorem implBestL (HI : Hid ImplBestE) (ao : Option Addr) (n cap : Nat) (xs : List Int) (w : World) (hr : Rd .i64 w ao n xs) (hn : n ≤ 1048576) (L : List Int) (HL : Hid (bestG xs = L)) :
    Calls Try.prog 16 #[.slice ao n cap] w fun e w' => ∃ so sc, e = .returned (.slice so L.length sc) ∧ w'.ownsRow w.heap.size 3 1 (.slice so L.length sc) L.length (L.map (Value.int .i64)) ∧ w.grownBy w' none := by
  refine (unhide HI ao n cap xs w hr hn).mono ?_
  rw [unhide HL]
  rintro e w' ⟨v, rfl, o, g⟩
  obtain ⟨so, sc, rfl⟩ := own_form o
  exact ⟨so, sc, rfl, o, g⟩

end Go.Proofs.Ytcbaiagkdphkeaa
