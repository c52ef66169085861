/-
  What RunsOf gives, in the form that the law's walk takes.
-/
import Derived.Test.YtmomfopbdpgcgaaRunImpl4
import Derived.Test.YtmomfopbdpgcgaaItemRows
import Derived.Test.YtmomfopbdpgcgaaIntRows
namespace Go.Proofs.Ytmomfopbdpgcgaa
open Go.RowKit

theorem runsG_short (xs : List Int) : (runsG xs).length ≤ 4194304 := by
  unfold runsG
  split
  · rename_i h
    have h1 := runsGo_len 0 xs
    simp only [coefsB, Bool.and_eq_true, decide_eq_true_eq] at h
    omega
  · simp

theorem specRunsL (ao : Option Addr) (n cap : Nat) (xs : List Int) (w : World) (hr : Rd .i64 w ao n xs) (L : List It) (HL : Hid (runsG xs = L)) :
    Calls Try.prog 18 #[.slice ao n cap] w fun e w' => ∃ so sc, e = .returned (.slice so L.length sc) ∧ w'.ownsRow w.heap.size 52 3 (.slice so L.length sc) L.length (itCells L) ∧ w.grownBy w' none := by
  refine (specRunsOf ao n cap xs w hr).mono ?_
  rw [unhide HL]
  rintro e w' ⟨v, rfl, o, g⟩
  obtain ⟨so, sc, rfl⟩ := own_form o
  exact ⟨so, sc, rfl, o, g⟩

theorem implRunsL (ao : Option Addr) (n cap : Nat) (xs : List Int) (w : World) (hr : Rd .i64 w ao n xs) (hn : n ≤ 4194304) (L : List It) (HL : Hid (runsG xs = L)) :
    Calls Try.prog 17 #[.slice ao n cap] w fun e w' => ∃ so sc, e = .returned (.slice so L.length sc) ∧ w'.ownsRow w.heap.size 52 3 (.slice so L.length sc) L.length (itCells L) ∧ w.grownBy w' none := by
  refine (implRuns7 ao n cap xs w hr hn).mono ?_
  rw [unhide HL]
  rintro e w' ⟨v, rfl, o, g⟩
  obtain ⟨so, sc, rfl⟩ := own_form o
  exact ⟨so, sc, rfl, o, g⟩

end Go.Proofs.Ytmomfopbdpgcgaa
