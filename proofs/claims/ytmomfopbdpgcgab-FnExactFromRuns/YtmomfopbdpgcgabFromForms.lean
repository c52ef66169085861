/-
  What FromRuns gives, in the form that the law's walk takes.
-/
import Derived.Test.YtmomfopbdpgcgabRunImpl6
import Derived.Test.YtmomfopbdpgcgabRunSpec5
import Derived.Test.YtmomfopbdpgcgabItemRows
import Derived.Test.YtmomfopbdpgcgabIntRows
namespace Go.Proofs.Ytmomfopbdpgcgab
open Go.RowKit

theorem from_short {I : List It} {z : Int} {L : List Int} {ok : Bool} (h : fromG I z = (L, ok)) : L.length ≤ 4194304 := by
  unfold fromG at h
  split at h
  · rename_i hh
    simp only [Prod.mk.injEq] at h
    rw [← h.1, hh.2.2.1]
    omega
  · simp only [Prod.mk.injEq] at h
    rw [← h.1]
    simp

theorem specFromL (ao : Option Addr) (n cap : Nat) (I : List It) (w : World) (hr : RdT w ao n I) (z : Int) (L : List Int) (ok : Bool) (HL : Hid (fromG I z = (L, ok))) :
    Calls Try.prog 5 #[.slice ao n cap, .int .i64 z] w fun e w' => ∃ so sc, e = .returned (.tuple #[.slice so L.length sc, .bool ok]) ∧ w'.ownsRow w.heap.size 3 1 (.slice so L.length sc) L.length (L.map (Value.int .i64)) ∧ w.grownBy w' none := by
  refine (specFromRuns ao n cap I w hr z L ok HL).mono ?_
  rintro e w' ⟨v, rfl, o, g⟩
  obtain ⟨so, sc, rfl⟩ := own_form o
  exact ⟨so, sc, rfl, o, g⟩

theorem implFromL (ao : Option Addr) (n cap : Nat) (I : List It) (w : World) (hr : RdT w ao n I) (z : Int) (L : List Int) (ok : Bool) (HL : Hid (fromG I z = (L, ok))) :
    Calls Try.prog 7 #[.slice ao n cap, .int .i64 z] w fun e w' => ∃ so sc, e = .returned (.tuple #[.slice so L.length sc, .bool ok]) ∧ w'.ownsRow w.heap.size 3 1 (.slice so L.length sc) L.length (L.map (Value.int .i64)) ∧ w.grownBy w' none := by
  refine (implFrom7 ao n cap I w hr z L ok HL).mono ?_
  rintro e w' ⟨v, rfl, o, g⟩
  obtain ⟨so, sc, rfl⟩ := own_form o
  exact ⟨so, sc, rfl, o, g⟩

end Go.Proofs.Ytmomfopbdpgcgab
