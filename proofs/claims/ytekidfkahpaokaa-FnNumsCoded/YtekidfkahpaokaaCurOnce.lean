/-
  The walk of a yes or no that is drawn.
-/
import Derived.Test.YtekidfkahpaokaaCur
namespace Go.Proofs.Ytekidfkahpaokaa
open Go.RowKit

/-- A pick, whatever it is asked. -/
theorem pick_any (tb : Nat) (ao : Option Addr) (n cap p : Nat) (k : Int) (zs : List Int) (w : World) (h : Cur w tb ao n cap zs p) (hp : p ≤ 1000000000000) (hk : 1 ≤ k) (hk3 : k ≤ 2147483648) :
    Calls Try.prog 29 #[.pointer (some ⟨tb, 0, none⟩), .int .i64 k] w fun e w' => ∃ (x : Int) (p' : Nat), e = .returned (.int .i64 x) ∧ 0 ≤ x ∧ x < k ∧ Cur w' tb ao n cap zs p' ∧ p' ≤ p + 2 ∧ w.grownBy w' (some tb) := by
  by_cases h2 : 2 ≤ k
  · exact pick_of tb ao n cap p k zs w h hp h2 hk3
  · refine (pick_small tb k w (by omega)).mono ?_
    rintro e w' ⟨rfl, rfl⟩
    exact ⟨0, p, rfl, by omega, by omega, h, by omega, World.grownBy.refl _ _⟩

end Go.Proofs.Ytekidfkahpaokaa
