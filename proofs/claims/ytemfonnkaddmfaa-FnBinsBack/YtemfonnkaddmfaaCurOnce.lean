/-
  The walk of a yes or no that is drawn.
-/
import Derived.Test.YtemfonnkaddmfaaCur
namespace Go.Proofs.Ytemfonnkaddmfaa
open Go.RowKit

set_option maxHeartbeats 800000 in
theorem once_of (tb : Nat) (ao : Option Addr) (n cap p : Nat) (k : Int) (zs : List Int) (w : World) (h : Cur w tb ao n cap zs p) (hp : p ≤ 1000000000000) (hk : 2 ≤ k) (hk3 : k ≤ 2147483648) :
    Calls Try.prog 47 #[.pointer (some ⟨tb, 0, none⟩), .int .i64 k] w fun e w' => ∃ (t : Bool) (p' : Nat), e = .returned (.bool t) ∧ Cur w' tb ao n cap zs p' ∧ p' ≤ p + 2 ∧ w.grownBy w' (some tb) := by
  have H := hide h
  clear h
  go_enter Try.func47, Try.ntmps47
  go_wp2_with fail
  refine (pick_of tb ao n cap p k zs w (unhide H) hp hk hk3).mono ?_
  rintro e w1 ⟨x, p', rfl, hx0, hx1, hc, hp', hg⟩
  go_wp2
  go_ret
  exact ⟨_, p', rfl, hc, hp', hg⟩

/-- A pick, whatever it is asked. -/
theorem pick_any (tb : Nat) (ao : Option Addr) (n cap p : Nat) (k : Int) (zs : List Int) (w : World) (h : Cur w tb ao n cap zs p) (hp : p ≤ 1000000000000) (hk : 1 ≤ k) (hk3 : k ≤ 2147483648) :
    Calls Try.prog 45 #[.pointer (some ⟨tb, 0, none⟩), .int .i64 k] w fun e w' => ∃ (x : Int) (p' : Nat), e = .returned (.int .i64 x) ∧ 0 ≤ x ∧ x < k ∧ Cur w' tb ao n cap zs p' ∧ p' ≤ p + 2 ∧ w.grownBy w' (some tb) := by
  by_cases h2 : 2 ≤ k
  · exact pick_of tb ao n cap p k zs w h hp h2 hk3
  · refine (pick_small tb k w (by omega)).mono ?_
    rintro e w' ⟨rfl, rfl⟩
    exact ⟨0, p, rfl, by omega, by omega, h, by omega, World.grownBy.refl _ _⟩

end Go.Proofs.Ytemfonnkaddmfaa
