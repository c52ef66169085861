/-
  Whether a component is in a frame, in the program.
-/
import Derived.Test.YtnjcmlmgjoaeeaaFrameImpl3
import Derived.Test.YtnjcmlmgjoaeeaaGeoPure
namespace Go.Proofs.Ytnjcmlmgjoaeeaa
open Go.RowKit

theorem hasComp (X : Array Value) (p wd ht rs : Int) (n : Nat) (C : Nat → Nat → Int) (hX : Fx X p wd ht rs n C) (hn : n ≤ 4) (c : Int) (t : Bool) (HT : Hid (decide (0 ≤ c ∧ c ≤ (n : Int) - 1) = t)) (w : World) :
    Calls Try.prog 87 #[.agg X, .int .i64 c] w fun e w' => e = .returned (.bool t) ∧ w.grownBy w' none := by
  have hs := hX.size
  have h4 := hX.c4
  have h4' : X[4] = .int .i64 n := by rw [Array.getElem?_eq_getElem (by omega)] at h4; simpa using h4
  have hw := i64_in ((n : Int) - 1) (by omega)
  clear h4 hX
  go_enter Try.func87, Try.ntmps87
  go_wp2_with fail
  refine (inRange c 0 ((n : Int) - 1) t HT _).mono ?_
  rintro e w1 ⟨rfl, rfl⟩
  go_wp2
  go_ret
  exact ⟨rfl, grown_alloc (World.grownBy.refl _ _) _⟩

theorem hasComp_none (c : Int) (w : World) :
    Calls Try.prog 87 #[.agg #[.int .i64 0, .int .i64 0, .int .i64 0, .int .i64 0, .int .i64 0, .int .i64 0, .int .i64 0, .int .i64 0, .int .i64 0, .int .i64 0, .int .i64 0, .int .i64 0, .int .i64 0, .int .i64 0, .int .i64 0, .int .i64 0, .int .i64 0, .int .i64 0, .int .i64 0, .int .i64 0, .int .i64 0], .int .i64 c] w fun e w' => e = .returned (.bool false) ∧ w.grownBy w' none := by
  have HT : Hid (decide (0 ≤ c ∧ c ≤ (-1 : Int)) = false) := decide_eq_false (by omega)
  go_enter Try.func87, Try.ntmps87
  go_wp2_with fail
  refine (inRange c 0 (-1) false HT _).mono ?_
  rintro e w1 ⟨rfl, rfl⟩
  go_wp2
  go_ret
  exact ⟨rfl, grown_alloc (World.grownBy.refl _ _) _⟩

end Go.Proofs.Ytnjcmlmgjoaeeaa
