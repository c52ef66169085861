/-
  The walks of the laws on classes, bits and numbers.
-/
import Derived.Test.YtmomfopbdpgcgaaRunSpec
import Derived.Test.YtmomfopbdpgcgaaRunImpl
namespace Go.Proofs.Ytmomfopbdpgcgaa
open Go.RowKit

theorem lawClassOf (n : Int) (w : World) :
    Calls Try.prog 5 #[.int .i64 n] w fun e w' => e = .returned (.bool true) ∧ Below w.heap.size w w' := by
  obtain ⟨k, HK⟩ : ∃ k, Hid (classI n = k) := ⟨_, rfl⟩
  have hkk : (k != k) = false := by simp
  go_enter Try.func5, Try.ntmps5
  go_wp2_with fail
  refine (specClassOf n k HK w).mono ?_
  rintro e w1 ⟨rfl, rfl⟩
  go_wp2_with fail
  refine (implClass7 n k HK w1).mono ?_
  rintro e w2 ⟨rfl, rfl⟩
  go_wp2
  go_ret
  exact ⟨rfl, grown_below (World.grownBy.refl _ _)⟩

theorem lawBitsOf (n : Int) (w : World) :
    Calls Try.prog 6 #[.int .i64 n] w fun e w' => e = .returned (.bool true) ∧ Below w.heap.size w w' := by
  obtain ⟨k, HK⟩ : ∃ k, Hid (bitsI n = k) := ⟨_, rfl⟩
  have hkk : (k != k) = false := by simp
  go_enter Try.func6, Try.ntmps6
  go_wp2_with fail
  refine (specBitsOf n k HK w).mono ?_
  rintro e w1 ⟨rfl, rfl⟩
  go_wp2_with fail
  refine (implBits7 n k HK w1).mono ?_
  rintro e w2 ⟨rfl, rfl⟩
  go_wp2
  go_ret
  exact ⟨rfl, grown_below (World.grownBy.refl _ _)⟩

theorem lawNumOf (s b : Int) (w : World) :
    Calls Try.prog 7 #[.int .i64 s, .int .i64 b] w fun e w' => e = .returned (.bool true) ∧ Below w.heap.size w w' := by
  obtain ⟨k, HK⟩ : ∃ k, Hid (numI s b = k) := ⟨_, rfl⟩
  have hkk : (k != k) = false := by simp
  go_enter Try.func7, Try.ntmps7
  go_wp2_with fail
  refine (specNumOf s b k HK w).mono ?_
  rintro e w1 ⟨rfl, rfl⟩
  go_wp2_with fail
  refine (implNum7 s b k HK w1).mono ?_
  rintro e w2 ⟨rfl, rfl⟩
  go_wp2
  go_ret
  exact ⟨rfl, grown_below (World.grownBy.refl _ _)⟩

end Go.Proofs.Ytmomfopbdpgcgaa
