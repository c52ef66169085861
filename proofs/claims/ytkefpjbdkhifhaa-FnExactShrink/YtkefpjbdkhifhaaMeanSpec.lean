/-
  A mean, rounded, in the specification (no number below 0).
-/
import Derived.Test.YtkefpjbdkhifhaaSampPure
import Derived.Test.YtkefpjbdkhifhaaBetween
namespace Go.Proofs.Ytkefpjbdkhifhaa
open Go.RowKit

theorem specFloor16 (n d u : Int) (hn : 0 ≤ n ∧ n ≤ 4000000000000) (hd : 1 ≤ d ∧ d ≤ 4000000000000) (hu : Hid (n / d = u)) (w : World) :
    Calls Try.prog 77 #[.int .i64 n, .int .i64 d] w fun e w' => e = .returned (.int .i64 u) ∧ w = w' := by
  have h0 : decide (0 ≤ n) = true := decide_eq_true hn.1
  have hd0 : ¬ d = 0 := by omega
  have hd1 : (d == 0) = false := beq_eq_false_iff_ne.2 hd0
  have ht : n.tdiv d = u := by rw [Int.tdiv_eq_ediv_of_nonneg hn.1]; exact unhide hu
  have hb : 0 ≤ u ∧ u ≤ n := by
    rw [← unhide hu]
    exact ⟨Int.ediv_nonneg hn.1 (by omega), Int.ediv_le_self _ hn.1⟩
  have hw := i64_in u (by omega)
  go_enter Try.func77, Try.ntmps77
  go_wp2
  go_ret
  exact ⟨rfl, rfl⟩

theorem specMean (s : Int) (n : Nat) (u : Int) (hs : 0 ≤ s ∧ s ≤ 1000000000000) (hn : 1 ≤ n ∧ n ≤ 1000000000) (hu : Hid (meanI s n = u)) (w : World) :
    Calls Try.prog 49 #[.int .i64 s, .int .i64 (n : Int)] w fun e w' => e = .returned (.int .i64 u) ∧ w = w' := by
  obtain ⟨a, HA⟩ : ∃ a : Int, Hid (2 * s + (n : Int) = a) := ⟨_, rfl⟩
  obtain ⟨d, HD⟩ : ∃ d : Int, Hid (2 * (n : Int) = d) := ⟨_, rfl⟩
  have hu' : Hid (a / d = u) := by
    have h := unhide hu
    unfold meanI at h
    rw [unhide HA, unhide HD] at h
    exact h
  have k1 : IntKind.i64.wrap (2 * s) = 2 * s := i64_in _ (by omega)
  have k2 : IntKind.i64.wrap (2 * s + (n : Int)) = a := by rw [i64_in _ (by omega)]; exact unhide HA
  have k3 : IntKind.i64.wrap (2 * (n : Int)) = d := by rw [i64_in _ (by omega)]; exact unhide HD
  have b1 : 0 ≤ a ∧ a ≤ 4000000000000 := by have := unhide HA; omega
  have b2 : 1 ≤ d ∧ d ≤ 4000000000000 := by have := unhide HD; omega
  go_enter Try.func49, Try.ntmps49
  go_wp2_with fail
  refine (specFloor16 a d u b1 b2 hu' w).mono ?_
  rintro e w1 ⟨rfl, rfl⟩
  go_wp2
  go_ret
  exact ⟨rfl, rfl⟩
end Go.Proofs.Ytkefpjbdkhifhaa
