/-
  The walk of the law on LensOk, over the program's contract.
-/
import Derived.Test.YtcbaiagkdphkeaaLawPrefix
import Derived.Test.YtcbaiagkdphkeaaIntRows
namespace Go.Proofs.Ytcbaiagkdphkeaa
open Go.RowKit

set_option maxHeartbeats 800000 in
theorem lawLensOk (HJ : Hid ImplLens) (ao : Option Addr) (n cap : Nat) (zs : List Int) (w : World) (hr : Rd .i64 w ao n zs) (hm : n ≤ maxLen) :
    Calls Try.prog 6 #[.slice ao n cap] w fun e w' => e = .returned (.bool true) ∧ Below w.heap.size w w' := by
  unfold maxLen at hm
  by_cases hbig : n ≤ 1048576
  · have hn : n ≤ 4194304 := by omega
    have hneg : decide ((1048576 : Int) < (n : Int)) = false := by simp; omega
    obtain ⟨b, HB⟩ : ∃ b, Hid (lensB zs = b) := ⟨_, rfl⟩
    have HR := hide hr
    clear hr
    go_enter Try.func6, Try.ntmps6
    go_wp2_with fail
    refine (toIntS ao n cap zs w (unhide HR) hn).mono ?_
    rintro e w1 ⟨rfl, o1, g1⟩
    go_wp2_with fail
    refine (specLensOk _ n n zs w1 (own_rd o1) b HB).mono ?_
    rintro e w2 ⟨rfl, rfl⟩
    have G2 := g1
    clear o1 g1
    go_wp2_with fail
    refine (toIntS ao n cap zs w2 ((unhide HR).grown G2) hn).mono ?_
    rintro e w3 ⟨rfl, o3, g3⟩
    have G3 := grown_trans G2 g3
    clear g3 G2
    go_wp2_with fail
    refine (unhide HJ _ n n zs w3 (own_rd o3) hbig b HB).mono ?_
    rintro e w4 ⟨rfl, g4⟩
    have G4 := grown_trans G3 g4
    have p3 := own_grown o3 g4
    clear o3 g4 G3
    have hne : (b != b) = false := by simp
    go_wp2_with fail
    refine (toIntS ao n cap zs w4 ((unhide HR).grown G4) hn).mono ?_
    rintro e w5 ⟨rfl, o5, g5⟩
    have G5 := grown_trans G4 g5
    have q3 := own_grown p3 g5
    clear p3 g5 G4
    go_wp2_with fail
    refine (eqIntS _ _ _ _ _ zs w5 (own_rd q3) (own_rd o5) hn).mono ?_
    rintro e w6 ⟨rfl, g6⟩
    have G6 := grown_trans G5 g6
    go_wp2
    go_ret
    exact ⟨rfl, grown_below G6⟩
  · have hpos : (1048576 : Int) < (n : Int) := by omega
    go_enter Try.func6, Try.ntmps6
    go_wp2
    go_ret
    exact ⟨rfl, Below.refl _ _⟩

end Go.Proofs.Ytcbaiagkdphkeaa
