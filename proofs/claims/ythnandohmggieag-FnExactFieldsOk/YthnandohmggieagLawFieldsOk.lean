/-
  The walk of the law on FieldsOk.
-/
import Derived.Test.YthnandohmggieagFieldsOk
import Derived.Test.YthnandohmggieagFields
namespace Go.Proofs.Ythnandohmggieag
open Go.RowKit

set_option maxHeartbeats 800000 in
theorem lawFieldsOk (ao : Option Addr) (n cap : Nat) (fs : List (Int × Int)) (w : World) (hr : RdF w ao n fs) (hm : n ≤ maxLen) :
    Calls Try.prog 3 #[.slice ao n cap] w fun e w' => e = .returned (.bool true) ∧ Below w.heap.size w w' := by
  unfold maxLen at hm
  by_cases hbig : n ≤ 1048576
  · have hn : n ≤ 4194304 := by omega
    have hneg : decide ((1048576 : Int) - n < 0) = false := by simp; omega
    go_enter Try.func3, Try.ntmps3
    go_wp2_with fail
    refine (szFieldS ao n cap w hbig).mono ?_
    rintro e w0 ⟨rfl, rfl⟩
    go_wp2_with fail
    refine (toFieldS ao n cap fs w hr hn).mono ?_
    rintro e w1 ⟨rfl, o1, g1⟩
    go_wp2_with fail
    refine (specFieldsOk _ n n fs w1 (own_rdF o1) hn).mono ?_
    rintro e w2 ⟨rfl, g2⟩
    have G2 := grown_trans g1 g2
    clear o1 g1 g2
    go_wp2_with fail
    refine (toFieldS ao n cap fs w2 (hr.grown G2) hn).mono ?_
    rintro e w3 ⟨rfl, o3, g3⟩
    have G3 := grown_trans G2 g3
    clear g3 G2
    go_wp2_with fail
    refine (implFieldsOk _ n n fs w3 (own_rdF o3) hn).mono ?_
    rintro e w4 ⟨rfl, g4⟩
    have G4 := grown_trans G3 g4
    have p3 := own_grown o3 g4
    clear o3 g4 G3
    have hne : (okF fs != okF fs) = false := by simp
    go_wp2_with fail
    refine (toFieldS ao n cap fs w4 (hr.grown G4) hn).mono ?_
    rintro e w5 ⟨rfl, o5, g5⟩
    have G5 := grown_trans G4 g5
    have q3 := own_grown p3 g5
    clear p3 g5 G4
    go_wp2_with fail
    refine (eqFieldS _ _ _ _ _ fs w5 (own_rdF q3) (own_rdF o5) hn).mono ?_
    rintro e w6 ⟨rfl, g6⟩
    have G6 := grown_trans G5 g6
    go_wp2
    go_ret
    exact ⟨rfl, grown_below G6⟩
  · go_enter Try.func3, Try.ntmps3
    go_wp2_with fail
    refine (szFieldS_no ao n cap w (by omega) hm).mono ?_
    rintro e w0 ⟨rfl, rfl⟩
    go_wp2
    go_ret
    exact ⟨rfl, Below.refl _ _⟩

end Go.Proofs.Ythnandohmggieag
