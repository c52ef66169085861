/-
  The walk of the law on PlaneOk.
-/
import Derived.Test.YtkefpjbdkhifhaaSampForms
import Derived.Test.YtkefpjbdkhifhaaSampSpec
import Derived.Test.YtkefpjbdkhifhaaGiveSamp
namespace Go.Proofs.Ytkefpjbdkhifhaa
open Go.RowKit

set_option maxHeartbeats 3200000 in
theorem lawPlaneOk_in (ao : Option Addr) (n cap : Nat) (zs : List Int) (pw ph : Int) (w : World) (hr : Rd .i64 w ao n zs) (hbig : n ≤ 1048576) :
    Calls Try.prog 5 #[.slice ao n cap, .int .i64 pw, .int .i64 ph] w fun e w' => e = .returned (.bool true) ∧ Below w.heap.size w w' := by
  all_goals
    have hdec : decide ((1048576 : Int) < (n : Int)) = false := by simp; omega
    have hn : n ≤ 4194304 := by omega
    obtain ⟨b, HB⟩ : ∃ b, Hid (planeB zs pw ph = b) := ⟨_, rfl⟩
    have hbb : (b != b) = false := by simp
    go_enter Try.func5, Try.ntmps5
    go_wp2_with fail
    refine (toIntS ao n cap zs w hr hn).mono ?_
    rintro e w1 ⟨rfl, o1, g1⟩
    have Z1 := hide g1.size
    have G1 := g1
    have B1 : Hid (∀ k, Value.ownBlock _ = some k → w.heap.size ≤ k ∧ k < w1.heap.size) := hide (fun k hk => o1.lt k hk)
    clear g1
    go_wp2_with fail
    refine (specPlaneOk _ n _ zs pw ph w1 (own_rd o1) (by omega) b HB).mono ?_
    rintro e w2 ⟨rfl, g2⟩
    have Z2 := hide g2.size
    have G2 := grown_trans G1 g2
    have Aa2 := own_grown o1 g2
    clear o1 G1 g2
    clear Aa2
    go_wp2_with fail
    refine (toIntS ao n cap zs w2 (hr.grown G2) hn).mono ?_
    rintro e w3 ⟨rfl, o3, g3⟩
    have Z3 := hide g3.size
    have G3 := grown_trans G2 g3
    have B3 : Hid (∀ k, Value.ownBlock _ = some k → w2.heap.size ≤ k ∧ k < w3.heap.size) := hide (fun k hk => o3.lt k hk)
    clear G2 g3
    go_wp2_with fail
    refine (implPlaneOk _ n _ zs pw ph w3 (own_rd o3) (by omega) b HB).mono ?_
    rintro e w4 ⟨rfl, g4⟩
    have Z4 := hide g4.size
    have G4 := grown_trans G3 g4
    have Xa4 := own_grown o3 g4
    clear o3 G3 g4
    go_wp2_with fail
    refine (toIntS ao n cap zs w4 (hr.grown G4) hn).mono ?_
    rintro e w5 ⟨rfl, o5, g5⟩
    have Z5 := hide g5.size
    have G5 := grown_trans G4 g5
    have Xa5 := own_grown Xa4 g5
    have B5 : Hid (∀ k, Value.ownBlock _ = some k → w4.heap.size ≤ k ∧ k < w5.heap.size) := hide (fun k hk => o5.lt k hk)
    clear Xa4 G4 g5
    go_wp2_with fail
    refine (eqIntS _ _ _ _ _ zs w5 (own_rd Xa5) (own_rd o5) hn).mono ?_
    rintro e w6 ⟨rfl, g6⟩
    have Z6 := hide g6.size
    have G6 := grown_trans G5 g6
    have Xa6 := own_grown Xa5 g6
    have T6 := own_grown o5 g6
    clear Xa5 o5 G5 g6
    clear T6
    go_wp2
    go_ret
    exact ⟨rfl, grown_below G6⟩

theorem lawPlaneOk (ao : Option Addr) (n cap : Nat) (zs : List Int) (pw ph : Int) (w : World) (hr : Rd .i64 w ao n zs) :
    Calls Try.prog 5 #[.slice ao n cap, .int .i64 pw, .int .i64 ph] w fun e w' => e = .returned (.bool true) ∧ Below w.heap.size w w' := by
  by_cases hbig : n ≤ 1048576
  · exact lawPlaneOk_in ao n cap zs pw ph w hr hbig
  · have hdec : decide ((1048576 : Int) < (n : Int)) = true := by simp; omega
    go_enter Try.func5, Try.ntmps5
    go_wp2
    go_ret
    exact ⟨rfl, Below.refl _ _⟩

end Go.Proofs.Ytkefpjbdkhifhaa
