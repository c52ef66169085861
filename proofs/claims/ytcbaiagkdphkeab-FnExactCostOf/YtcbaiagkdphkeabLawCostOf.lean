/-
  The walk of the law on CostOf, over the program's contract.
-/
import Derived.Test.YtcbaiagkdphkeabCostSpec
import Derived.Test.YtcbaiagkdphkeabIntRows
namespace Go.Proofs.Ytcbaiagkdphkeab
open Go.RowKit

def ImplCostE : Prop := ∀ (ao : Option Addr) (n cap : Nat) (fs : List Int) (bo : Option Addr) (m capb : Nat) (ls : List Int) (w : World), Rd .i64 w ao n fs → Rd .i64 w bo m ls → n ≤ 1048576 → m ≤ 1048576 → ∀ z, Hid (costG fs ls = z) →
  Calls Try.prog 8 #[.slice ao n cap, .slice bo m capb] w fun e w' => e = .returned (.int .i64 z) ∧ w.grownBy w' none

set_option maxHeartbeats 1600000 in
theorem lawCostOf (HJ : Hid ImplCostE) (ao bo : Option Addr) (n cap m capb : Nat) (zs ys : List Int) (w : World) (hr : Rd .i64 w ao n zs) (hs : Rd .i64 w bo m ys) (hm : n ≤ maxLen) (hm2 : m ≤ maxLen) :
    Calls Try.prog 3 #[.slice ao n cap, .slice bo m capb] w fun e w' => e = .returned (.bool true) ∧ Below w.heap.size w w' := by
  unfold maxLen at hm hm2
  by_cases hbig : n ≤ 1048576
  · have hneg : decide ((1048576 : Int) < (n : Int)) = false := by simp; omega
    by_cases hbig2 : m ≤ 1048576
    · have hneg2 : decide ((1048576 : Int) < (m : Int)) = false := by simp; omega
      have hn : n ≤ 4194304 := by omega
      have hm' : m ≤ 4194304 := by omega
      obtain ⟨z, HZ⟩ : ∃ z, Hid (costG zs ys = z) := ⟨_, rfl⟩
      have HR := hide hr
      have HS := hide hs
      clear hr hs
      go_enter Try.func3, Try.ntmps3
      go_wp2_with fail
      refine (toIntS ao n cap zs w (unhide HR) hn).mono ?_
      rintro e w1 ⟨rfl, o1, g1⟩
      have G1 := hide g1
      have O1 := hide o1
      clear o1 g1
      go_wp2_with fail
      refine (toIntS bo m capb ys w1 ((unhide HS).grown (unhide G1)) hm').mono ?_
      rintro e w2 ⟨rfl, o2, g2⟩
      have G2 := hide (grown_trans (unhide G1) g2)
      have O12 := hide (own_rd (own_grown (unhide O1) g2))
      have O2 := hide (own_rd o2)
      clear o2 g2 O1 G1
      go_wp2_with fail
      refine (specCostOf _ n n zs _ m m ys w2 (unhide O12) (unhide O2) z HZ).mono ?_
      rintro e w3 ⟨rfl, g3⟩
      have G3 := hide (grown_trans (unhide G2) g3)
      clear g3 O12 O2 G2
      go_wp2_with fail
      refine (toIntS ao n cap zs w3 ((unhide HR).grown (unhide G3)) hn).mono ?_
      rintro e w4 ⟨rfl, o4, g4⟩
      have G4 := hide (grown_trans (unhide G3) g4)
      have O4 := hide (own_rd o4)
      clear o4 g4 G3
      go_wp2_with fail
      refine (toIntS bo m capb ys w4 ((unhide HS).grown (unhide G4)) hm').mono ?_
      rintro e w5 ⟨rfl, o5, g5⟩
      have G5 := hide (grown_trans (unhide G4) g5)
      have O45 := hide ((unhide O4).grown g5)
      have O5 := hide (own_rd o5)
      clear o5 g5 O4 G4
      go_wp2_with fail
      refine (unhide HJ _ n n zs _ m m ys w5 (unhide O45) (unhide O5) hbig hbig2 z HZ).mono ?_
      rintro e w6 ⟨rfl, g6⟩
      have G6 := hide (grown_trans (unhide G5) g6)
      have O46 := hide ((unhide O45).grown g6)
      have O56 := hide ((unhide O5).grown g6)
      clear g6 O45 O5 G5
      have hne : (z != z) = false := by simp
      go_wp2_with fail
      refine (toIntS ao n cap zs w6 ((unhide HR).grown (unhide G6)) hn).mono ?_
      rintro e w7 ⟨rfl, o7, g7⟩
      have G7 := hide (grown_trans (unhide G6) g7)
      have O47 := hide ((unhide O46).grown g7)
      have O57 := hide ((unhide O56).grown g7)
      have O7 := hide (own_rd o7)
      clear o7 g7 O46 O56 G6
      go_wp2_with fail
      refine (eqIntS _ _ _ _ _ zs w7 (unhide O47) (unhide O7) hn).mono ?_
      rintro e w8 ⟨rfl, g8⟩
      have G8 := hide (grown_trans (unhide G7) g8)
      have O58 := hide ((unhide O57).grown g8)
      clear g8 O47 O57 O7 G7
      go_wp2_with fail
      refine (toIntS bo m capb ys w8 ((unhide HS).grown (unhide G8)) hm').mono ?_
      rintro e w9 ⟨rfl, o9, g9⟩
      have G9 := hide (grown_trans (unhide G8) g9)
      have O59 := hide ((unhide O58).grown g9)
      have O9 := hide (own_rd o9)
      clear o9 g9 O58 G8
      go_wp2_with fail
      refine (eqIntS _ _ _ _ _ ys w9 (unhide O59) (unhide O9) hm').mono ?_
      rintro e w10 ⟨rfl, g10⟩
      have HF := hide (grown_below (grown_trans (unhide G9) g10))
      clear g10
      go_wp2
      go_ret
      exact ⟨rfl, unhide HF⟩
    · have hpos2 : decide ((1048576 : Int) < (m : Int)) = true := by simp; omega
      go_enter Try.func3, Try.ntmps3
      go_wp2
      go_ret
      exact ⟨rfl, Below.refl _ _⟩
  · have hpos : decide ((1048576 : Int) < (n : Int)) = true := by simp; omega
    go_enter Try.func3, Try.ntmps3
    go_wp2
    go_ret
    exact ⟨rfl, Below.refl _ _⟩

end Go.Proofs.Ytcbaiagkdphkeab
