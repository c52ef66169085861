/-
  The law that lists are got back from their items, whatever comes in.
-/
import Derived.Test.YtmomfopbdpgcgaaLawRuns
import Derived.Test.YtmomfopbdpgcgaaRunImpl6
namespace Go.Proofs.Ytmomfopbdpgcgaa
open Go.RowKit

theorem implRuns_is : ImplRuns := fun so m sc ys w hr hm => implRuns7 so m sc ys w hr hm

theorem implFrom_is : ImplFrom := fun io m ic I w hr z ys ok hf => implFrom7 io m ic I w hr z ys ok hf

set_option maxRecDepth 20000 in
theorem lawRunsBack (ao bo : Option Addr) (n cap nb capb : Nat) (zs ys : List Int) (w : World) (hr : Rd .u8 w ao n zs) (hb : ∀ i, 0 ≤ zs.getD i 0 ∧ zs.getD i 0 ≤ 255)
    (hr2 : Rd .u8 w bo nb ys) (hb2 : ∀ i, 0 ≤ ys.getD i 0 ∧ ys.getD i 0 ≤ 255) :
    Calls Try.prog 4 #[.slice ao n cap, .slice bo nb capb] w fun e w' => e = .returned (.bool true) ∧ Below w.heap.size w w' := by
  by_cases hn : n ≤ 1048576
  · by_cases hn2 : nb ≤ 1048576
    · exact lawRunsBack_in implRuns_is implFrom_is ao bo n cap nb capb zs ys w hr hb hn hr2 hb2 hn2
    · clear hr hb hr2 hb2
      go_enter Try.func4, Try.ntmps4
      go_wp2_with fail
      refine (lawBig7 ao n cap false w (by unfold Hid; simp; omega)).mono ?_
      rintro e w0 ⟨rfl, rfl⟩
      go_wp2_with fail
      refine (lawBig7 bo nb capb true w (by unfold Hid; simp; omega)).mono ?_
      rintro e w0 ⟨rfl, rfl⟩
      go_wp2
      go_ret
      exact ⟨rfl, grown_below (World.grownBy.refl _ _)⟩
  · clear hr hb hr2 hb2
    go_enter Try.func4, Try.ntmps4
    go_wp2_with fail
    refine (lawBig7 ao n cap true w (by unfold Hid; simp; omega)).mono ?_
    rintro e w0 ⟨rfl, rfl⟩
    go_wp2
    go_ret
    exact ⟨rfl, grown_below (World.grownBy.refl _ _)⟩

end Go.Proofs.Ytmomfopbdpgcgaa
