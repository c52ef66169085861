/-
  The law that numbers are got back, whatever comes in.
-/
import Derived.Test.YtmomfopbdpgcgaaLawNums
import Derived.Test.YtmomfopbdpgcgaaRunImpl
namespace Go.Proofs.Ytmomfopbdpgcgaa
open Go.RowKit

theorem implClass_is : ImplClass := fun n w => (implClass7 n _ rfl w).mono (by rintro e w' ⟨rfl, rfl⟩; exact ⟨rfl, World.grownBy.refl _ _⟩)

theorem implBits_is : ImplBits := fun n w => (implBits7 n _ rfl w).mono (by rintro e w' ⟨rfl, rfl⟩; exact ⟨rfl, World.grownBy.refl _ _⟩)

theorem implNum_is : ImplNum := fun s b w => (implNum7 s b _ rfl w).mono (by rintro e w' ⟨rfl, rfl⟩; exact ⟨rfl, World.grownBy.refl _ _⟩)

set_option maxRecDepth 20000 in
theorem lawNumsBack (ao : Option Addr) (n cap : Nat) (zs : List Int) (w : World) (hr : Rd .u8 w ao n zs) (hb : ∀ i, 0 ≤ zs.getD i 0 ∧ zs.getD i 0 ≤ 255) :
    Calls Try.prog 3 #[.slice ao n cap] w fun e w' => e = .returned (.bool true) ∧ Below w.heap.size w w' := by
  by_cases hn : n ≤ 1048576
  · exact lawNumsBack_in implClass_is implBits_is implNum_is ao n cap zs w hr hb hn
  · clear hr hb
    go_enter Try.func3, Try.ntmps3
    go_wp2_with fail
    refine (lawBig7 ao n cap true w (by unfold Hid; simp; omega)).mono ?_
    rintro e w0 ⟨rfl, rfl⟩
    go_wp2
    go_ret
    exact ⟨rfl, grown_below (World.grownBy.refl _ _)⟩

end Go.Proofs.Ytmomfopbdpgcgaa
