/-
  Blocks that are drawn off a code.
-/
import Derived.Test.YtoeehfjbnbbijabDoorTabDraw
namespace Go.Proofs.YtoeehfjbnbbijabDoor
open Go.RowKit

theorem lawBig5 (ao : Option Addr) (n cap : Nat) (t : Bool) (w : World) (h : Hid (decide ((1048576 : Int) < (n : Int)) = t)) :
    Calls Tryd.prog 4 #[.slice ao n cap] w fun e w' => e = .returned (.bool t) ∧ w = w' := by
  go_enter Tryd.func4, Tryd.ntmps4
  go_wp2
  go_ret
  exact ⟨ret_bool (by rw [← unhide h]), rfl⟩

end Go.Proofs.YtoeehfjbnbbijabDoor
