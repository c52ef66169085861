/-
  Samples that are ok, in the program and in the specification.
-/
import Derived.Test.YtoeehfjbnbbijalDoorTabSpec
namespace Go.Proofs.YtoeehfjbnbbijalDoor
open Go.RowKit Go.Shelf

theorem nearestSample (n : Int) (w : World) :
    Calls Tryd.prog 18 #[.int .i64 n] w fun e w' => e = .returned (.int .i64 (min (max n (-2048)) 2047)) ∧ w = w' := by
  go_enter Tryd.func18, Tryd.ntmps18
  go_wp2
  all_goals
    go_ret
    refine ⟨ret_int ?_, rfl⟩
    first | omega | (split at * <;> omega)

end Go.Proofs.YtoeehfjbnbbijalDoor
