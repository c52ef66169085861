/-
  A closed fact on the type of numbers.
-/
import Derived.Test.YthnandohmggieaaRows
import Derived.WalkKit
namespace Go.Proofs.Ythnandohmggieaa
theorem Try.info3 : (Try.prog.info? 3).map (fun i => (i.zero, i.size, i.bytes)) = some (some (.int .i64 0), 1, 8) := by kernel_rfl
end Go.Proofs.Ythnandohmggieaa
