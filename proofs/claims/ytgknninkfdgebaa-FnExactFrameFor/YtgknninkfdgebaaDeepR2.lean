/-
  Rows of rows of numbers, as they are read and owned.
-/
import Derived.Test.YtgknninkfdgebaaDeepI0
namespace Go.Proofs.Ytgknninkfdgebaa
open Go.RowKit

theorem infoIntSS : (Try.prog.info? 22).map (fun i => (i.zero, i.size, i.bytes)) = some (some (.slice none 0 0), 1, 24) := by kernel_rfl

abbrev Rd2 := RdR (RdI .i64)

abbrev Ow2 := OwR 22 (OwI .i64 3)

theorem st2 : StR Rd2 := RdR.st (RdI.st .i64)

theorem ok2 : OwOk Ow2 := OwR.ok ok1

theorem Ow2.rd {w : World} {v : Value} {L : List (List Int)} {F : List Nat} (h : Ow2 w v L F) : Rd2 w v L := OwR.rd (fun _ _ _ _ h => OwI.rd h) h

end Go.Proofs.Ytgknninkfdgebaa
