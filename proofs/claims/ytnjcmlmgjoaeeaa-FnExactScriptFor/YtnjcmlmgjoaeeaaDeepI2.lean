/-
  The laws' own small functions on rows of rows of numbers.
-/
import Derived.Test.YtnjcmlmgjoaeeaaIntSSD
import Derived.Test.YtnjcmlmgjoaeeaaDeepI0
namespace Go.Proofs.Ytnjcmlmgjoaeeaa
open Go.RowKit

abbrev Rd2 := RdR (RdI .i64)

abbrev Ow2 := OwR 36 (OwI .i64 3)

theorem st2 : StR Rd2 := RdR.st (RdI.st .i64)

theorem ok2 : OwOk Ow2 := OwR.ok ok1

theorem Ow2.rd {w : World} {v : Value} {L : List (List Int)} {F : List Nat} (h : Ow2 w v L F) : Rd2 w v L := OwR.rd (fun _ _ _ _ h => OwI.rd h) h

theorem eqIntSSC : EqC 28 Rd2 (szR lenI) := eqIntSSD eqIntSC (RdI.st .i64)

theorem markIntSSC : MarkC 32 Ow2 (mkR mkI lenI) (cntR lenI) (szR lenI) := markIntSSD markIntSC ok1

theorem heldIntSSC : HeldC 33 Rd2 (mkR mkI lenI) (cntR lenI) (szR lenI) := heldIntSSD heldIntSC (RdI.st .i64)

end Go.Proofs.Ytnjcmlmgjoaeeaa
