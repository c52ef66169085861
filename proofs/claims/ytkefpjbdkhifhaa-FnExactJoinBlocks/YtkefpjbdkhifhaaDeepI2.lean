/-
  The laws' own small functions on rows of rows of numbers.
-/
import Derived.Test.YtkefpjbdkhifhaaIntSSD
import Derived.Test.YtkefpjbdkhifhaaDeepR2
namespace Go.Proofs.Ytkefpjbdkhifhaa
open Go.RowKit

theorem toIntSSC : ToC 41 Rd2 Ow2 (szR lenI) := toIntSSD toIntSC (RdI.st .i64) ok1 (OwI.nil .i64 3)

theorem eqIntSSC : EqC 36 Rd2 (szR lenI) := eqIntSSD eqIntSC (RdI.st .i64)

theorem markIntSSC : MarkC 37 Ow2 (mkR mkI lenI) (cntR lenI) (szR lenI) := markIntSSD markIntSC ok1

theorem heldIntSSC : HeldC 38 Rd2 (mkR mkI lenI) (cntR lenI) (szR lenI) := heldIntSSD heldIntSC (RdI.st .i64)

theorem szIntSSC : SzC 39 (RdZ (RdR (RdZ (RdI .i64)))) (szR lenI) := szIntSSD szIntSC

end Go.Proofs.Ytkefpjbdkhifhaa
