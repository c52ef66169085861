/-
  The laws' own small functions on rows of rows of numbers.
-/
import Derived.Test.YtgknninkfdgebaaIntSSD
import Derived.Test.YtgknninkfdgebaaDeepR2
namespace Go.Proofs.Ytgknninkfdgebaa
open Go.RowKit

theorem toIntSSC : ToC 34 Rd2 Ow2 (szR lenI) := toIntSSD toIntSC (RdI.st .i64) ok1 (OwI.nil .i64 3)

theorem eqIntSSC : EqC 42 Rd2 (szR lenI) := eqIntSSD eqIntSC (RdI.st .i64)

theorem markIntSSC : MarkC 48 Ow2 (mkR mkI lenI) (cntR lenI) (szR lenI) := markIntSSD markIntSC ok1

theorem szIntSSC : SzC 32 (RdZ (RdR (RdZ (RdI .i64)))) (szR lenI) := szIntSSD szIntSC

end Go.Proofs.Ytgknninkfdgebaa
