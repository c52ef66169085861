/-
  The program's CostOf as the exact law asks for it.
-/
import Derived.Test.YtcbaiagkdphkeabLawCostOf
import Derived.Test.YtcbaiagkdphkeabCostImpl
namespace Go.Proofs.Ytcbaiagkdphkeab
open Go.RowKit

theorem giveCostE : ImplCostE := fun ao n cap fs bo m capb ls w hr hs hn hm z HZ => implCostOf ao n cap fs bo m capb ls w hr hs hn hm z HZ

end Go.Proofs.Ytcbaiagkdphkeab
