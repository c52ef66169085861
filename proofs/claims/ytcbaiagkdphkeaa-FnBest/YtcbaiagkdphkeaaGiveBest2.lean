/-
  The program's BestLens and CostOf as the law on them asks for them.
-/
import Derived.Test.YtcbaiagkdphkeaaLawBest
import Derived.Test.YtcbaiagkdphkeaaBestImpl
import Derived.Test.YtcbaiagkdphkeaaCostImpl
import Derived.Test.YtcbaiagkdphkeaaGiveLens
namespace Go.Proofs.Ytcbaiagkdphkeaa
open Go.RowKit

theorem giveBest : ImplBest := fun ao n cap fs w hr hn => implBestLens ao n cap fs w hr hn
theorem giveCost : ImplCost := fun ao n cap fs bo m capb ls w hr hs hn hm z HZ => implCostOf ao n cap fs bo m capb ls w hr hs hn hm z HZ

end Go.Proofs.Ytcbaiagkdphkeaa
