/-
  The program's BestLens as the exact law asks for it.
-/
import Derived.Test.YtcbaiagkdphkeaaBestForms
import Derived.Test.YtcbaiagkdphkeaaBestImpl2
namespace Go.Proofs.Ytcbaiagkdphkeaa
open Go.RowKit

theorem giveBestE : ImplBestE := fun ao n cap fs w hr hn => implBestLens ao n cap fs w hr hn

end Go.Proofs.Ytcbaiagkdphkeaa
