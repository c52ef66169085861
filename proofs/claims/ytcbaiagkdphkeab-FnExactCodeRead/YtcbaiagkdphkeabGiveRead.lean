/-
  The program's CodeRead as the exact law asks for it.
-/
import Derived.Test.YtcbaiagkdphkeabReadForms
import Derived.Test.YtcbaiagkdphkeabReadImpl
namespace Go.Proofs.Ytcbaiagkdphkeab
open Go.RowKit

theorem giveReadE : ImplReadE := fun ao n cap xs bo m bc zs N w hr hz hb hn hm => implCodeRead ao n cap xs bo m bc zs N w hr hz hb hn hm

end Go.Proofs.Ytcbaiagkdphkeab
