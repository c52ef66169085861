/-
  The program's CodeText as the exact law asks for it.
-/
import Derived.Test.YtcbaiagkdphkeabTextForms
import Derived.Test.YtcbaiagkdphkeabTextImpl
namespace Go.Proofs.Ytcbaiagkdphkeab
open Go.RowKit

theorem giveTextE : ImplTextE := fun ao n cap xs so m sc ss w hr hs hn hm => implCodeText ao n cap xs so m sc ss w hr hs hn hm

end Go.Proofs.Ytcbaiagkdphkeab
