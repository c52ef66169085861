/-
  The program's CodeText and CodeRead as the law on them asks for them.
-/
import Derived.Test.YtcbaiagkdphkeaaLawCodesBack
import Derived.Test.YtcbaiagkdphkeaaTextImpl
import Derived.Test.YtcbaiagkdphkeaaReadImpl
namespace Go.Proofs.Ytcbaiagkdphkeaa
open Go.RowKit

theorem giveText : ImplText := fun ao n cap xs so m sc ss w hr hs hn hm => implCodeText ao n cap xs so m sc ss w hr hs hn hm
theorem giveRead : ImplRead := fun ao n cap xs bo m bc zs N w hr hz hb hn hm => implCodeRead ao n cap xs bo m bc zs N w hr hz hb hn hm

end Go.Proofs.Ytcbaiagkdphkeaa
