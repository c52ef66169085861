/-
  The program's LensOk and CodesOf as the laws ask for them.
-/
import Derived.Test.YtcbaiagkdphkeaaLawPrefix
import Derived.Test.YtcbaiagkdphkeaaCodesImpl
namespace Go.Proofs.Ytcbaiagkdphkeaa
open Go.RowKit

theorem giveLens : ImplLens := fun ao n cap xs w hr hn b HB => (implLensOk ao n cap xs w hr hn b HB).mono fun e w' h => ⟨h.1, by rw [h.2]; exact World.grownBy.refl _ _⟩

theorem giveCodes : ImplCodes := fun ao n cap xs w hr hn => implCodesOf ao n cap xs w hr hn

end Go.Proofs.Ytcbaiagkdphkeaa
