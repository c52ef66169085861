/-
  What CodeRead answers, as mathematics.
-/
import Derived.Test.YtcbaiagkdphkeaaTextPure
namespace Go.Proofs.Ytcbaiagkdphkeaa

def readO (xs zs : List Int) (n : Int) : Option (List Int) := if lensB xs = true ∧ 0 ≤ n ∧ n ≤ 60000 then symsG (codesG xs) zs 0 n.toNat else none
def readG (xs zs : List Int) (n : Int) : List Int := (readO xs zs n).getD []
def readB (xs zs : List Int) (n : Int) : Bool := (readO xs zs n).isSome

end Go.Proofs.Ytcbaiagkdphkeaa
