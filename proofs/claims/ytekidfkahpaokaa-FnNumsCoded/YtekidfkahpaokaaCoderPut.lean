/-
  A bit is told, in the specification.
-/
import Derived.Test.YtekidfkahpaokaaCoderLay
namespace Go.Proofs.Ytekidfkahpaokaa
open Go.RowKit

theorem wide_lo {s : En} (h : OkE s) {p : Nat} (hp : okP p) (b : Nat) : 16777216 ≤ (wideE (midE s p b)).rang := (put_ok h hp b).lo

end Go.Proofs.Ytekidfkahpaokaa
