/-
  What the program gives to the laws of chapter 9.
-/
import Derived.Test.YtemfonnkaddmfaaEncImpl5
import Derived.Test.YtemfonnkaddmfaaDecImpl3
import Derived.Test.YtemfonnkaddmfaaBinRows
namespace Go.Proofs.Ytemfonnkaddmfaa

theorem giveEnc : ImplEnc := fun ao n cap fs w hr _ => implEncode ao n cap fs w hr
theorem giveDec : ImplDec := fun bo m bc bz ao n cap cs w hz hb hr hm _ => implDecode bo m bc bz ao n cap cs w hz hb hr hm

end Go.Proofs.Ytemfonnkaddmfaa
