/-
  A reader at its start reads the bins that were told.
-/
import Derived.Test.YtekidfkahpaokaaBinBack
import Derived.Test.YtekidfkahpaokaaNumsPure
namespace Go.Proofs.Ytekidfkahpaokaa

theorem start_fol {fs : List (Int × Int)} (h : binsB fs = true) (mn : List Nat) (hm : ∀ x ∈ mn, x ≤ 255) :
    Fol (byteS (encG fs ++ mn.map (fun x : Nat => (x : Int)))) ⟨like0, ⟨prefV (byteS (encG fs ++ mn.map (fun x : Nat => (x : Int)))) 4, 4294967295, 4⟩⟩ (binsN fs) := enc_start h mn hm

end Go.Proofs.Ytekidfkahpaokaa
