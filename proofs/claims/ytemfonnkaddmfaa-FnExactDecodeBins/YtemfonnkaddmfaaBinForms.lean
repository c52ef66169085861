/-
  What EncodeBins and DecodeBins give, in the form that the laws' walks take.
-/
import Derived.Test.YtemfonnkaddmfaaBinRows
import Derived.Test.YtemfonnkaddmfaaBytes
import Derived.Test.YtemfonnkaddmfaaIntRows
import Derived.Test.YtemfonnkaddmfaaBins
namespace Go.Proofs.Ytemfonnkaddmfaa
open Go.RowKit

theorem enc_short (fs : List (Int × Int)) : (encG fs).length ≤ 200004 := by
  unfold encG
  split
  · rename_i h
    unfold binsB at h
    rw [Bool.and_eq_true] at h
    have h1 := of_decide_eq_true h.1
    have := encN_len fs
    simp
    omega
  · simp
theorem bitsD_len (B : Nat → Nat) : ∀ (l : List Nat) (P : Nat → Nat) (s : De), (bitsD B P s l).length = l.length
  | [], _, _ => rfl
  | c :: r, P, s => by rw [bitsD, List.length_cons, List.length_cons, bitsD_len B r]
theorem dec_short (bz cs : List Int) : (decG bz cs).length ≤ 200000 := by
  unfold decG
  split
  · rename_i h
    unfold ctxsB at h
    rw [Bool.and_eq_true] at h
    have h1 := of_decide_eq_true h.1
    rw [List.length_map, decN, bitsD_len, ctxsN, List.length_map]
    exact h1
  · simp

theorem specEncL (ao : Option Addr) (n cap : Nat) (fs : List (Int × Int)) (w : World) (hr : RdF w ao n fs) (L : List Int) (HL : Hid (encG fs = L)) :
    Calls Try.prog 11 #[.slice ao n cap] w fun e w' => ∃ so sc, e = .returned (.slice so L.length sc) ∧ w'.ownsRow w.heap.size 5 1 (.slice so L.length sc) L.length (L.map (Value.int .u8)) ∧ w.grownBy w' none := by
  have h := specEncode ao n cap fs w hr
  rw [unhide HL] at h
  exact h

theorem implEncL (HI : Hid ImplEnc) (ao : Option Addr) (n cap : Nat) (fs : List (Int × Int)) (w : World) (hr : RdF w ao n fs) (hn : n ≤ 1048576) (L : List Int) (HL : Hid (encG fs = L)) :
    Calls Try.prog 9 #[.slice ao n cap] w fun e w' => ∃ so sc, e = .returned (.slice so L.length sc) ∧ w'.ownsRow w.heap.size 5 1 (.slice so L.length sc) L.length (L.map (Value.int .u8)) ∧ w.grownBy w' none := by
  have h := unhide HI ao n cap fs w hr hn
  rw [unhide HL] at h
  exact h

theorem specDecL (bo : Option Addr) (m bc : Nat) (bz : List Int) (ao : Option Addr) (n cap : Nat) (cs : List Int) (w : World) (hz : Rd .u8 w bo m bz) (hr : Rd .i64 w ao n cs) (hb : ∀ i, 0 ≤ bz.getD i 0 ∧ bz.getD i 0 ≤ 255) (L : List Int) (HL : Hid (decG bz cs = L)) :
    Calls Try.prog 22 #[.slice bo m bc, .slice ao n cap] w fun e w' => ∃ so sc, e = .returned (.slice so L.length sc) ∧ w'.ownsRow w.heap.size 3 1 (.slice so L.length sc) L.length (L.map (Value.int .i64)) ∧ w.grownBy w' none := by
  have h := specDecode bo m bc bz ao n cap cs w hz hb hr
  rw [unhide HL] at h
  exact h

theorem implDecL (HI : Hid ImplDec) (bo : Option Addr) (m bc : Nat) (bz : List Int) (ao : Option Addr) (n cap : Nat) (cs : List Int) (w : World) (hz : Rd .u8 w bo m bz) (hr : Rd .i64 w ao n cs) (hb : ∀ i, 0 ≤ bz.getD i 0 ∧ bz.getD i 0 ≤ 255) (hm : m ≤ 1048576) (hn : n ≤ 1048576) (L : List Int) (HL : Hid (decG bz cs = L)) :
    Calls Try.prog 12 #[.slice bo m bc, .slice ao n cap] w fun e w' => ∃ so sc, e = .returned (.slice so L.length sc) ∧ w'.ownsRow w.heap.size 3 1 (.slice so L.length sc) L.length (L.map (Value.int .i64)) ∧ w.grownBy w' none := by
  have h := unhide HI bo m bc bz ao n cap cs w hz hb hr hm hn
  rw [unhide HL] at h
  exact h

end Go.Proofs.Ytemfonnkaddmfaa
