/-
  How long what chapter 16's functions give can be.
-/
import Derived.Test.YtkefpjbdkhifhaaSampLaid
import Derived.Test.YtkefpjbdkhifhaaSampSpec
import Derived.Test.YtkefpjbdkhifhaaIntRows
namespace Go.Proofs.Ytkefpjbdkhifhaa
open Go.RowKit

theorem down_few {w h nw nh : Int} (hp : w * h ≤ 131072) (h1 : 1 ≤ nw ∧ nw ≤ w) (h2 : 1 ≤ nh ∧ nh ≤ h) : nw.toNat * nh.toNat ≤ 131072 := by
  have hm : nw * nh ≤ w * h := Int.mul_le_mul h1.2 h2.2 (by omega) (by omega)
  have h3 : ((nw.toNat * nh.toNat : Nat) : Int) = nw * nh := by push_cast; rw [Int.toNat_of_nonneg (by omega), Int.toNat_of_nonneg (by omega)]
  omega
theorem crop_few (zs : List Int) (w h nw nh : Int) : (cropG zs w h nw nh).length ≤ 131072 := by
  unfold cropG
  split
  · rename_i hc
    simp only [Bool.and_eq_true, decide_eq_true_eq] at hc
    rw [cropL, gridL_len]
    exact down_few (plane_of hc.1.1).2.2.2.1 hc.1.2 hc.2
  · simp
theorem shrink_few (zs : List Int) (w h nw nh : Int) : (shrinkG zs w h nw nh).length ≤ 131072 := by
  unfold shrinkG
  split
  · rename_i hc
    simp only [Bool.and_eq_true, decide_eq_true_eq] at hc
    rw [shrinkL, gridL_len]
    exact down_few (plane_of hc.1.1).2.2.2.1 hc.1.2 hc.2
  · simp
theorem up_few {nw nh : Int} (h : sidesB nw nh = true) : nw.toNat * nh.toNat ≤ 131072 := by
  obtain ⟨h1, h2, h3⟩ := sides_of h
  have h4 : ((nw.toNat * nh.toNat : Nat) : Int) = nw * nh := by push_cast; rw [Int.toNat_of_nonneg (by omega), Int.toNat_of_nonneg (by omega)]
  omega
theorem grow_few (zs : List Int) (w h nw nh : Int) : (growG zs w h nw nh).length ≤ 131072 := by
  unfold growG
  split
  · rename_i hc
    simp only [Bool.and_eq_true] at hc
    rw [growL, gridL_len]
    exact up_few hc.1.1.2
  · simp
theorem pad_few (zs : List Int) (w h nw nh : Int) : (padG zs w h nw nh).length ≤ 131072 := by
  unfold padG
  split
  · rename_i hc
    simp only [Bool.and_eq_true] at hc
    rw [padL, gridL_len]
    exact up_few hc.1.1.2
  · simp

end Go.Proofs.Ytkefpjbdkhifhaa
