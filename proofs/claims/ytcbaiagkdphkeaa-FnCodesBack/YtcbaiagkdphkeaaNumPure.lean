/-
  Bits and numbers at a place of bytes, and of bytes that bits were laid in: the plain mathematics.
-/
import Derived.Test.YtcbaiagkdphkeaaPackPure
namespace Go.Proofs.Ytcbaiagkdphkeaa
open Go.RowKit

/-- The bit at a place of the bytes, the highest of each byte first. -/
def bitAt (zs : List Int) (p : Nat) : Int := (zs.getD (p / 8) 0) / 2 ^ (7 - p % 8) % 2

/-- The number that the bits from a place on make. -/
def numAt (zs : List Int) (p : Nat) : Nat → Int
  | 0 => 0
  | m + 1 => 2 * numAt zs p m + bitAt zs (p + m)

theorem bitAt_01 (zs : List Int) (p : Nat) : 0 ≤ bitAt zs p ∧ bitAt zs p ≤ 1 := by unfold bitAt; omega
theorem numAt_bound (zs : List Int) (p : Nat) : ∀ m, 0 ≤ numAt zs p m ∧ numAt zs p m < 2 ^ m
  | 0 => by simp [numAt]
  | m + 1 => by
    have h := numAt_bound zs p m
    have h2 := bitAt_01 zs (p + m)
    have e : (2 : Int) ^ (m + 1) = 2 * 2 ^ m := by rw [Int.pow_succ]; omega
    rw [numAt, e]
    omega
theorem numAt_small (zs : List Int) (p m : Nat) (h : m ≤ 16) : 0 ≤ numAt zs p m ∧ numAt zs p m < 65536 := by
  have h1 := numAt_bound zs p m
  have h2 := (pow_small m (by omega)).2
  rw [Int.toNat_natCast] at h2
  omega

theorem packB_get (bs : List Bool) (i : Nat) (h : i < (packB bs).length) : (packB bs).getD i 0 = byteAt bs (8 * i) := by
  rw [packB_len] at h
  simp [packB, h]

/-- A bit of the bytes is the bit that was laid, or a one behind the end. -/
theorem bitAt_pack (bs : List Bool) (q : Nat) (h : q < 8 * (packB bs).length) : bitAt (packB bs) q = one bs q := by
  unfold bitAt
  rw [packB_get bs (q / 8) (by omega)]
  have hq : q = 8 * (q / 8) + q % 8 := by omega
  generalize q / 8 = t at *
  have hr : q % 8 < 8 := Nat.mod_lt _ (by omega)
  generalize q % 8 = r at *
  subst hq
  have hb : ∀ j, 0 ≤ one bs j ∧ one bs j ≤ 1 := fun j => by rcases one_01 bs j with h | h <;> omega
  have q0 := hb (8 * t)
  have q1 := hb (8 * t + 1)
  have q2 := hb (8 * t + 2)
  have q3 := hb (8 * t + 3)
  have q4 := hb (8 * t + 4)
  have q5 := hb (8 * t + 5)
  have q6 := hb (8 * t + 6)
  have q7 := hb (8 * t + 7)
  rw [byteAt_eq]
  clear h hb
  have hr' : r = 0 ∨ r = 1 ∨ r = 2 ∨ r = 3 ∨ r = 4 ∨ r = 5 ∨ r = 6 ∨ r = 7 := by omega
  rcases hr' with rfl | rfl | rfl | rfl | rfl | rfl | rfl | rfl
  all_goals
    simp only [Nat.add_zero, Nat.sub_zero, Nat.reduceSub, Int.reducePow]
    generalize one bs (8 * t) = a0 at *
    generalize one bs (8 * t + 1) = a1 at *
    generalize one bs (8 * t + 2) = a2 at *
    generalize one bs (8 * t + 3) = a3 at *
    generalize one bs (8 * t + 4) = a4 at *
    generalize one bs (8 * t + 5) = a5 at *
    generalize one bs (8 * t + 6) = a6 at *
    generalize one bs (8 * t + 7) = a7 at *
    omega

theorem numAt_pack (bs : List Bool) (p : Nat) : ∀ m, p + m ≤ 8 * (packB bs).length → numAt (packB bs) p m = byteK bs p m
  | 0, _ => rfl
  | m + 1, h => by rw [numAt, byteK, numAt_pack bs p m (by omega), bitAt_pack bs (p + m) (by omega)]

/-- The bits of a number make the number. -/
theorem byteK_bits (bs : List Bool) (p l : Nat) (v : Int) (h0 : 0 ≤ v) (h1 : v < 2 ^ l) (hb : ∀ i, i < l → one bs (p + i) = v / 2 ^ (l - 1 - i) % 2) : ∀ j, j ≤ l → byteK bs p j = v / 2 ^ (l - j)
  | 0, _ => by
    rw [byteK, Nat.sub_zero, Int.ediv_eq_zero_of_lt h0 h1]
  | j + 1, hj => by
    rw [byteK, byteK_bits bs p l v h0 h1 hb j (by omega), hb j (by omega)]
    have e1 : l - j = (l - (j + 1)) + 1 := by omega
    have e2 : l - 1 - j = l - (j + 1) := by omega
    rw [e1, e2, Int.pow_succ, ← Int.ediv_ediv_of_nonneg (by exact Int.le_of_lt (Int.pow_pos (by decide)))]
    generalize v / 2 ^ (l - (j + 1)) = y
    omega

theorem byteK_ones (bs : List Bool) (p : Nat) (hp : bs.length ≤ p) : ∀ j, byteK bs p j = 2 ^ j - 1
  | 0 => by simp [byteK]
  | j + 1 => by
    rw [byteK, byteK_ones bs p hp j, one_end bs (p + j) (by omega), Int.pow_succ]
    omega

/-- What the bits of one field are among all. -/
theorem one_mid (pre post : List Bool) (l : Nat) (v : Int) (i : Nat) (hi : i < l) : one (pre ++ (bitsOf l v ++ post)) (pre.length + i) = v / 2 ^ (l - 1 - i) % 2 := by
  unfold one
  rw [List.getD_eq_getElem?_getD, List.getElem?_append_right (by omega), Nat.add_sub_cancel_left, List.getElem?_append_left (by rw [bitsOf_len]; exact hi)]
  have h2 : v / 2 ^ (l - 1 - i) % 2 = 0 ∨ v / 2 ^ (l - 1 - i) % 2 = 1 := by omega
  have e : (bitsOf l v)[i]? = some (decide (v / 2 ^ (l - 1 - i) % 2 = 1)) := by simp [bitsOf, hi]
  rw [e]
  rcases h2 with h | h <;> simp [h]

end Go.Proofs.Ytcbaiagkdphkeaa
