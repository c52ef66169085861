/-
  Bits that were laid are read back: the plain mathematics.
-/
import Derived.Test.YthnandohmggieaaPackSpec
import Derived.Test.YthnandohmggieaaUnpack
namespace Go.Proofs.Ythnandohmggieaa
open Go.RowKit

theorem packB_get (bs : List Bool) (i : Nat) (h : i < (packB bs).length) : (packB bs).getD i 0 = byteAt bs (8 * i) := by
  rw [packB_len] at h
  simp [packB, h]

/-- A bit of the bytes is the bit that was laid, or a one behind the end. -/
theorem bitAt_pack (bs : List Bool) (q : Nat) (h : q < 8 * (packB bs).length) : bitAt (packB bs) q = one bs q := by
  unfold bitAt
  rw [packB_get bs (q / 8) (by omega)]
  have hq : q = 8 * (q / 8) + q % 8 := by omega
  generalize q / 8 = t at *
  have hr : q % 8 < 8 := Nat.mod_lt _ (by omega)
  generalize q % 8 = r at *
  subst hq
  have hb : ∀ j, 0 ≤ one bs j ∧ one bs j ≤ 1 := fun j => by rcases one_01 bs j with h | h <;> omega
  have q0 := hb (8 * t)
  have q1 := hb (8 * t + 1)
  have q2 := hb (8 * t + 2)
  have q3 := hb (8 * t + 3)
  have q4 := hb (8 * t + 4)
  have q5 := hb (8 * t + 5)
  have q6 := hb (8 * t + 6)
  have q7 := hb (8 * t + 7)
  rw [byteAt_eq]
  clear h hb
  have hr' : r = 0 ∨ r = 1 ∨ r = 2 ∨ r = 3 ∨ r = 4 ∨ r = 5 ∨ r = 6 ∨ r = 7 := by omega
  rcases hr' with rfl | rfl | rfl | rfl | rfl | rfl | rfl | rfl
  all_goals
    simp only [Nat.add_zero, Nat.sub_zero, Nat.reduceSub, Int.reducePow]
    generalize one bs (8 * t) = a0 at *
    generalize one bs (8 * t + 1) = a1 at *
    generalize one bs (8 * t + 2) = a2 at *
    generalize one bs (8 * t + 3) = a3 at *
    generalize one bs (8 * t + 4) = a4 at *
    generalize one bs (8 * t + 5) = a5 at *
    generalize one bs (8 * t + 6) = a6 at *
    generalize one bs (8 * t + 7) = a7 at *
    omega

theorem numAt_pack (bs : List Bool) (p : Nat) : ∀ m, p + m ≤ 8 * (packB bs).length → numAt (packB bs) p m = byteK bs p m
  | 0, _ => rfl
  | m + 1, h => by rw [numAt, byteK, numAt_pack bs p m (by omega), bitAt_pack bs (p + m) (by omega)]

/-- The bits of a number make the number. -/
theorem byteK_bits (bs : List Bool) (p l : Nat) (v : Int) (h0 : 0 ≤ v) (h1 : v < 2 ^ l) (hb : ∀ i, i < l → one bs (p + i) = v / 2 ^ (l - 1 - i) % 2) : ∀ j, j ≤ l → byteK bs p j = v / 2 ^ (l - j)
  | 0, _ => by
    rw [byteK, Nat.sub_zero, Int.ediv_eq_zero_of_lt h0 h1]
  | j + 1, hj => by
    rw [byteK, byteK_bits bs p l v h0 h1 hb j (by omega), hb j (by omega)]
    have e1 : l - j = (l - (j + 1)) + 1 := by omega
    have e2 : l - 1 - j = l - (j + 1) := by omega
    rw [e1, e2, Int.pow_succ, ← Int.ediv_ediv_of_nonneg (by exact Int.le_of_lt (Int.pow_pos (by decide)))]
    generalize v / 2 ^ (l - (j + 1)) = y
    omega

theorem byteK_ones (bs : List Bool) (p : Nat) (hp : bs.length ≤ p) : ∀ j, byteK bs p j = 2 ^ j - 1
  | 0 => by simp [byteK]
  | j + 1 => by
    rw [byteK, byteK_ones bs p hp j, one_end bs (p + j) (by omega), Int.pow_succ]
    omega

/-- What the bits of one field are among all. -/
theorem one_mid (pre post : List Bool) (l : Nat) (v : Int) (i : Nat) (hi : i < l) : one (pre ++ (bitsOf l v ++ post)) (pre.length + i) = v / 2 ^ (l - 1 - i) % 2 := by
  unfold one
  rw [List.getD_eq_getElem?_getD, List.getElem?_append_right (by omega), Nat.add_sub_cancel_left, List.getElem?_append_left (by rw [bitsOf_len]; exact hi)]
  have h2 : v / 2 ^ (l - 1 - i) % 2 = 0 ∨ v / 2 ^ (l - 1 - i) % 2 = 1 := by omega
  have e : (bitsOf l v)[i]? = some (decide (v / 2 ^ (l - 1 - i) % 2 = 1)) := by simp [bitsOf, hi]
  rw [e]
  rcases h2 with h | h <;> simp [h]

theorem unp_back (fs : List (Int × Int)) : ∀ (pre : List Bool) (r : Nat), fs.all fieldB = true → 8 * (packB (pre ++ allBits fs)).length = (pre ++ allBits fs).length + r → r ≤ 7 →
    unp (packB (pre ++ allBits fs)) pre.length (fs.map (·.1) ++ [(r : Int)]) = some (fs.map (·.2) ++ [2 ^ r - 1]) := by
  induction fs with
  | nil =>
    intro pre r _ hlen hr
    have e : allBits [] = [] := rfl
    rw [e, List.append_nil] at hlen ⊢
    simp only [List.map_nil, List.nil_append]
    rw [unp, if_pos ⟨by omega, by rw [Int.toNat_natCast]; omega⟩, unp, Int.toNat_natCast, numAt_pack _ _ _ (by omega), byteK_ones _ _ (Nat.le_refl _)]
    rfl
  | cons f fs ih =>
    intro pre r hall hlen hr
    simp only [List.all_cons, Bool.and_eq_true] at hall
    have hf := of_decide_eq_true hall.1
    obtain ⟨x, v⟩ := f
    obtain ⟨⟨hx0, hx1⟩, ⟨hv0, hv1⟩⟩ := hf
    have hx0' : 0 ≤ x := hx0
    obtain ⟨l, rfl⟩ := Int.eq_ofNat_of_zero_le hx0'
    have hl16 : (l : Int) ≤ 16 := hx1
    have hv1' : v < 2 ^ l := by simpa using hv1
    have e : allBits ((↑l, v) :: fs) = bitsOf l v ++ allBits fs := by simp [allBits]
    rw [e] at hlen ⊢
    simp only [List.map_cons, List.cons_append]
    have hroom : pre.length + l ≤ 8 * (packB (pre ++ (bitsOf l v ++ allBits fs))).length := by
      rw [hlen]; simp only [List.length_append, bitsOf_len]; omega
    rw [unp, if_pos ⟨⟨by omega, hl16⟩, by rw [Int.toNat_natCast]; exact hroom⟩, Int.toNat_natCast, numAt_pack _ _ _ hroom,
      byteK_bits _ pre.length l v hv0 hv1' (fun i hi => one_mid pre (allBits fs) l v i hi) l (Nat.le_refl _)]
    have hih := ih (pre ++ bitsOf l v) r hall.2 (by rw [List.append_assoc]; exact hlen) hr
    rw [List.append_assoc, List.length_append, bitsOf_len] at hih
    rw [hih]
    simp

/-- Fields that are well are read back from their bytes, with ones behind them. -/
theorem fields_back (fs : List (Int × Int)) (h : okF fs = true) (r : Nat) (hr : r ≤ 7) (hlen : 8 * (packB (allBits fs)).length = (allBits fs).length + r) :
    unp (packB (allBits fs)) 0 (fs.map (·.1) ++ [(r : Int)]) = some (fs.map (·.2) ++ [2 ^ r - 1]) := by
  simp only [okF, Bool.and_eq_true] at h
  have := unp_back fs [] r h.1 (by simpa using hlen) hr
  simpa using this

end Go.Proofs.Ythnandohmggieaa
