/-
  Bits laid into bytes: the plain mathematics.
-/
import Derived.Test.YtcbaiagkdphkeaaKit
namespace Go.Proofs.Ytcbaiagkdphkeaa
open Go.RowKit

/-- The bits of a number of so many bits, the highest first. -/
def bitsOf (l : Nat) (v : Int) : List Bool := (List.range l).map (fun i => decide (v / 2 ^ (l - 1 - i) % 2 = 1))
theorem bitsOf_len (l : Nat) (v : Int) : (bitsOf l v).length = l := by simp [bitsOf]
theorem bitsOf_take (l : Nat) (v : Int) (j : Nat) (h : j < l) : (bitsOf l v).take (j + 1) = (bitsOf l v).take j ++ [decide (v / 2 ^ (l - 1 - j) % 2 = 1)] := by
  rw [List.take_succ_eq_append_getElem (by rw [bitsOf_len]; exact h)]
  congr 1
  simp [bitsOf]
/-- The bits of all fields. -/
def allBits (fs : List (Int × Int)) : List Bool := fs.flatMap (fun f => bitsOf f.1.toNat f.2)
theorem allBits_append (a b : List (Int × Int)) : allBits (a ++ b) = allBits a ++ allBits b := by simp [allBits]
theorem allBits_take (fs : List (Int × Int)) (k : Nat) (h : k < fs.length) : allBits (fs.take (k + 1)) = allBits (fs.take k) ++ bitsOf (fs.getD k (0, 0)).1.toNat (fs.getD k (0, 0)).2 := by
  rw [List.take_succ_eq_append_getElem h, allBits_append]
  have e : fs.getD k (0, 0) = fs[k] := by simp [h]
  rw [e]
  simp [allBits]

/-- A bit as a number; behind the end all are ones. -/
def one (bs : List Bool) (j : Nat) : Int := if bs.getD j true then 1 else 0
theorem one_01 (bs : List Bool) (j : Nat) : one bs j = 0 ∨ one bs j = 1 := by unfold one; split <;> simp
theorem one_end (bs : List Bool) (j : Nat) (h : bs.length ≤ j) : one bs j = 1 := by
  unfold one
  rw [List.getD_eq_getElem?_getD, List.getElem?_eq_none h]
  rfl
/-- What k bits from a place on make. -/
def byteK (bs : List Bool) (s : Nat) : Nat → Int
  | 0 => 0
  | k + 1 => 2 * byteK bs s k + one bs (s + k)
theorem byteK_bound (bs : List Bool) (s : Nat) : ∀ k, 0 ≤ byteK bs s k ∧ byteK bs s k < 2 ^ k
  | 0 => by simp [byteK]
  | k + 1 => by
    have h := byteK_bound bs s k
    have h2 := one_01 bs (s + k)
    have e : (2 : Int) ^ (k + 1) = 2 * 2 ^ k := by rw [Int.pow_succ]; omega
    rw [byteK, e]
    omega
/-- The byte at a place. -/
def byteAt (bs : List Bool) (s : Nat) : Int := byteK bs s 8
theorem byteAt_bound (bs : List Bool) (s : Nat) : 0 ≤ byteAt bs s ∧ byteAt bs s ≤ 255 := by
  have h := byteK_bound bs s 8
  unfold byteAt
  have e : (2 : Int) ^ 8 = 256 := by decide
  omega
theorem byteAt_eq (bs : List Bool) (s : Nat) : byteAt bs s = 128 * one bs s + 64 * one bs (s + 1) + 32 * one bs (s + 2) + 16 * one bs (s + 3) + 8 * one bs (s + 4) + 4 * one bs (s + 5) + 2 * one bs (s + 6) + one bs (s + 7) := by
  simp only [byteAt, byteK, Nat.add_zero]
  omega
/-- The bytes of some bits, filled up with ones. -/
def packB (bs : List Bool) : List Int := (List.range ((bs.length + 7) / 8)).map (fun i => byteAt bs (8 * i))
theorem packB_len (bs : List Bool) : (packB bs).length = (bs.length + 7) / 8 := by simp [packB]

theorem one_snoc (bs : List Bool) (c : Bool) (j : Nat) : one (bs ++ [c]) j = if j = bs.length then (if c then 1 else 0) else one bs j := by
  unfold one
  rw [List.getD_eq_getElem?_getD, List.getD_eq_getElem?_getD, List.getElem?_append]
  by_cases h : j < bs.length
  · rw [if_pos h, if_neg (show ¬ j = bs.length by omega)]
  · rw [if_neg h]
    by_cases e : j = bs.length
    · subst e; simp
    · rw [if_neg e, List.getElem?_eq_none (by simp; omega), List.getElem?_eq_none (by omega)]
theorem byteAt_true (bs : List Bool) (s : Nat) : byteAt (bs ++ [true]) s = byteAt bs s := by
  have h : ∀ j, one (bs ++ [true]) j = one bs j := by
    intro j
    rw [one_snoc]
    split
    · rename_i e; rw [one_end bs j (by omega)]; rfl
    · rfl
  simp only [byteAt_eq, h]
theorem byteAt_other (bs : List Bool) (c : Bool) (s : Nat) (h : bs.length < s ∨ s + 8 ≤ bs.length) : byteAt (bs ++ [c]) s = byteAt bs s := by
  have h2 : ∀ k, k < 8 → one (bs ++ [c]) (s + k) = one bs (s + k) := by
    intro k hk
    rw [one_snoc, if_neg (by omega)]
  have h0 := h2 0 (by omega)
  rw [Nat.add_zero] at h0
  simp only [byteAt_eq, h0, h2 1 (by omega), h2 2 (by omega), h2 3 (by omega), h2 4 (by omega), h2 5 (by omega), h2 6 (by omega), h2 7 (by omega)]
/-- A nought laid takes its place's weight off the byte, in which that place was a one. -/
theorem byteAt_false (bs : List Bool) (t r : Nat) (hp : bs.length = 8 * t + r) (hr : r < 8) :
    byteAt (bs ++ [false]) (8 * t) = byteAt bs (8 * t) - 2 ^ (7 - r) ∧ byteAt bs (8 * t) / 2 ^ (7 - r) % 2 = 1 := by
  have e1 := one_end bs (8 * t + r) (by omega)
  have h : ∀ j, one (bs ++ [false]) j = if j = 8 * t + r then 0 else one bs j := by
    intro j; rw [one_snoc, hp]; rfl
  have q0 := one_01 bs (8 * t)
  have q1 := one_01 bs (8 * t + 1)
  have q2 := one_01 bs (8 * t + 2)
  have q3 := one_01 bs (8 * t + 3)
  have q4 := one_01 bs (8 * t + 4)
  have q5 := one_01 bs (8 * t + 5)
  have q6 := one_01 bs (8 * t + 6)
  have q7 := one_01 bs (8 * t + 7)
  have hr' : r = 0 ∨ r = 1 ∨ r = 2 ∨ r = 3 ∨ r = 4 ∨ r = 5 ∨ r = 6 ∨ r = 7 := by omega
  rcases hr' with rfl | rfl | rfl | rfl | rfl | rfl | rfl | rfl <;> simp only [byteAt_eq, h, Nat.add_zero, Nat.sub_zero] at * <;> simp at e1 ⊢ <;> omega

theorem packB_snoc (bs : List Bool) (c : Bool) : packB (bs ++ [c]) = (List.range (bs.length / 8 + 1)).map (fun i => byteAt (bs ++ [c]) (8 * i)) := by
  have e : ((bs ++ [c]).length + 7) / 8 = bs.length / 8 + 1 := by simp; omega
  rw [packB, e]
theorem packB_fill (bs : List Bool) : (List.range (bs.length / 8 + 1)).map (fun i => byteAt bs (8 * i)) = if bs.length % 8 = 0 then packB bs ++ [255] else packB bs := by
  split
  · rename_i h
    have e : (bs.length + 7) / 8 = bs.length / 8 := by omega
    rw [packB, e, List.range_succ, List.map_append]
    congr 1
    simp only [List.map_cons, List.map_nil, List.cons.injEq, and_true]
    have h2 : ∀ k, one bs (8 * (bs.length / 8) + k) = 1 := fun k => one_end bs _ (by omega)
    have h0 := h2 0
    rw [Nat.add_zero] at h0
    rw [byteAt_eq, h0, h2, h2, h2, h2, h2, h2, h2]
    rfl
  · rename_i h
    have e : (bs.length + 7) / 8 = bs.length / 8 + 1 := by omega
    rw [packB, e]
/-- What the bytes are once a one is laid. -/
theorem packB_true (bs : List Bool) : packB (bs ++ [true]) = if bs.length % 8 = 0 then packB bs ++ [255] else packB bs := by
  rw [packB_snoc, ← packB_fill]
  congr 1
  funext i
  exact byteAt_true bs _
/-- What the bytes are once a nought is laid: the last one of those with a one laid, less its weight. -/
theorem packB_false (bs : List Bool) : packB (bs ++ [false]) = (packB (bs ++ [true])).set (bs.length / 8) (byteAt bs (8 * (bs.length / 8)) - 2 ^ (7 - bs.length % 8)) := by
  rw [packB_true, ← packB_fill, packB_snoc, List.range_succ, List.map_append, List.map_append]
  rw [List.set_append_right _ _ (by simp)]
  have e : (List.range (bs.length / 8)).map (fun i => byteAt (bs ++ [false]) (8 * i)) = (List.range (bs.length / 8)).map (fun i => byteAt bs (8 * i)) := by
    apply List.map_congr_left
    intro i hi
    have := List.mem_range.1 hi
    exact byteAt_other bs false _ (.inr (by omega))
  rw [e]
  congr 1
  have h := (byteAt_false bs (bs.length / 8) (bs.length % 8) (by omega) (by omega)).1
  simp [h]
theorem packB_last (bs : List Bool) : (packB (bs ++ [true])).getD (bs.length / 8) 0 = byteAt bs (8 * (bs.length / 8)) := by
  rw [packB_true, ← packB_fill]
  simp

/-- 'x &^ (128 >> r)' where that bit of x is a one. -/
theorem andNot_u8 (x : Int) (r : Nat) (h0 : 0 ≤ x) (h1 : x ≤ 255) (hr : r < 8) (hb : x / 2 ^ (7 - r) % 2 = 1) : bits .andNot .u8 x (128 / 2 ^ r) = x - 2 ^ (7 - r) := by
  obtain ⟨n, rfl⟩ := Int.eq_ofNat_of_zero_le h0
  have hn : n < 256 := by omega
  have key : ∀ m : Fin 256, ∀ s : Fin 8, ((m.val : Int) / 2 ^ (7 - s.val) % 2 = 1 → bits .andNot .u8 (m.val : Int) (128 / 2 ^ s.val) = (m.val : Int) - 2 ^ (7 - s.val)) := by decide +kernel
  exact key ⟨n, hn⟩ ⟨r, hr⟩ hb

end Go.Proofs.Ytcbaiagkdphkeaa
