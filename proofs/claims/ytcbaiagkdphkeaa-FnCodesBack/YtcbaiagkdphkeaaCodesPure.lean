/-
  Codes, as mathematics: each symbol's code out of its len; none begins another one; they fit.
-/
import Derived.Test.YtcbaiagkdphkeaaBestPure3
namespace Go.Proofs.Ytcbaiagkdphkeaa

/-- How many have a len. -/
def cntL (xs : List Int) (l : Nat) : Nat := (xs.filter fun x => decide (x = (l : Int))).length
theorem cntL_take (xs : List Int) (l s : Nat) (h : s < xs.length) : cntL (xs.take (s + 1)) l = cntL (xs.take s) l + (if xs.getD s 0 = (l : Int) then 1 else 0) := by
  unfold cntL
  rw [List.take_succ_eq_append_getElem h, List.filter_append, List.length_append]
  have e : xs.getD s 0 = xs[s] := by simp [h]
  rw [e]
  by_cases hx : xs[s] = (l : Int)
  · simp [hx]
  · simp [hx]
theorem cntL_mono (xs : List Int) (l : Nat) : ∀ (d s : Nat), s + d ≤ xs.length → cntL (xs.take s) l ≤ cntL (xs.take (s + d)) l
  | 0, s, _ => Nat.le_refl _
  | d + 1, s, h => by
    have h1 := cntL_mono xs l d s (by omega)
    have h2 := cntL_take xs l (s + d) (by omega)
    have e : s + (d + 1) = s + d + 1 := by omega
    rw [e, h2]
    omega
theorem cntL_below (xs : List Int) (l s : Nat) (h : s < xs.length) (hx : xs.getD s 0 = (l : Int)) (t : Nat) (hst : s < t) (ht : t ≤ xs.length) : cntL (xs.take s) l < cntL (xs.take t) l := by
  have h1 := cntL_take xs l s h
  rw [if_pos hx] at h1
  have h2 := cntL_mono xs l (t - (s + 1)) (s + 1) (by omega)
  have e : s + 1 + (t - (s + 1)) = t := by omega
  rw [e] at h2
  omega
/-- The first code of each len. -/
def firstC (xs : List Int) : Nat → Nat
  | 0 => 0
  | l + 1 => 2 * (firstC xs l + (if l = 0 then 0 else cntL xs l))
theorem first_far (xs : List Int) (l : Nat) (hl : l ≠ 0) : ∀ d, 2 ^ (d + 1) * (firstC xs l + cntL xs l) ≤ firstC xs (l + (d + 1))
  | 0 => by
    show 2 ^ (0 + 1) * _ ≤ 2 * (firstC xs l + (if l = 0 then 0 else cntL xs l))
    rw [if_neg hl]
    simp
  | d + 1 => by
    have ih := first_far xs l hl d
    have e : firstC xs (l + (d + 1 + 1)) = 2 * (firstC xs (l + (d + 1)) + (if l + (d + 1) = 0 then 0 else cntL xs (l + (d + 1)))) := rfl
    rw [e, Nat.pow_succ, Nat.mul_comm _ 2, Nat.mul_assoc]
    omega
/-- A symbol's code. -/
def codeG (xs : List Int) (s : Nat) : Int × Int := if xs.getD s 0 = 0 then (0, 0) else (xs.getD s 0, ((firstC xs (xs.getD s 0).toNat + cntL (xs.take s) (xs.getD s 0).toNat : Nat) : Int))
def codesG (xs : List Int) : List (Int × Int) := if lensB xs then (List.range xs.length).map (codeG xs) else []

theorem lens_parts {xs : List Int} (h : lensB xs = true) : xs.length ≤ 256 ∧ (∀ i, i < xs.length → 0 ≤ xs.getD i 0 ∧ xs.getD i 0 ≤ 16) ∧ 0 < krS xs ∧ krS xs ≤ 65536 := by
  unfold lensB at h
  rw [Bool.and_eq_true, Bool.and_eq_true] at h
  have hk := of_decide_eq_true h.2
  exact ⟨of_decide_eq_true h.1.1, fun i hi => of_decide_eq_true (all_get h.1.2 i hi), hk.1, hk.2⟩
theorem codes_len {xs : List Int} (h : lensB xs = true) : (codesG xs).length = xs.length := by unfold codesG; rw [if_pos h]; simp
theorem codes_at {xs : List Int} (h : lensB xs = true) (s : Nat) (hs : s < xs.length) : (codesG xs).getD s (0, 0) = codeG xs s := by unfold codesG; rw [if_pos h]; simp [hs]
theorem code_len (xs : List Int) (s : Nat) : (codeG xs s).1 = xs.getD s 0 := by
  unfold codeG
  split
  · rename_i h; exact h.symm
  · rfl
/-- A symbol with a code: its len and its rank among those of its len. -/
theorem code_parts {xs : List Int} (h : lensB xs = true) {s : Nat} (hs : s < xs.length) (h0 : xs.getD s 0 ≠ 0) : ∃ l r : Nat, 1 ≤ l ∧ l ≤ 16 ∧ xs.getD s 0 = (l : Int) ∧ r = cntL (xs.take s) l ∧ r < cntL xs l ∧ codeG xs s = ((l : Int), ((firstC xs l + r : Nat) : Int)) := by
  have hb := (lens_parts h).2.1 s hs
  obtain ⟨l, hl⟩ := Int.eq_ofNat_of_zero_le hb.1
  have hr := cntL_below xs l s hs hl xs.length hs (Nat.le_refl _)
  rw [List.take_length] at hr
  refine ⟨l, _, by omega, by omega, hl, rfl, hr, ?_⟩
  unfold codeG
  rw [if_neg h0, hl]
  rfl
/-- No code begins another one. -/
theorem code_prefix {xs : List Int} (h : lensB xs = true) {i k : Nat} (hi : i < xs.length) (hk : k < xs.length) (hik : i ≠ k) (h0 : xs.getD i 0 ≠ 0) (d : Nat) (hd : xs.getD k 0 = xs.getD i 0 + (d : Int)) : (codeG xs k).2 / 2 ^ d ≠ (codeG xs i).2 := by
  have hbi := (lens_parts h).2.1 i hi
  obtain ⟨l, r, l1, l2, hl, hr, hrl, hc⟩ := code_parts h hi h0
  obtain ⟨m, q, m1, m2, hm, hq, hql, hc2⟩ := code_parts h hk (by omega)
  rw [hc, hc2]
  show ((firstC xs m + q : Nat) : Int) / 2 ^ d ≠ ((firstC xs l + r : Nat) : Int)
  have hmd : m = l + d := by omega
  cases d with
  | zero =>
    obtain rfl : m = l := by omega
    have e : ((firstC xs m + q : Nat) : Int) / 2 ^ 0 = ((firstC xs m + q : Nat) : Int) := by simp
    rw [e]
    have hne : r ≠ q := by
      rcases Nat.lt_or_gt_of_ne hik with h1 | h1
      · have := cntL_below xs m i hi hl k h1 (by omega)
        omega
      · have := cntL_below xs m k hk hm i h1 (by omega)
        omega
    omega
  | succ d =>
    have hf := first_far xs l (by omega) d
    rw [← hmd] at hf
    have hp : 0 < 2 ^ (d + 1) := Nat.two_pow_pos _
    have h1 : firstC xs l + cntL xs l ≤ (firstC xs m + q) / 2 ^ (d + 1) := by
      rw [Nat.le_div_iff_mul_le hp, Nat.mul_comm]
      omega
    have e : ((firstC xs m + q : Nat) : Int) / 2 ^ (d + 1) = (((firstC xs m + q) / 2 ^ (d + 1) : Nat) : Int) := by
      rw [Int.natCast_ediv]
      simp
    rw [e]
    omega

/-- What lens up to l take together. -/
def krTo (xs : List Int) : Nat → Nat
  | 0 => 0
  | l + 1 => krTo xs l + cntL xs (l + 1) * 2 ^ (16 - (l + 1))
theorem first_kr (xs : List Int) : ∀ l, l ≤ 16 → (firstC xs l + (if l = 0 then 0 else cntL xs l)) * 2 ^ (16 - l) = krTo xs l
  | 0, _ => by simp [firstC, krTo]
  | l + 1, h => by
    have ih := first_kr xs l (by omega)
    have e : 2 ^ (16 - l) = 2 * 2 ^ (16 - (l + 1)) := by
      have : 16 - l = (16 - (l + 1)) + 1 := by omega
      rw [this, Nat.pow_succ, Nat.mul_comm]
    rw [if_neg (by omega), krTo, ← ih, e, Nat.add_mul]
    congr 1
    show 2 * _ * _ = _
    rw [← Nat.mul_assoc, Nat.mul_comm 2]
theorem krTo_cons (x : Int) (xs : List Int) (hx : 0 ≤ x) : ∀ l, krTo (x :: xs) l = krTo xs l + (if 0 < x ∧ x ≤ (l : Int) then 2 ^ (16 - x.toNat) else 0)
  | 0 => by
    rw [if_neg (by omega)]; rfl
  | l + 1 => by
    have ih := krTo_cons x xs hx l
    have e : cntL (x :: xs) (l + 1) = cntL xs (l + 1) + (if x = ((l + 1 : Nat) : Int) then 1 else 0) := by
      unfold cntL
      by_cases h : x = ((l + 1 : Nat) : Int)
      · simp [h]
      · rw [List.filter_cons, if_neg (by simpa using h), if_neg h]
        rfl
    rw [krTo, krTo, ih, e, Nat.add_mul]
    by_cases h1 : x = ((l + 1 : Nat) : Int)
    · rw [if_pos h1, if_neg (by omega), if_pos (by omega)]
      have : x.toNat = l + 1 := by omega
      rw [this]; omega
    · rw [if_neg h1]
      by_cases h2 : 0 < x ∧ x ≤ (l : Int)
      · rw [if_pos h2, if_pos (by omega)]; omega
      · rw [if_neg h2, if_neg (by omega)]; omega
theorem krTo_le : ∀ (xs : List Int) (l : Nat), (∀ x ∈ xs, 0 ≤ x) → krTo xs l ≤ krS xs
  | [], l, _ => by
    have : krTo [] l = 0 := by
      induction l with
      | zero => rfl
      | succ l ih => rw [krTo, ih]; simp [cntL]
    omega
  | x :: xs, l, h => by
    have ih := krTo_le xs l (fun y hy => h y (by simp [hy]))
    rw [krTo_cons x xs (h x (by simp)) l]
    have e : krS (x :: xs) = kr x + krS xs := rfl
    rw [e]
    unfold kr
    by_cases h1 : 0 < x ∧ x ≤ (l : Int)
    · rw [if_pos h1, if_pos h1.1]; omega
    · rw [if_neg h1]; omega
/-- Codes fit into their lens. -/
theorem codes_fit {xs : List Int} (h : lensB xs = true) (l : Nat) (l1 : 1 ≤ l) (l2 : l ≤ 16) : firstC xs l + cntL xs l ≤ 2 ^ l := by
  obtain ⟨_, hb, _, hk⟩ := lens_parts h
  have h1 := first_kr xs l l2
  rw [if_neg (by omega)] at h1
  have h2 := krTo_le xs l (fun x hx => by
    obtain ⟨i, hi, rfl⟩ := List.getElem_of_mem hx
    have := (hb i hi).1
    have e : xs.getD i 0 = xs[i] := by simp [hi]
    rw [e] at this
    exact this)
  have e : 2 ^ l * 2 ^ (16 - l) = 65536 := by
    rw [← Nat.pow_add]
    have : l + (16 - l) = 16 := by omega
    rw [this]
  have hp : 0 < 2 ^ (16 - l) := Nat.two_pow_pos _
  apply Nat.le_of_mul_le_mul_right _ hp
  omega
theorem code_fits {xs : List Int} (h : lensB xs = true) {s : Nat} (hs : s < xs.length) : 0 ≤ (codeG xs s).2 ∧ (codeG xs s).2 < 2 ^ (codeG xs s).1.toNat := by
  by_cases h0 : xs.getD s 0 = 0
  · unfold codeG
    rw [if_pos h0]
    decide
  · obtain ⟨l, r, l1, l2, _, _, hr, hc⟩ := code_parts h hs h0
    rw [hc]
    have := codes_fit h l l1 l2
    show 0 ≤ ((firstC xs l + r : Nat) : Int) ∧ ((firstC xs l + r : Nat) : Int) < 2 ^ ((l : Int)).toNat
    rw [Int.toNat_natCast]
    have e : ((2 ^ l : Nat) : Int) = (2 : Int) ^ l := by simp
    omega

end Go.Proofs.Ytcbaiagkdphkeaa
