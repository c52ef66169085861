/-
  Runs, as mathematics: classes, bits, numbers, the items of a list, and the list back from its items.
-/
import Derived.Test.YtekidfkahpaokaaKit
namespace Go.Proofs.Ytekidfkahpaokaa

/-- How often a number can be halved until it is 0. -/
def cls (a : Nat) : Nat := if a = 0 then 0 else Nat.log2 a + 1
theorem cls_zero : cls 0 = 0 := rfl
theorem cls_half {a : Nat} (h : a ≠ 0) : cls a = cls (a / 2) + 1 := by
  unfold cls
  rw [if_neg h]
  by_cases h2 : a / 2 = 0
  · obtain rfl : a = 1 := by omega
    rfl
  · rw [if_neg h2, Nat.log2_def, if_pos (by omega)]
theorem cls_lt (a : Nat) : a < 2 ^ cls a := by
  unfold cls
  by_cases h : a = 0
  · subst h; decide
  · rw [if_neg h]; exact Nat.lt_log2_self
theorem cls_ge {a : Nat} (h : a ≠ 0) : 2 ^ (cls a - 1) ≤ a := by
  unfold cls
  rw [if_neg h, Nat.add_sub_cancel]
  exact Nat.log2_self_le h
theorem cls_pos {a : Nat} : 0 < cls a ↔ a ≠ 0 := by
  unfold cls
  by_cases h : a = 0
  · simp [h]
  · simp [h]
theorem cls_le {a : Nat} (h : a ≤ 32767) : cls a ≤ 15 := by
  unfold cls
  by_cases h0 : a = 0
  · simp [h0]
  · rw [if_neg h0]
    have := (Nat.log2_lt h0 (k := 15)).2 (by omega)
    omega

/-- A number of at most 32767, whatever its sign. -/
def coefB (n : Int) : Bool := decide (-32767 ≤ n ∧ n ≤ 32767)
def classI (n : Int) : Int := if coefB n then (cls n.natAbs : Int) else -1
def bitsI (n : Int) : Int := if coefB n then (if n < 0 then n + 2 ^ cls n.natAbs - 1 else n) else -1
def numI (s b : Int) : Int :=
  if (0 ≤ s ∧ s ≤ 15) ∧ (0 ≤ b ∧ b ≤ 2 ^ s.toNat - 1) then (if 0 < s ∧ b < 2 ^ (s.toNat - 1) then b - 2 ^ s.toNat + 1 else b) else 0

theorem pow_step {k : Nat} (h : 0 < k) : (2 : Int) ^ k = 2 * 2 ^ (k - 1) := by
  obtain ⟨j, rfl⟩ : ∃ j, k = j + 1 := ⟨k - 1, by omega⟩
  rw [Nat.add_sub_cancel, Int.pow_succ, Int.mul_comm]
theorem pow_cast (k : Nat) : ((2 ^ k : Nat) : Int) = (2 : Int) ^ k := by simp
theorem class_bounds {n : Int} (h : coefB n = true) : 0 ≤ classI n ∧ classI n ≤ 15 ∧ (classI n).toNat = cls n.natAbs := by
  have hc := h
  simp only [coefB, decide_eq_true_eq] at h
  have := cls_le (a := n.natAbs) (by omega)
  unfold classI
  rw [if_pos hc]
  omega
theorem bits_bounds {n : Int} (h : coefB n = true) : 0 ≤ bitsI n ∧ bitsI n < 2 ^ cls n.natAbs := by
  have h1 := cls_lt n.natAbs
  have h2 := pow_cast (cls n.natAbs)
  unfold bitsI
  rw [if_pos h]
  split
  · omega
  · omega
theorem class_zero {n : Int} (h : coefB n = true) : classI n = 0 ↔ n = 0 := by
  have hp := cls_pos (a := n.natAbs)
  unfold classI
  rw [if_pos h]
  omega
/-- A number is got back from its class and bits. -/
theorem num_back {n : Int} (h : coefB n = true) : numI (classI n) (bitsI n) = n := by
  obtain ⟨c0, c1, c2⟩ := class_bounds h
  obtain ⟨b0, b1⟩ := bits_bounds h
  have h1 := cls_lt n.natAbs
  have p0 := pow_cast (cls n.natAbs)
  unfold numI
  rw [c2, if_pos ⟨⟨c0, c1⟩, b0, by omega⟩]
  by_cases hn : n = 0
  · subst hn
    have e : classI 0 = 0 := (class_zero h).2 rfl
    have e2 : bitsI 0 = 0 := rfl
    rw [e, e2, if_neg (by omega)]
  · have hne : n.natAbs ≠ 0 := by omega
    have h2 := cls_ge hne
    have hk : 0 < cls n.natAbs := cls_pos.2 hne
    have p1 := pow_cast (cls n.natAbs - 1)
    have p2 := pow_step hk
    have hcp : 0 < classI n := by omega
    unfold bitsI
    rw [if_pos h]
    by_cases hs : n < 0
    · rw [if_pos hs, if_pos ⟨hcp, by omega⟩]; omega
    · rw [if_neg hs, if_neg (by omega)]

/-- An item: a run, a size, bits. -/
abbrev It := Int × Int × Int
/-- The items of a list, of which so many noughts have gone before. -/
def runsGo : Nat → List Int → List It
  | run, [] => if 0 < run then [(0, 0, 0)] else []
  | run, x :: xs => if x = 0 then runsGo (run + 1) xs else List.replicate (run / 16) (15, 0, 0) ++ (((run % 16 : Nat) : Int), classI x, bitsI x) :: runsGo 0 xs
def coefsB (xs : List Int) : Bool := decide (xs.length ≤ 64) && xs.all coefB
def runsG (xs : List Int) : List It := if coefsB xs then runsGo 0 xs else []

theorem runsGo_len : ∀ (run : Nat) (xs : List Int), (runsGo run xs).length ≤ run + xs.length
  | run, [] => by
    unfold runsGo
    split
    · simp; omega
    · simp
  | run, x :: xs => by
    unfold runsGo
    split
    · have := runsGo_len (run + 1) xs
      simp; omega
    · have := runsGo_len 0 xs
      simp; omega

/-- One item put behind what has been got. -/
def putIt (n : Nat) (out : List Int) (x : It) : List Int :=
  if x.2.1 = 0 ∧ x.1 = 0 then out ++ List.replicate (n - out.length) 0
  else
    let o := out ++ List.replicate (min x.1.toNat (n + 1 - out.length)) 0
    if o.length ≤ n then o ++ [numI x.2.1 x.2.2] else o
def putIts (n : Nat) (out : List Int) (xs : List It) : List Int := xs.foldl (putIt n) out
theorem putIts_app (n : Nat) (out : List Int) (xs ys : List It) : putIts n out (xs ++ ys) = putIts n (putIts n out xs) ys := List.foldl_append ..

theorem num_zero : numI 0 0 = 0 := rfl
theorem put_sixteen {n : Nat} {out : List Int} (h : out.length + 16 ≤ n) : putIt n out (15, 0, 0) = out ++ List.replicate 16 0 := by
  unfold putIt
  rw [if_neg (by decide)]
  have e : min (15 : Int).toNat (n + 1 - out.length) = 15 := by
    show min 15 _ = 15
    omega
  simp only [e]
  rw [if_pos (by simp; omega), num_zero, List.append_assoc]
  rfl
theorem puts_sixteen {n : Nat} : ∀ (k : Nat) (out : List Int), out.length + 16 * k ≤ n → putIts n out (List.replicate k (15, 0, 0)) = out ++ List.replicate (16 * k) 0
  | 0, out, _ => by simp [putIts]
  | k + 1, out, h => by
    rw [List.replicate_succ]
    show putIts n (putIt n out (15, 0, 0)) _ = _
    rw [put_sixteen (by omega), puts_sixteen k _ (by simp; omega), List.append_assoc, List.replicate_append_replicate]
    congr 2
    omega
/-- A list is got back from its items. -/
theorem puts_back {n : Nat} : ∀ (xs : List Int) (run : Nat) (out : List Int), xs.all coefB = true → out.length + run + xs.length = n → putIts n out (runsGo run xs) = out ++ List.replicate run 0 ++ xs
  | [], run, out, _, h => by
    unfold runsGo
    split
    · show putIt n out (0, 0, 0) = _
      unfold putIt
      rw [if_pos ⟨rfl, rfl⟩, List.append_nil]
      congr 2
      simp at h; omega
    · obtain rfl : run = 0 := by omega
      simp [putIts]
  | x :: xs, run, out, hc, h => by
    rw [List.all_cons, Bool.and_eq_true] at hc
    rw [List.length_cons] at h
    unfold runsGo
    split
    · rename_i hx
      subst hx
      rw [puts_back xs (run + 1) out hc.2 (by omega), List.replicate_succ', List.append_assoc, List.append_assoc, List.append_assoc]
      rfl
    · rename_i hx
      rw [putIts_app, puts_sixteen (run / 16) out (by omega)]
      show putIts n (putIt n _ _) _ = _
      have hk : ¬ (classI x = 0 ∧ ((run % 16 : Nat) : Int) = 0) := fun h2 => hx ((class_zero hc.1).1 h2.1)
      have e1 : putIt n (out ++ List.replicate (16 * (run / 16)) 0) (((run % 16 : Nat) : Int), classI x, bitsI x) = out ++ List.replicate run 0 ++ [x] := by
        unfold putIt
        rw [if_neg hk]
        have e : min (((run % 16 : Nat) : Int)).toNat (n + 1 - (out ++ List.replicate (16 * (run / 16)) (0 : Int)).length) = run % 16 := by
          rw [Int.toNat_natCast]; simp; omega
        simp only [e]
        rw [if_pos (by simp; omega), num_back hc.1, List.append_assoc out, List.replicate_append_replicate]
        congr 3
        omega
      rw [e1, puts_back xs 0 _ hc.2 (by simp; omega)]
      simp

/-- The list that items are those of, if there is one of n numbers. -/
def fromG (items : List It) (n : Int) : List Int × Bool :=
  if (0 ≤ n ∧ n ≤ 64) ∧ items.length ≤ 64 ∧ (putIts n.toNat [] items).length = n.toNat ∧ runsG (putIts n.toNat [] items) = items then (putIts n.toNat [] items, true) else ([], false)
theorem from_runs {xs : List Int} (h : coefsB xs = true) : fromG (runsG xs) xs.length = (xs, true) := by
  have hc := h
  simp only [coefsB, Bool.and_eq_true, decide_eq_true_eq] at h
  have e : runsG xs = runsGo 0 xs := by unfold runsG; rw [if_pos hc]
  have hl := runsGo_len 0 xs
  have hb : putIts xs.length [] (runsGo 0 xs) = xs := by
    have := puts_back xs 0 [] h.2 (n := xs.length) (by simp)
    simpa using this
  unfold fromG
  rw [Int.toNat_natCast, e, hb, e, if_pos ⟨by omega, by omega, rfl, rfl⟩]
/-- What is got from items has them: whoever finds such a list finds this one. -/
theorem from_only {items : List It} {n : Nat} {xs : List Int} (hx : coefsB xs = true) (hl : xs.length = n) (hr : runsGo 0 xs = items) : fromG items n = (xs, true) := by
  have e : runsG xs = items := by unfold runsG; rw [if_pos hx]; exact hr
  rw [← e, ← hl]
  exact from_runs hx
theorem from_none {items : List It} {n : Int} (h : ∀ xs : List Int, (xs.length : Int) = n → runsG xs = items → False) : fromG items n = ([], false) := by
  unfold fromG
  split
  · rename_i hh
    exact (h _ (by omega) hh.2.2.2).elim
  · rfl

end Go.Proofs.Ytekidfkahpaokaa
