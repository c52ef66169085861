/-
  Numbers as bins, as mathematics: what was told is read back, a bit at a time, whatever context is asked next.
-/
import Derived.Test.YtekidfkahpaokaaCoderBack
namespace Go.Proofs.Ytekidfkahpaokaa

/-- Where a reader is: the likelihoods, and the coder. -/
structure Rs where
  like : Nat → Nat
  de : De
def bitR (r : Rs) (c : Nat) : Nat := bitD r.de (r.like c)
def nextR (B : Nat → Nat) (r : Rs) (c : Nat) : Rs := ⟨fun x => if x = c then learnN (r.like c) (bitR r c) else r.like x, wideD B (midD r.de (r.like c))⟩
/-- From here on these bins are read. -/
def Fol (B : Nat → Nat) (r : Rs) (l : List (Nat × Nat)) : Prop := bitsD B r.like r.de (l.map Prod.fst) = l.map Prod.snd
theorem fol_cons {B : Nat → Nat} {r : Rs} {c b : Nat} {l : List (Nat × Nat)} (h : Fol B r ((c, b) :: l)) : bitR r c = b ∧ Fol B (nextR B r c) l := by
  unfold Fol at h
  rw [List.map_cons, List.map_cons, bitsD] at h
  exact List.cons.inj h

/-- The bits of a class: a 1 for each beneath it, then a 0, but of the greatest. -/
def upR (B : Nat → Nat) (base : Nat) : Nat → Nat → Rs → Nat × Rs
  | 0, k, r => (k, r)
  | f + 1, k, r => if bitR r (base + 1 + k) = 1 then upR B base f (k + 1) (nextR B r (base + 1 + k)) else (k, nextR B r (base + 1 + k))
def lowR (B : Nat → Nat) (base : Nat) : Nat → Nat → Rs → Nat × Rs
  | 0, n, r => (n, r)
  | i + 1, n, r => lowR B base i (2 * n + bitR r (base + 18)) (nextR B r (base + 18))
def absR (B : Nat → Nat) (base : Nat) (r : Rs) : Nat × Rs := lowR B base ((upR B base 14 1 r).1 - 1) 1 (upR B base 14 1 r).2
def numR (B : Nat → Nat) (base : Nat) (r : Rs) : Int × Rs :=
  if bitR r base = 1 then (0, nextR B r base)
  else (if bitR (nextR B r base) (base + 1) = 1 then -((absR B base (nextR B (nextR B r base) (base + 1))).1 : Int) else ((absR B base (nextR B (nextR B r base) (base + 1))).1 : Int), (absR B base (nextR B (nextR B r base) (base + 1))).2)

def lowL (base a : Nat) : Nat → List (Nat × Nat)
  | 0 => []
  | i + 1 => (base + 18, a / 2 ^ i % 2) :: lowL base a i
/-- m bits that are 1 from class k on, and the 0 behind them. -/
def upL (base : Nat) : Nat → Nat → List (Nat × Nat)
  | 0, k => if k < 15 then [(base + 1 + k, 0)] else []
  | m + 1, k => (base + 1 + k, 1) :: upL base m (k + 1)
def absL (base a k : Nat) : List (Nat × Nat) := upL base (k - 1) 1 ++ lowL base a (k - 1)
/-- The bins of a number of class k. -/
def numL (base : Nat) (n : Int) (k : Nat) : List (Nat × Nat) := if n = 0 then [(base, 1)] else (base, 0) :: (base + 1, if n < 0 then 1 else 0) :: absL base n.natAbs k

theorem up_back {B : Nat → Nat} {base : Nat} : ∀ (m f k : Nat) (r : Rs) (l : List (Nat × Nat)), k + f = 15 → m ≤ f → Fol B r (upL base m k ++ l) → (upR B base f k r).1 = k + m ∧ Fol B (upR B base f k r).2 l
  | 0, 0, k, r, l, hk, _, h => by
    have e : upL base 0 k = [] := by unfold upL; rw [if_neg (by omega)]
    rw [e] at h
    exact ⟨rfl, h⟩
  | 0, f + 1, k, r, l, hk, _, h => by
    have e : upL base 0 k = [(base + 1 + k, 0)] := by unfold upL; rw [if_pos (by omega)]
    rw [e] at h
    obtain ⟨h1, h2⟩ := fol_cons h
    unfold upR
    rw [h1, if_neg (by omega)]
    exact ⟨rfl, h2⟩
  | m + 1, 0, k, r, l, hk, hm, h => by omega
  | m + 1, f + 1, k, r, l, hk, hm, h => by
    have e : upL base (m + 1) k ++ l = (base + 1 + k, 1) :: (upL base m (k + 1) ++ l) := rfl
    rw [e] at h
    obtain ⟨h1, h2⟩ := fol_cons h
    unfold upR
    rw [h1, if_pos rfl]
    obtain ⟨a, b⟩ := up_back m f (k + 1) _ l (by omega) (by omega) h2
    exact ⟨by omega, b⟩
theorem half_next (a i : Nat) : 2 * (a / 2 ^ (i + 1)) + a / 2 ^ i % 2 = a / 2 ^ i := by
  rw [Nat.pow_succ, ← Nat.div_div_eq_div_mul]
  omega
theorem low_back {B : Nat → Nat} {base a : Nat} : ∀ (i n : Nat) (r : Rs) (l : List (Nat × Nat)), n = a / 2 ^ i → Fol B r (lowL base a i ++ l) → (lowR B base i n r).1 = a ∧ Fol B (lowR B base i n r).2 l
  | 0, n, r, l, hn, h => ⟨by rw [hn]; simp [lowR], h⟩
  | i + 1, n, r, l, hn, h => by
    have e : lowL base a (i + 1) ++ l = (base + 18, a / 2 ^ i % 2) :: (lowL base a i ++ l) := rfl
    rw [e] at h
    obtain ⟨h1, h2⟩ := fol_cons h
    unfold lowR
    rw [h1]
    exact low_back i _ _ l (by rw [hn]; exact half_next a i) h2
theorem abs_back {B : Nat → Nat} {base a k : Nat} (r : Rs) (l : List (Nat × Nat)) (hk1 : 1 ≤ k) (hk2 : k ≤ 15) (ha1 : 2 ^ (k - 1) ≤ a) (ha2 : a < 2 ^ k) (h : Fol B r (absL base a k ++ l)) : (absR B base r).1 = a ∧ Fol B (absR B base r).2 l := by
  unfold absL at h
  rw [List.append_assoc] at h
  obtain ⟨u1, u2⟩ := up_back (k - 1) 14 1 r _ (by omega) (by omega) h
  unfold absR
  rw [u1]
  have e : 1 + (k - 1) - 1 = k - 1 := by omega
  rw [e]
  refine low_back (k - 1) 1 _ l ?_ u2
  have e2 : 2 ^ k = 2 ^ (k - 1) * 2 := by rw [← Nat.pow_succ]; congr 1; omega
  have hp : 0 < 2 ^ (k - 1) := Nat.pow_pos (by decide)
  symm
  rw [Nat.div_eq_iff hp]
  omega
theorem numR_back {B : Nat → Nat} {base : Nat} {n : Int} {k : Nat} (r : Rs) (l : List (Nat × Nat)) (hk : n ≠ 0 → 1 ≤ k ∧ k ≤ 15 ∧ 2 ^ (k - 1) ≤ n.natAbs ∧ n.natAbs < 2 ^ k) (h : Fol B r (numL base n k ++ l)) : (numR B base r).1 = n ∧ Fol B (numR B base r).2 l := by
  unfold numL at h
  unfold numR
  by_cases h0 : n = 0
  · rw [if_pos h0] at h
    obtain ⟨h1, h2⟩ := fol_cons h
    rw [if_pos h1]
    exact ⟨h0.symm, h2⟩
  · rw [if_neg h0] at h
    obtain ⟨h1, h2⟩ := fol_cons h
    obtain ⟨h3, h4⟩ := fol_cons h2
    obtain ⟨k1, k2, k3, k4⟩ := hk h0
    obtain ⟨a1, a2⟩ := abs_back _ l k1 k2 k3 k4 h4
    rw [h1, if_neg (by omega)]
    refine ⟨?_, a2⟩
    dsimp only
    rw [a1, h3]
    by_cases hn : n < 0
    · rw [if_pos hn, if_pos rfl]; omega
    · rw [if_neg hn, if_neg (by omega)]; omega

/-- A list of numbers, and what is read of it. -/
def numsR (B : Nat → Nat) (base : Nat) : Nat → Rs → List Int
  | 0, _ => []
  | m + 1, r => (numR B base r).1 :: numsR B base m (numR B base r).2
theorem nums_back {B : Nat → Nat} {base : Nat} {cl : Int → Nat} : ∀ (l : List Int) (r : Rs) (more : List (Nat × Nat)), (∀ n ∈ l, n ≠ 0 → 1 ≤ cl n ∧ cl n ≤ 15 ∧ 2 ^ (cl n - 1) ≤ n.natAbs ∧ n.natAbs < 2 ^ cl n) → Fol B r (l.flatMap (fun n => numL base n (cl n)) ++ more) → numsR B base l.length r = l
  | [], _, _, _, _ => rfl
  | n :: l, r, more, hl, h => by
    rw [List.flatMap_cons, List.append_assoc] at h
    obtain ⟨h1, h2⟩ := numR_back r _ (hl n (by simp)) h
    rw [List.length_cons, numsR, h1, nums_back l _ more (fun x hx => hl x (by simp [hx])) h2]

end Go.Proofs.Ytekidfkahpaokaa
