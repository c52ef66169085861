/-
  Items laid out as numbers: mathematics.
-/
import Derived.Test.YtmomfopbdpgcgabRunPure
namespace Go.Proofs.Ytmomfopbdpgcgab

/-- Each item's number behind its noughts, as long as there is room among so many. -/
def layGo (M : Nat) : List Int → List It → Option (List Int)
  | acc, [] => some (acc ++ List.replicate (M - acc.length) 0)
  | acc, p :: ps => if 0 ≤ p.1 ∧ p.1 ≤ (M : Int) - (acc.length : Int) - 1 then layGo M (acc ++ List.replicate p.1.toNat 0 ++ [numI p.2.1 p.2.2]) ps else none

theorem num_coef (s b : Int) : coefB (numI s b) = true := by
  unfold numI
  by_cases h : (0 ≤ s ∧ s ≤ 15) ∧ (0 ≤ b ∧ b ≤ 2 ^ s.toNat - 1)
  · rw [if_pos h]
    have hk : s.toNat ≤ 15 := by omega
    have h1 : (2 : Nat) ^ s.toNat ≤ 2 ^ 15 := Nat.pow_le_pow_right (by omega) hk
    have h3 := pow_cast s.toNat
    unfold coefB
    split
    · simp only [decide_eq_true_eq]; omega
    · simp only [decide_eq_true_eq]; omega
  · rw [if_neg h]; rfl

theorem lay_coef {M : Nat} : ∀ (I : List It) (acc X : List Int), layGo M acc I = some X → acc.all coefB = true → acc.length ≤ M → X.all coefB = true ∧ X.length = M
  | [], acc, X, h, ha, hl => by
    unfold layGo at h
    have e := Option.some.inj h
    subst e
    refine ⟨?_, by simp; omega⟩
    rw [List.all_append, ha, Bool.true_and, List.all_eq_true]
    intro x hx
    rw [List.eq_of_mem_replicate hx]; rfl
  | p :: I, acc, X, h, ha, hl => by
    unfold layGo at h
    split at h
    · rename_i hp
      refine lay_coef I _ X h ?_ (by simp; omega)
      rw [List.all_append, List.all_append, ha, Bool.true_and, Bool.and_eq_true]
      refine ⟨?_, by simp [num_coef]⟩
      rw [List.all_eq_true]
      intro x hx
      rw [List.eq_of_mem_replicate hx]; rfl
    · simp at h

theorem lay_sixteens {M : Nat} : ∀ (q : Nat) (acc : List Int) (rest : List It), acc.length + 16 * q ≤ M → layGo M acc (List.replicate q (15, 0, 0) ++ rest) = layGo M (acc ++ List.replicate (16 * q) 0) rest
  | 0, acc, rest, _ => by simp
  | q + 1, acc, rest, h => by
    rw [List.replicate_succ, List.cons_append, layGo, if_pos ⟨by decide, by show (15 : Int) ≤ _; omega⟩, lay_sixteens q _ rest (by simp; omega)]
    congr 1
    have e : numI (((15, 0, 0) : It).2.1) (((15, 0, 0) : It).2.2) = 0 := rfl
    rw [e, List.append_assoc, List.append_assoc]
    congr 1
theorem lay_back {M : Nat} : ∀ (xs : List Int) (run : Nat) (acc : List Int), xs.all coefB = true → acc.length + run + xs.length = M → layGo M acc (runsGo run xs) = some (acc ++ List.replicate run 0 ++ xs)
  | [], run, acc, _, h => by
    unfold runsGo
    simp at h
    split
    · rename_i h0
      rw [layGo, if_pos ⟨by decide, by show (0 : Int) ≤ _; omega⟩, layGo]
      have e : numI (((0, 0, 0) : It).2.1) (((0, 0, 0) : It).2.2) = 0 := rfl
      rw [e]
      congr 1
      show acc ++ List.replicate 0 0 ++ List.replicate 1 0 ++ _ = _
      rw [List.append_nil, List.replicate_zero, List.append_nil, List.append_assoc, List.replicate_append_replicate]
      congr 2
      simp; omega
    · obtain rfl : run = 0 := by omega
      rw [layGo]
      have e : M - acc.length = 0 := by omega
      simp [e]
  | x :: xs, run, acc, hc, h => by
    rw [List.all_cons, Bool.and_eq_true] at hc
    rw [List.length_cons] at h
    unfold runsGo
    split
    · rename_i hx
      subst hx
      rw [lay_back xs (run + 1) acc hc.2 (by omega), List.replicate_succ', List.append_assoc, List.append_assoc, List.append_assoc]
      rfl
    · rw [lay_sixteens (run / 16) acc _ (by omega), layGo, if_pos ⟨by show (0 : Int) ≤ ((run % 16 : Nat) : Int); omega, by show ((run % 16 : Nat) : Int) ≤ _; simp; omega⟩]
      show layGo M (acc ++ List.replicate (16 * (run / 16)) 0 ++ List.replicate ((run % 16 : Nat) : Int).toNat 0 ++ [numI (classI x) (bitsI x)]) _ = _
      rw [num_back hc.1, Int.toNat_natCast, List.append_assoc acc, List.replicate_append_replicate, lay_back xs 0 _ hc.2 (by simp; omega)]
      have e : 16 * (run / 16) + run % 16 = run := by omega
      rw [e]
      simp

theorem from_lay (I : List It) (M : Nat) (hM : M ≤ 64) : fromG I M = match layGo M [] I with | none => ([], false) | some X => if runsGo 0 X = I then (X, true) else ([], false) := by
  have key : ∀ xs : List Int, xs = putIts M [] I → xs.length = M → runsG xs = I → layGo M [] I = some xs ∧ runsGo 0 xs = I := by
    intro xs h0 hl hr
    cases hc : coefsB xs with
    | true =>
      have e : runsGo 0 xs = I := by rw [← hr, runsG, hc]; rfl
      have hx : xs.all coefB = true := by
        simp only [coefsB, Bool.and_eq_true] at hc
        exact hc.2
      refine ⟨?_, e⟩
      have := lay_back (M := M) xs 0 [] hx (by simpa using hl)
      rw [e] at this
      simpa using this
    | false =>
      have e : I = [] := by rw [← hr, runsG, hc]; rfl
      rw [e] at h0
      have h1 : xs = [] := h0
      rw [h1] at hc
      exact absurd hc (by decide)
  cases h : layGo M [] I with
  | none =>
    unfold fromG
    dsimp only
    split
    · rename_i hh
      rw [Int.toNat_natCast] at hh
      have := (key _ rfl hh.2.2.1 hh.2.2.2).1
      rw [h] at this
      simp at this
    · rfl
  | some X =>
    obtain ⟨hX, hXl⟩ := lay_coef I [] X h rfl (Nat.zero_le _)
    dsimp only
    by_cases hr : runsGo 0 X = I
    · rw [if_pos hr]
      exact from_only (by rw [coefsB, hX, hXl, decide_eq_true hM]; rfl) hXl hr
    · rw [if_neg hr]
      unfold fromG
      split
      · rename_i hh
        rw [Int.toNat_natCast] at hh
        have h2 := key _ rfl hh.2.2.1 hh.2.2.2
        rw [h] at h2
        have e := Option.some.inj h2.1
        rw [← e] at h2
        exact absurd h2.2 hr
      · rfl

/-- The numbers that were laid out, and noughts for the rest. -/
def laid (M : Nat) (acc : List Int) : List Int := acc ++ List.replicate (M - acc.length) 0
theorem laid_len {M : Nat} {acc : List Int} (h : acc.length ≤ M) : (laid M acc).length = M := by simp [laid]; omega
theorem laid_set {M : Nat} {acc : List Int} {r : Nat} (v : Int) (h : acc.length + r < M) : (laid M acc).set (acc.length + r) v = laid M (acc ++ List.replicate r 0 ++ [v]) := by
  unfold laid
  rw [List.set_append_right _ _ (by omega), Nat.add_sub_cancel_left, List.append_assoc, List.append_assoc]
  congr 1
  have e : M - acc.length = r + (1 + (M - (acc ++ (List.replicate r (0 : Int) ++ [v])).length)) := by simp; omega
  rw [e, ← List.replicate_append_replicate, List.set_append_right _ _ (by simp), List.length_replicate, Nat.sub_self, ← List.replicate_append_replicate]
  simp

end Go.Proofs.Ytmomfopbdpgcgab
