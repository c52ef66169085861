/-
  The bit coder, as mathematics: what was told is read back, and bits that are always the same are cheap.
-/
import Derived.Test.YtekidfkahpaokaaCoderPure
namespace Go.Proofs.Ytekidfkahpaokaa

/-- The number of the first bytes of a stream. -/
def prefV (B : Nat → Nat) : Nat → Nat
  | 0 => 0
  | k + 1 => 256 * prefV B k + B k
set_option maxRecDepth 20000 in
theorem pref_far {B : Nat → Nat} (hB : ∀ i, B i ≤ 255) (k : Nat) : ∀ d, 256 ^ d * prefV B k ≤ prefV B (k + d) ∧ prefV B (k + d) < 256 ^ d * (prefV B k + 1)
  | 0 => by simp
  | d + 1 => by
    obtain ⟨h1, h2⟩ := pref_far hB k d
    have h3 := hB (k + d)
    have e : k + (d + 1) = k + d + 1 := by omega
    rw [e, prefV, Nat.pow_succ]
    obtain ⟨q, hq⟩ : ∃ q, 256 ^ d = q := ⟨_, rfl⟩
    rw [hq] at h1 h2 ⊢
    have e1 : q * 256 * prefV B k = 256 * (q * prefV B k) := by rw [Nat.mul_comm q 256, Nat.mul_assoc]
    have e2 : q * 256 * (prefV B k + 1) = 256 * (q * (prefV B k + 1)) := by rw [Nat.mul_comm q 256, Nat.mul_assoc]
    rw [e1, e2]
    omega

structure De where
  code : Nat
  rang : Nat
  at_ : Nat
def bitD (s : De) (p : Nat) : Nat := if s.code < s.rang / 4096 * p then 0 else 1
def midD (s : De) (p : Nat) : De := if s.code < s.rang / 4096 * p then ⟨s.code, s.rang / 4096 * p, s.at_⟩ else ⟨s.code - s.rang / 4096 * p, s.rang - s.rang / 4096 * p, s.at_⟩
def wideD (B : Nat → Nat) (s : De) : De := if s.rang < 16777216 then ⟨s.code % 16777216 * 256 + B s.at_, 256 * s.rang, s.at_ + 1⟩ else s
def bitsD (B : Nat → Nat) (P : Nat → Nat) (s : De) : List Nat → List Nat
  | [] => []
  | c :: r => bitD s (P c) :: bitsD B (fun x => if x = c then learnN (P c) (bitD s (P c)) else P x) (wideD B (midD s (P c))) r
set_option maxRecDepth 20000 in
theorem bits_back {B : Nat → Nat} (hB : ∀ i, B i ≤ 255) : ∀ (l : List (Nat × Nat)) (P : Nat → Nat) (s : En), okPs P → OkE s → (∀ x ∈ l, x.2 ≤ 1) → prefV B ((bitsE P s l).out.length + 4) = (bitsE P s l).V →
    bitsD B P ⟨prefV B (s.out.length + 4) - s.V, s.rang, s.out.length + 4⟩ (l.map Prod.fst) = l.map Prod.snd
  | [], _, _, _, _, _, _ => rfl
  | (c, b) :: r, P, s, hP, h, hb, hV => by
    have hb1 := hb (c, b) (by simp)
    obtain ⟨m1, m2, m3, m4, m5, m6⟩ := mid_ok h (hP c) b
    have hput := put_ok h (hP c) b
    obtain ⟨d, f1, f2, f3⟩ := bits_in r (fun x => if x = c then learnN (P c) b else P x) (putE s (P c) b) (okPs_learn hP c b) hput
    have hV2 : prefV B ((putE s (P c) b).out.length + 4 + d) = (bitsE P s ((c, b) :: r)).V := by
      rw [← hV]
      show _ = prefV B ((bitsE _ (putE s (P c) b) r).out.length + 4)
      have e5 : (putE s (P c) b).out.length + 4 + d = (bitsE (fun x => if x = c then learnN (P c) b else P x) (putE s (P c) b) r).out.length + 4 := by rw [f1]; omega
      rw [e5]
    have hVe : (bitsE P s ((c, b) :: r)).V = (bitsE (fun x => if x = c then learnN (P c) b else P x) (putE s (P c) b) r).V := rfl
    have hfar := pref_far hB ((putE s (P c) b).out.length + 4) d
    rw [hV2, hVe] at hfar
    have hrp : 0 < (bitsE (fun x => if x = c then learnN (P c) b else P x) (putE s (P c) b) r).rang := by have := (bits_ok r _ _ (okPs_learn hP c b) hput).lo; omega
    have hpw : 0 < 256 ^ d := Nat.pow_pos (by decide)
    -- the number of the bytes so far lies in what is left
    have hlo : (putE s (P c) b).V ≤ prefV B ((putE s (P c) b).out.length + 4) := by
      have h1 : 256 ^ d * (putE s (P c) b).V < 256 ^ d * (prefV B ((putE s (P c) b).out.length + 4) + 1) := Nat.lt_of_le_of_lt f2 hfar.2
      have h2 := Nat.lt_of_mul_lt_mul_left h1
      omega
    have hhi : prefV B ((putE s (P c) b).out.length + 4) < (putE s (P c) b).V + (putE s (P c) b).rang := by
      have h1 : 256 ^ d * prefV B ((putE s (P c) b).out.length + 4) < 256 ^ d * ((putE s (P c) b).V + (putE s (P c) b).rang) := by omega
      exact Nat.lt_of_mul_lt_mul_left h1
    have hnext := bits_back hB r _ _ (okPs_learn hP c b) hput (fun x hx => hb x (by simp [hx])) hV
    -- one step
    have hpart : (midE s (P c) b).V = s.V + (if b = 0 then 0 else s.rang / 4096 * P c) ∧ (midE s (P c) b).rang = (if b = 0 then s.rang / 4096 * P c else s.rang - s.rang / 4096 * P c) := by
      unfold midE En.V
      split
      · exact ⟨(Nat.add_zero _).symm, rfl⟩
      · exact ⟨by dsimp only; omega, rfl⟩
    have hmid : (midE s (P c) b).V ≤ prefV B (s.out.length + 4) ∧ prefV B (s.out.length + 4) < (midE s (P c) b).V + (midE s (P c) b).rang := by
      obtain ⟨d1, e1, e2, e3⟩ := put_in h (hP c) b
      have hf2 := pref_far hB (s.out.length + 4) d1
      have e4 : s.out.length + 4 + d1 = (putE s (P c) b).out.length + 4 := by omega
      rw [e4] at hf2
      have hp1 : 0 < 256 ^ d1 := Nat.pow_pos (by decide)
      constructor
      · have h1 : 256 ^ d1 * (midE s (P c) b).V < 256 ^ d1 * (prefV B (s.out.length + 4) + 1) := by rw [e2]; omega
        have h2 := Nat.lt_of_mul_lt_mul_left h1
        omega
      · have h1 : 256 ^ d1 * prefV B (s.out.length + 4) < 256 ^ d1 * ((midE s (P c) b).V + (midE s (P c) b).rang) := by rw [Nat.mul_add, e2, e3]; omega
        exact Nat.lt_of_mul_lt_mul_left h1
    obtain ⟨S, hS⟩ : ∃ S, prefV B (s.out.length + 4) = S := ⟨_, rfl⟩
    have hS1 : prefV B (s.out.length + 4 + 1) = 256 * S + B (s.out.length + 4) := by rw [prefV, hS]
    rw [hS] at hmid ⊢
    have hbit : bitD ⟨S - s.V, s.rang, s.out.length + 4⟩ (P c) = b := by
      unfold bitD
      dsimp only
      rcases (show b = 0 ∨ b = 1 by omega) with e | e
      · subst e
        rw [if_pos]
        simp at hpart
        omega
      · subst e
        rw [if_neg]
        simp at hpart
        omega
    have hmd : midD ⟨S - s.V, s.rang, s.out.length + 4⟩ (P c) = ⟨S - (midE s (P c) b).V, (midE s (P c) b).rang, s.out.length + 4⟩ := by
      unfold bitD at hbit
      unfold midD
      dsimp only at hbit ⊢
      rcases (show b = 0 ∨ b = 1 by omega) with e | e
      · subst e
        have hc : S - s.V < s.rang / 4096 * P c := by
          by_cases hx : S - s.V < s.rang / 4096 * P c
          · exact hx
          · rw [if_neg hx] at hbit; omega
        rw [if_pos hc, hpart.1, hpart.2]
        simp
      · subst e
        have hc : ¬ S - s.V < s.rang / 4096 * P c := by
          intro hx
          rw [if_pos hx] at hbit; omega
        rw [if_neg hc, hpart.1, hpart.2]
        simp
        omega
    have hwd : wideD B ⟨S - (midE s (P c) b).V, (midE s (P c) b).rang, s.out.length + 4⟩ = ⟨prefV B ((putE s (P c) b).out.length + 4) - (putE s (P c) b).V, (putE s (P c) b).rang, (putE s (P c) b).out.length + 4⟩ := by
      have hl : OkL (midE s (P c) b) := ⟨by have := h.low; omega, by rw [m6]; exact h.bytes, by rw [m6]; have := h.room; omega⟩
      obtain ⟨_, l2, l3, _⟩ := lay_ok hl
      unfold putE
      generalize midE s (P c) b = t at *
      unfold wideD wideE
      dsimp only
      by_cases ht : t.rang < 16777216
      · rw [if_pos ht, if_pos ht]
        have e : (⟨(layN t).low, 256 * t.rang, (layN t).out⟩ : En).V = 256 * t.V := l2
        rw [e]
        dsimp only
        have e3 : (layN t).out.length + 4 = s.out.length + 4 + 1 := by rw [l3, m6]
        rw [e3, hS1]
        congr 1
        have h5 : S - t.V < 16777216 := by omega
        rw [Nat.mod_eq_of_lt h5]
        omega
      · rw [if_neg ht, if_neg ht, m6, hS]
    rw [List.map_cons, List.map_cons]
    show bitD ⟨S - s.V, s.rang, s.out.length + 4⟩ (P c) :: bitsD B (fun x => if x = c then learnN (P c) (bitD ⟨S - s.V, s.rang, s.out.length + 4⟩ (P c)) else P x) (wideD B (midD ⟨S - s.V, s.rang, s.out.length + 4⟩ (P c))) (r.map Prod.fst) = b :: r.map Prod.snd
    rw [hbit, hmd, hwd, hnext]

theorem pref_val : ∀ (l more : List Nat), prefV (fun i => (l.reverse ++ more).getD i 0) l.length = valR l
  | [], _ => rfl
  | x :: r, more => by
    have ih := pref_val r (x :: more)
    have e : (x :: r).reverse ++ more = r.reverse ++ (x :: more) := by simp
    rw [e, List.length_cons, prefV, ih, valR]
    have e2 : (r.reverse ++ (x :: more)).getD r.length 0 = x := by
      rw [List.getD_eq_getElem?_getD, List.getElem?_append_right (by simp)]
      simp
    rw [e2]
    omega

/-- What n bits that are always the same cost. -/
def sameL (b : Nat) : Nat → Nat → Nat → Nat → Bool
  | 0, _, _, _ => true
  | n + 1, p, r, k =>
    let q := r / 4096 * p
    let t := if b = 0 then q else r - q
    let w := if t < 16777216 then 1 else 0
    decide (64 * (k + w) ≤ 64 * 20 + (3000 - n)) && sameL b n (learnN p b) (if t < 16777216 then 256 * t else t) (k + w)

theorem same0 : sameL 0 3000 2048 4294967295 0 = true := by decide +kernel
theorem same1 : sameL 1 3000 2048 4294967295 0 = true := by decide +kernel
theorem put_len (s : En) (p b : Nat) : (putE s p b).out.length = s.out.length + (if (midE s p b).rang < 16777216 then 1 else 0) ∧ (putE s p b).rang = (if (midE s p b).rang < 16777216 then 256 * (midE s p b).rang else (midE s p b).rang) := by
  have hm : (midE s p b).out = s.out := by unfold midE; split <;> rfl
  unfold putE wideE
  split
  · refine ⟨?_, rfl⟩
    show (layN (midE s p b)).out.length = _
    unfold layN
    rw [List.length_cons, hm]
    split
    · rw [carryR_len]
    · rfl
  · rw [hm]; exact ⟨rfl, rfl⟩
theorem mid_rang (s : En) (p b : Nat) : (midE s p b).rang = if b = 0 then s.rang / 4096 * p else s.rang - s.rang / 4096 * p := by unfold midE; split <;> rfl
theorem same_len (c b : Nat) : ∀ (n m : Nat) (P : Nat → Nat) (s : En), n ≤ 3000 → m ≤ n → sameL b n (P c) s.rang s.out.length = true → 0 < m → 64 * (bitsE P s (List.replicate m (c, b))).out.length ≤ 64 * 20 + (3000 - n + m)
  | 0, m, _, _, _, hm, _, h0 => by omega
  | n + 1, 0, _, _, _, _, _, h0 => by omega
  | n + 1, m + 1, P, s, hn, hm, h, _ => by
    unfold sameL at h
    dsimp only at h
    rw [Bool.and_eq_true] at h
    obtain ⟨h1, h2⟩ := h
    have h1 := of_decide_eq_true h1
    obtain ⟨e1, e2⟩ := put_len s (P c) b
    rw [mid_rang] at e1 e2
    have e3 : bitsE P s (List.replicate (m + 1) (c, b)) = bitsE (fun x => if x = c then learnN (P c) b else P x) (putE s (P c) b) (List.replicate m (c, b)) := by rw [List.replicate_succ]; rfl
    rw [e3]
    rcases Nat.eq_zero_or_pos m with e | hp
    · subst e
      show 64 * (putE s (P c) b).out.length ≤ _
      rw [e1]; omega
    · have ih := same_len c b n m (fun x => if x = c then learnN (P c) b else P x) (putE s (P c) b) (by omega) (by omega) (by rw [e1, e2]; simpa using h2) hp
      omega

end Go.Proofs.Ytekidfkahpaokaa
