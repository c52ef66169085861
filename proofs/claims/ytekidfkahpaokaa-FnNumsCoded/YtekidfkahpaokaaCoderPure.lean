/-
  The bit coder, as mathematics.
-/
import Derived.Test.YtekidfkahpaokaaKit
namespace Go.Proofs.Ytekidfkahpaokaa

/-- The likelihood of a context behind a bit. -/
def learnN (p b : Nat) : Nat := if b = 0 then p + (4096 - p) / 32 else p - p / 32
def okP (p : Nat) : Prop := 31 ≤ p ∧ p ≤ 4065
theorem learn_ok {p : Nat} (h : okP p) (b : Nat) : okP (learnN p b) := by
  unfold okP learnN at *
  split <;> omega

/-- Bytes, the last one first: one more, and the number that they are. -/
def carryR : List Nat → List Nat
  | [] => []
  | x :: r => if x = 255 then 0 :: carryR r else (x + 1) :: r
def valR : List Nat → Nat
  | [] => 0
  | x :: r => x + 256 * valR r
def bytesN (l : List Nat) : Prop := ∀ x ∈ l, x ≤ 255
theorem valR_lt : ∀ l : List Nat, bytesN l → valR l < 256 ^ l.length
  | [], _ => by simp [valR]
  | x :: r, h => by
    have h1 := valR_lt r (fun y hy => h y (by simp [hy]))
    have h2 := h x (by simp)
    rw [valR, List.length_cons, Nat.pow_succ]
    omega
theorem carryR_len : ∀ l : List Nat, (carryR l).length = l.length
  | [] => rfl
  | x :: r => by
    unfold carryR
    split
    · simp [carryR_len r]
    · simp
theorem carryR_bytes : ∀ l : List Nat, bytesN l → bytesN (carryR l)
  | [], h => h
  | x :: r, h => by
    unfold carryR
    split
    · intro y hy
      rcases List.mem_cons.1 hy with rfl | hy
      · omega
      · exact carryR_bytes r (fun z hz => h z (by simp [hz])) y hy
    · rename_i hx
      intro y hy
      rcases List.mem_cons.1 hy with rfl | hy
      · have := h x (by simp); omega
      · exact h y (by simp [hy])
theorem carryR_val : ∀ l : List Nat, bytesN l → valR l + 1 < 256 ^ l.length → valR (carryR l) = valR l + 1
  | [], _, h => by simp [valR] at h
  | x :: r, hb, h => by
    have hb2 : bytesN r := fun y hy => hb y (by simp [hy])
    have hx := hb x (by simp)
    unfold carryR
    split
    · rename_i e
      subst e
      rw [valR, List.length_cons, Nat.pow_succ] at h
      have h1 := valR_lt r hb2
      have ih := carryR_val r hb2 (by omega)
      rw [valR, valR, ih]
      omega
    · rw [valR, valR]; omega

/-- The coder: what is not laid yet, how wide it is, and the bytes that were laid, the last one first. -/
structure En where
  low : Nat
  rang : Nat
  out : List Nat
def En.V (s : En) : Nat := valR s.out * 4294967296 + s.low
/-- One byte is laid. -/
def layN (s : En) : En := ⟨s.low % 16777216 * 256, s.rang, (if 255 < s.low / 16777216 then s.low / 16777216 - 256 else s.low / 16777216) :: (if 255 < s.low / 16777216 then carryR s.out else s.out)⟩
structure OkL (s : En) : Prop where
  low : s.low < 8589934592
  bytes : bytesN s.out
  room : s.V < 256 ^ s.out.length * 4294967296
set_option maxRecDepth 20000 in
theorem lay_ok {s : En} (h : OkL s) : bytesN (layN s).out ∧ (layN s).V = 256 * s.V ∧ (layN s).out.length = s.out.length + 1 ∧ (layN s).low < 4294967296 := by
  obtain ⟨h1, h2, h3⟩ := h
  obtain ⟨low, rang, out⟩ := s
  dsimp only [En.V] at h1 h2 h3
  unfold layN En.V
  dsimp only
  by_cases hc : 255 < low / 16777216
  · rw [if_pos hc, if_pos hc]
    have hroom : valR out + 1 < 256 ^ out.length := by
      have : (valR out + 1) * 4294967296 < 256 ^ out.length * 4294967296 := by omega
      exact Nat.lt_of_mul_lt_mul_right this
    have hv := carryR_val out h2 hroom
    refine ⟨?_, ?_, ?_, by omega⟩
    · intro y hy
      rcases List.mem_cons.1 hy with rfl | hy
      · omega
      · exact carryR_bytes out h2 y hy
    · rw [valR, hv]; omega
    · simp [carryR_len]
  · rw [if_neg hc, if_neg hc]
    refine ⟨?_, ?_, ?_, by omega⟩
    · intro y hy
      rcases List.mem_cons.1 hy with rfl | hy
      · omega
      · exact h2 y hy
    · rw [valR]; omega
    · simp

/-- A bit is told. -/
def midE (s : En) (p b : Nat) : En := if b = 0 then ⟨s.low, s.rang / 4096 * p, s.out⟩ else ⟨s.low + s.rang / 4096 * p, s.rang - s.rang / 4096 * p, s.out⟩
def wideE (s : En) : En := if s.rang < 16777216 then ⟨(layN s).low, 256 * s.rang, (layN s).out⟩ else s
def putE (s : En) (p b : Nat) : En := wideE (midE s p b)
structure OkE (s : En) : Prop where
  lo : 16777216 ≤ s.rang
  hi : s.rang < 4294967296
  low : s.low + s.rang < 8589934592
  bytes : bytesN s.out
  room : s.V + s.rang ≤ 256 ^ s.out.length * 4294967296
theorem part_bounds {r p : Nat} (h1 : 16777216 ≤ r) (hp : okP p) : 126976 ≤ r / 4096 * p ∧ r / 4096 * p + 126976 ≤ r := by
  obtain ⟨h2, h3⟩ := hp
  obtain ⟨q, hq⟩ : ∃ q, r / 4096 = q := ⟨_, rfl⟩
  rw [hq]
  have hq1 : 4096 ≤ q := by omega
  have hq2 : q * 4096 ≤ r := by omega
  constructor
  · exact Nat.mul_le_mul hq1 h2
  · have h4 : q * p ≤ q * 4065 := Nat.mul_le_mul_left q h3
    omega
theorem mid_ok {s : En} (h : OkE s) {p : Nat} (hp : okP p) (b : Nat) : 126976 ≤ (midE s p b).rang ∧ (midE s p b).rang < 4294967296 ∧ (midE s p b).low + (midE s p b).rang ≤ s.low + s.rang ∧ s.V ≤ (midE s p b).V ∧ (midE s p b).V + (midE s p b).rang ≤ s.V + s.rang ∧ (midE s p b).out = s.out := by
  have hb := part_bounds h.lo hp
  have := h.hi
  unfold midE
  split
  · refine ⟨hb.1, by dsimp only; omega, by dsimp only; omega, Nat.le_refl _, ?_, rfl⟩
    show s.V + s.rang / 4096 * p ≤ s.V + s.rang
    omega
  · refine ⟨by dsimp only; omega, by dsimp only; omega, by dsimp only; omega, ?_, ?_, rfl⟩
    · show valR s.out * 4294967296 + s.low ≤ valR s.out * 4294967296 + (s.low + s.rang / 4096 * p)
      omega
    · show valR s.out * 4294967296 + (s.low + s.rang / 4096 * p) + (s.rang - s.rang / 4096 * p) ≤ valR s.out * 4294967296 + s.low + s.rang
      omega
theorem put_ok {s : En} (h : OkE s) {p : Nat} (hp : okP p) (b : Nat) : OkE (putE s p b) := by
  obtain ⟨m1, m2, m3, m4, m5, m6⟩ := mid_ok h hp b
  have h1 := h.low
  have h2 := h.room
  unfold putE wideE
  generalize midE s p b = t at *
  split
  · have hl : OkL t := ⟨by omega, by rw [m6]; exact h.bytes, by rw [m6]; omega⟩
    obtain ⟨l1, l2, l3, l4⟩ := lay_ok hl
    refine ⟨by dsimp only; omega, by dsimp only; omega, by dsimp only; omega, l1, ?_⟩
    have e : (⟨(layN t).low, 256 * t.rang, (layN t).out⟩ : En).V = 256 * t.V := l2
    rw [e]
    show 256 * t.V + 256 * t.rang ≤ 256 ^ (layN t).out.length * 4294967296
    rw [l3, m6, Nat.pow_succ]
    omega
  · exact ⟨by omega, m2, by omega, by rw [m6]; exact h.bytes, by rw [m6]; omega⟩
theorem start_ok : OkE ⟨0, 4294967295, []⟩ := ⟨by decide, by decide, by decide, fun x h => by simp at h, by simp [En.V, valR]⟩

/-- The end: what is left is laid as four bytes. -/
def endE (s : En) : En := layN (layN (layN (layN s)))
theorem end_ok {s : En} (h : OkE s) : bytesN (endE s).out ∧ (endE s).out.length = s.out.length + 4 ∧ valR (endE s).out = s.V := by
  have r0 := h.room
  have p0 := h.lo
  have k0 : OkL s := ⟨by have := h.low; omega, h.bytes, by omega⟩
  obtain ⟨a1, a2, a3, a4⟩ := lay_ok k0
  have k1 : OkL (layN s) := ⟨by omega, a1, by rw [a2, a3, Nat.pow_succ]; omega⟩
  obtain ⟨b1, b2, b3, b4⟩ := lay_ok k1
  have k2 : OkL (layN (layN s)) := ⟨by omega, b1, by rw [b2, a2, b3, a3, Nat.pow_succ, Nat.pow_succ]; omega⟩
  obtain ⟨c1, c2, c3, c4⟩ := lay_ok k2
  have k3 : OkL (layN (layN (layN s))) := ⟨by omega, c1, by rw [c2, b2, a2, c3, b3, a3, Nat.pow_succ, Nat.pow_succ, Nat.pow_succ]; omega⟩
  obtain ⟨d1, d2, d3, d4⟩ := lay_ok k3
  have hl : (endE s).low = 0 := by
    show (((s.low % 16777216 * 256) % 16777216 * 256) % 16777216 * 256) % 16777216 * 256 = 0
    omega
  refine ⟨d1, by unfold endE; omega, ?_⟩
  have e : (endE s).V = valR (endE s).out * 4294967296 + (endE s).low := rfl
  have e2 : (endE s).V = 256 * (256 * (256 * (256 * s.V))) := by unfold endE; rw [d2, c2, b2, a2]
  omega

/-- All bins, each with its context's likelihood. -/
def bitsE (P : Nat → Nat) (s : En) : List (Nat × Nat) → En
  | [] => s
  | (c, b) :: r => bitsE (fun x => if x = c then learnN (P c) b else P x) (putE s (P c) b) r
def okPs (P : Nat → Nat) : Prop := ∀ x, okP (P x)
theorem okPs_learn {P : Nat → Nat} (h : okPs P) (c b : Nat) : okPs (fun x => if x = c then learnN (P c) b else P x) := fun x => by
  dsimp only
  split
  · exact learn_ok (h c) b
  · exact h x
theorem bits_ok : ∀ (l : List (Nat × Nat)) (P : Nat → Nat) (s : En), okPs P → OkE s → OkE (bitsE P s l)
  | [], _, _, _, h => h
  | (c, b) :: r, _, _, hP, h => bits_ok r _ _ (okPs_learn hP c b) (put_ok h (hP c) b)
/-- What comes later lies within what is there. -/
theorem put_in {s : En} (h : OkE s) {p : Nat} (hp : okP p) (b : Nat) : ∃ d, (putE s p b).out.length = s.out.length + d ∧ 256 ^ d * (midE s p b).V = (putE s p b).V ∧ 256 ^ d * (midE s p b).rang = (putE s p b).rang := by
  obtain ⟨m1, m2, m3, m4, m5, m6⟩ := mid_ok h hp b
  have h1 := h.low
  have h2 := h.room
  unfold putE wideE
  generalize midE s p b = t at *
  split
  · have hl : OkL t := ⟨by omega, by rw [m6]; exact h.bytes, by rw [m6]; omega⟩
    obtain ⟨l1, l2, l3, l4⟩ := lay_ok hl
    have e : (⟨(layN t).low, 256 * t.rang, (layN t).out⟩ : En).V = 256 * t.V := l2
    exact ⟨1, by dsimp only; rw [l3, m6], by rw [e, Nat.pow_one], by rw [Nat.pow_one]⟩
  · exact ⟨0, by rw [m6]; omega, by simp, by simp⟩
theorem bits_in : ∀ (l : List (Nat × Nat)) (P : Nat → Nat) (s : En), okPs P → OkE s → ∃ d, (bitsE P s l).out.length = s.out.length + d ∧ 256 ^ d * s.V ≤ (bitsE P s l).V ∧ (bitsE P s l).V + (bitsE P s l).rang ≤ 256 ^ d * (s.V + s.rang)
  | [], _, s, _, _ => ⟨0, by simp [bitsE], by simp [bitsE], by simp [bitsE]⟩
  | (c, b) :: r, P, s, hP, h => by
    obtain ⟨d1, e1, e2, e3⟩ := put_in h (hP c) b
    obtain ⟨d2, f1, f2, f3⟩ := bits_in r _ _ (okPs_learn hP c b) (put_ok h (hP c) b)
    obtain ⟨_, _, _, m4, m5, _⟩ := mid_ok h (hP c) b
    refine ⟨d1 + d2, ?_, ?_, ?_⟩
    · show (bitsE _ (putE s (P c) b) r).out.length = _
      omega
    · refine Nat.le_trans ?_ f2
      rw [← e2, ← Nat.mul_assoc, Nat.pow_add, Nat.mul_comm (256 ^ d1)]
      exact Nat.mul_le_mul_left _ m4
    · refine Nat.le_trans f3 ?_
      rw [← e2, ← e3, ← Nat.mul_add, ← Nat.mul_assoc, Nat.pow_add, Nat.mul_comm (256 ^ d1)]
      exact Nat.mul_le_mul_left _ m5

end Go.Proofs.Ytekidfkahpaokaa
