/-
  Waves as numbers: sums, the basis, what goes forth and back, and how far what comes back is off.
-/
import Derived.Test.YtoeehfjbnbbijabDoorKit
namespace Go.Proofs.YtoeehfjbnbbijabDoor

/-- The sum of the first n numbers of f. -/
def sumTo (f : Nat → Int) : Nat → Int
  | 0 => 0
  | n + 1 => sumTo f n + f n
theorem sumTo_congr {f g : Nat → Int} {n : Nat} (h : ∀ i, i < n → f i = g i) : sumTo f n = sumTo g n := by
  induction n with
  | zero => rfl
  | succ n ih => simp only [sumTo]; rw [ih (fun i hi => h i (by omega)), h n (by omega)]
theorem sumTo_mul (f : Nat → Int) (c : Int) (n : Nat) : sumTo f n * c = sumTo (fun i => f i * c) n := by
  induction n with
  | zero => simp [sumTo]
  | succ n ih => simp only [sumTo]; rw [Int.add_mul, ih]
theorem mul_sumTo (f : Nat → Int) (c : Int) (n : Nat) : c * sumTo f n = sumTo (fun i => c * f i) n := by
  rw [Int.mul_comm, sumTo_mul]
  exact sumTo_congr (fun i _ => Int.mul_comm _ _)
theorem sumTo_add (f g : Nat → Int) (n : Nat) : sumTo (fun i => f i + g i) n = sumTo f n + sumTo g n := by
  induction n with
  | zero => rfl
  | succ n ih => simp only [sumTo]; rw [ih]; omega
theorem sumTo_zero (n : Nat) : sumTo (fun _ => 0) n = 0 := by
  induction n with
  | zero => rfl
  | succ n ih => simp only [sumTo]; rw [ih]; rfl
theorem sumTo_swap (f : Nat → Nat → Int) (n m : Nat) : sumTo (fun i => sumTo (fun j => f i j) m) n = sumTo (fun j => sumTo (fun i => f i j) n) m := by
  induction n with
  | zero => simp only [sumTo]; rw [sumTo_zero]
  | succ n ih => simp only [sumTo]; rw [ih, sumTo_add]
theorem sumTo_one (f : Nat → Int) (k n : Nat) (hk : k < n) (h : ∀ i, i < n → i ≠ k → f i = 0) : sumTo f n = f k := by
  induction n with
  | zero => omega
  | succ n ih =>
    simp only [sumTo]
    by_cases e : k = n
    · subst e
      rw [sumTo_congr (g := fun _ => 0) (fun i hi => h i (by omega) (by omega)), sumTo_zero]; omega
    · rw [ih (by omega) (fun i hi hne => h i (by omega) hne), h n (by omega) (by omega)]; omega
theorem sumTo_within {f g : Nat → Int} {n : Nat} (h : ∀ i, i < n → -g i ≤ f i ∧ f i ≤ g i) : -sumTo g n ≤ sumTo f n ∧ sumTo f n ≤ sumTo g n := by
  induction n with
  | zero => simp [sumTo]
  | succ n ih => simp only [sumTo]; have := ih (fun i hi => h i (by omega)); have := h n (by omega); omega
theorem sumTo_bound {f : Nat → Int} {n : Nat} {M : Int} (h : ∀ i, i < n → -M ≤ f i ∧ f i ≤ M) : -(n * M) ≤ sumTo f n ∧ sumTo f n ≤ n * M := by
  induction n with
  | zero => simp [sumTo]
  | succ n ih =>
    simp only [sumTo]
    have := ih (fun i hi => h i (by omega))
    have := h n (by omega)
    have e : ((n + 1 : Nat) : Int) * M = n * M + M := by rw [Int.natCast_add, Int.add_mul]; simp
    omega
theorem mul_within {a b A B : Int} (ha : -A ≤ a ∧ a ≤ A) (hb : -B ≤ b ∧ b ≤ B) : -(A * B) ≤ a * b ∧ a * b ≤ A * B := by
  have hA : 0 ≤ A := by omega
  have hB : 0 ≤ B := by omega
  have h1 : a.natAbs ≤ A.toNat := by omega
  have h2 : b.natAbs ≤ B.toNat := by omega
  have h3 : (a * b).natAbs ≤ A.toNat * B.toNat := by rw [Int.natAbs_mul]; exact Nat.mul_le_mul h1 h2
  have h4 : ((A.toNat * B.toNat : Nat) : Int) = A * B := by rw [Int.natCast_mul, Int.toNat_of_nonneg hA, Int.toNat_of_nonneg hB]
  omega

/-- The basis: a wave in each row. -/
def wvL : List Int := [1448, 1448, 1448, 1448, 1448, 1448, 1448, 1448, 2009, 1703, 1138, 400, -400, -1138, -1703, -2009, 1892, 784, -784, -1892, -1892, -784, 784, 1892, 1703, -400, -2009, -1138, 1138, 2009, 400, -1703, 1448, -1448, -1448, 1448, 1448, -1448, -1448, 1448, 1138, -2009, 400, 1703, -1703, -400, 2009, -1138, 784, -1892, 1892, -784, -784, 1892, -1892, 784, 400, -1138, 1703, -2009, 2009, -1703, 1138, -400]
def wv (k : Nat) : Int := wvL.getD k 0
theorem wv_len : wvL.length = 64 := by rfl
theorem wv_in : ∀ k, k < 64 → -2048 ≤ wv k ∧ wv k ≤ 2048 := by decide

/-- What goes forth, ahead of rounding; what goes back. -/
def fwdS (z : Nat → Int) (u v : Nat) : Int := sumTo (fun y => sumTo (fun x => z (8 * y + x) * wv (8 * u + y) * wv (8 * v + x)) 8) 8
def invS (z : Nat → Int) (y x : Nat) : Int := sumTo (fun u => sumTo (fun v => z (8 * u + v) * wv (8 * u + y) * wv (8 * v + x)) 8) 8
def roundI (s : Int) : Int := (2 * s + 16777216) / 33554432
def clipS (n : Int) : Int := min (max n (-2048)) 2047
def fwd (z : Nat → Int) (k : Nat) : Int := roundI (fwdS z (k / 8) (k % 8))
def inv (z : Nat → Int) (k : Nat) : Int := clipS (roundI (invS z (k / 8) (k % 8)))

theorem fwdS_congr {z z' : Nat → Int} (h : ∀ k, k < 64 → z k = z' k) (u v : Nat) : fwdS z u v = fwdS z' u v :=
  sumTo_congr (fun y hy => sumTo_congr (fun x hx => by rw [h _ (by omega)]))
theorem invS_congr {z z' : Nat → Int} (h : ∀ k, k < 64 → z k = z' k) (y x : Nat) : invS z y x = invS z' y x :=
  sumTo_congr (fun u hu => sumTo_congr (fun v hv => by rw [h _ (by omega)]))

/-- How much of one column of waves is in another. -/
def gram (a b : Nat) : Int := sumTo (fun u => wv (8 * u + a) * wv (8 * u + b)) 8
def absN (x : Int) : Int := if x < 0 then -x else x
theorem absN_in (x : Int) : -absN x ≤ x ∧ x ≤ absN x := by unfold absN; split <;> omega
def colA (y : Nat) : Int := sumTo (fun u => absN (wv (8 * u + y))) 8
def rowA (u : Nat) : Int := sumTo (fun y => absN (wv (8 * u + y))) 8
def gap (y x a b : Nat) : Int := gram a y * gram b x - (if a = y ∧ b = x then 281474976710656 else 0)
def offBy (y x : Nat) : Int := sumTo (fun a => sumTo (fun b => 2048 * absN (gap y x a b)) 8) 8
set_option maxRecDepth 100000 in
theorem off_le : ∀ y, y < 8 → ∀ x, x < 8 → offBy y x ≤ 1126000000000000 := by decide +kernel
theorem colA_le : ∀ y, y < 8 → colA y ≤ 10822 := by decide +kernel
theorem rowA_le : ∀ u, u < 8 → rowA u ≤ 11584 := by decide +kernel
theorem row_sum : ∀ u, u < 8 → 0 < u → sumTo (fun y => wv (8 * u + y)) 8 = 0 := by decide +kernel

theorem sum_bound2 {f : Nat → Nat → Int} {g h : Nat → Int} {M : Int} (hf : ∀ i, i < 8 → ∀ j, j < 8 → -(M * (g i * h j)) ≤ f i j ∧ f i j ≤ M * (g i * h j)) :
    -(M * (sumTo g 8 * sumTo h 8)) ≤ sumTo (fun i => sumTo (fun j => f i j) 8) 8 ∧ sumTo (fun i => sumTo (fun j => f i j) 8) 8 ≤ M * (sumTo g 8 * sumTo h 8) := by
  have e : M * (sumTo g 8 * sumTo h 8) = sumTo (fun i => sumTo (fun j => M * (g i * h j)) 8) 8 := by
    rw [sumTo_mul, mul_sumTo]
    refine sumTo_congr (fun i _ => ?_)
    rw [mul_sumTo, mul_sumTo]
  rw [e]
  exact sumTo_within (fun i hi => sumTo_within (fun j hj => hf i hi j hj))

theorem term_within {z a b M : Int} (hz : -M ≤ z ∧ z ≤ M) : -(M * (absN a * absN b)) ≤ z * a * b ∧ z * a * b ≤ M * (absN a * absN b) := by
  have h := mul_within (mul_within hz (absN_in a)) (absN_in b)
  rw [Int.mul_assoc M] at h
  exact h
theorem absN_nonneg (x : Int) : 0 ≤ absN x := by unfold absN; split <;> omega

theorem sumTo_nonneg {g : Nat → Int} {n : Nat} (h : ∀ i, i < n → 0 ≤ g i) : 0 ≤ sumTo g n := by
  induction n with
  | zero => simp [sumTo]
  | succ n ih => simp only [sumTo]; have := ih (fun i hi => h i (by omega)); have := h n (by omega); omega
theorem rowA_nonneg (u : Nat) : 0 ≤ rowA u := sumTo_nonneg (fun _ _ => absN_nonneg _)
theorem colA_nonneg (u : Nat) : 0 ≤ colA u := sumTo_nonneg (fun _ _ => absN_nonneg _)

/-- What goes forth is a block that is ok. -/
theorem fwdS_within {z : Nat → Int} (hz : ∀ k, k < 64 → -2048 ≤ z k ∧ z k ≤ 2048) {u v : Nat} (hu : u < 8) (hv : v < 8) : -274819186688 ≤ fwdS z u v ∧ fwdS z u v ≤ 274819186688 := by
  have h := sum_bound2 (f := fun y x => z (8 * y + x) * wv (8 * u + y) * wv (8 * v + x)) (g := fun y => absN (wv (8 * u + y))) (h := fun x => absN (wv (8 * v + x))) (M := 2048) (fun i hi j hj => term_within (hz _ (by omega)))
  have h2 : rowA u * rowA v ≤ 11584 * 11584 := (mul_within (A := 11584) (B := 11584) ⟨by have := rowA_nonneg u; omega, rowA_le u hu⟩ ⟨by have := rowA_nonneg v; omega, rowA_le v hv⟩).2
  have h3 : -(2048 * (rowA u * rowA v)) ≤ fwdS z u v ∧ fwdS z u v ≤ 2048 * (rowA u * rowA v) := h
  omega
theorem fwd_within {z : Nat → Int} (hz : ∀ k, k < 64 → -2048 ≤ z k ∧ z k ≤ 2048) (k : Nat) (hk : k < 64) : -32767 ≤ fwd z k ∧ fwd z k ≤ 32767 := by
  have := fwdS_within hz (u := k / 8) (v := k % 8) (by omega) (by omega)
  unfold fwd roundI
  omega
theorem invS_within {z : Nat → Int} (hz : ∀ k, k < 64 → -32767 ≤ z k ∧ z k ≤ 32767) {y x : Nat} (hy : y < 8) (hx : x < 8) : -3837700000000 ≤ invS z y x ∧ invS z y x ≤ 3837700000000 := by
  have h := sum_bound2 (f := fun u v => z (8 * u + v) * wv (8 * u + y) * wv (8 * v + x)) (g := fun u => absN (wv (8 * u + y))) (h := fun v => absN (wv (8 * v + x))) (M := 32767) (fun i hi j hj => term_within (hz _ (by omega)))
  have h2 : colA y * colA x ≤ 10822 * 10822 := (mul_within (A := 10822) (B := 10822) ⟨by have := colA_nonneg y; omega, colA_le y hy⟩ ⟨by have := colA_nonneg x; omega, colA_le x hx⟩).2
  have h3 : -(32767 * (colA y * colA x)) ≤ invS z y x ∧ invS z y x ≤ 32767 * (colA y * colA x) := h
  omega

theorem swap4 (f : Nat → Nat → Nat → Nat → Int) : sumTo (fun u => sumTo (fun v => sumTo (fun a => sumTo (fun b => f u v a b) 8) 8) 8) 8 = sumTo (fun a => sumTo (fun b => sumTo (fun u => sumTo (fun v => f u v a b) 8) 8) 8) 8 := by
  have e1 : sumTo (fun u => sumTo (fun v => sumTo (fun a => sumTo (fun b => f u v a b) 8) 8) 8) 8 = sumTo (fun u => sumTo (fun a => sumTo (fun v => sumTo (fun b => f u v a b) 8) 8) 8) 8 := sumTo_congr (fun u _ => sumTo_swap (fun v a => sumTo (fun b => f u v a b) 8) 8 8)
  rw [e1, sumTo_swap (fun u a => sumTo (fun v => sumTo (fun b => f u v a b) 8) 8) 8 8]
  refine sumTo_congr (fun a _ => ?_)
  have e2 : sumTo (fun u => sumTo (fun v => sumTo (fun b => f u v a b) 8) 8) 8 = sumTo (fun u => sumTo (fun b => sumTo (fun v => f u v a b) 8) 8) 8 := sumTo_congr (fun u _ => sumTo_swap (fun v b => f u v a b) 8 8)
  rw [e2, sumTo_swap (fun u b => sumTo (fun v => f u v a b) 8) 8 8]

/-- What went forth, whole, and came back. -/
theorem back_whole (z : Nat → Int) (y x : Nat) : sumTo (fun u => sumTo (fun v => fwdS z u v * wv (8 * u + y) * wv (8 * v + x)) 8) 8 = sumTo (fun a => sumTo (fun b => z (8 * a + b) * (gram a y * gram b x)) 8) 8 := by
  have e : sumTo (fun u => sumTo (fun v => fwdS z u v * wv (8 * u + y) * wv (8 * v + x)) 8) 8 = sumTo (fun u => sumTo (fun v => sumTo (fun a => sumTo (fun b => z (8 * a + b) * ((wv (8 * u + a) * wv (8 * u + y)) * (wv (8 * v + b) * wv (8 * v + x)))) 8) 8) 8) 8 := by
    refine sumTo_congr (fun u _ => sumTo_congr (fun v _ => ?_))
    unfold fwdS
    rw [sumTo_mul, sumTo_mul]
    refine sumTo_congr (fun a _ => ?_)
    rw [sumTo_mul, sumTo_mul]
    exact sumTo_congr (fun b _ => by ac_rfl)
  rw [e, swap4]
  refine sumTo_congr (fun a _ => sumTo_congr (fun b _ => ?_))
  unfold gram
  rw [sumTo_mul, mul_sumTo]
  refine sumTo_congr (fun u _ => ?_)
  rw [mul_sumTo, mul_sumTo]

theorem back_apart (z : Nat → Int) (y x : Nat) (hy : y < 8) (hx : x < 8) : sumTo (fun a => sumTo (fun b => z (8 * a + b) * (gram a y * gram b x)) 8) 8 = 281474976710656 * z (8 * y + x) + sumTo (fun a => sumTo (fun b => z (8 * a + b) * gap y x a b) 8) 8 := by
  have e : 281474976710656 * z (8 * y + x) = sumTo (fun a => sumTo (fun b => z (8 * a + b) * (if a = y ∧ b = x then 281474976710656 else 0)) 8) 8 := by
    rw [sumTo_one _ y 8 hy, sumTo_one _ x 8 hx]
    · simp; omega
    · intro i _ hne; simp [hne]
    · intro i _ hne; simp [hne]; exact sumTo_zero 8
  rw [e, ← sumTo_add]
  refine sumTo_congr (fun a _ => ?_)
  rw [← sumTo_add]
  refine sumTo_congr (fun b _ => ?_)
  rw [← Int.mul_add]
  congr 1
  unfold gap
  omega

/-- What is rounded is off by no more than half a step. -/
theorem round_off (s : Int) : -8388608 ≤ 16777216 * roundI s - s ∧ 16777216 * roundI s - s ≤ 8388608 := by unfold roundI; omega

theorem waves_back {z : Nat → Int} (hz : ∀ k, k < 64 → -2048 ≤ z k ∧ z k ≤ 2047) (k : Nat) (hk : k < 64) : -16 ≤ inv (fwd z) k - z k ∧ inv (fwd z) k - z k ≤ 16 := by
  obtain ⟨y, x, hy, hx, rfl, e1, e2⟩ : ∃ y x, y < 8 ∧ x < 8 ∧ k = 8 * y + x ∧ (8 * y + x) / 8 = y ∧ (8 * y + x) % 8 = x := ⟨k / 8, k % 8, by omega, by omega, by omega, by omega, by omega⟩
  have hS : 16777216 * invS (fwd z) y x = sumTo (fun u => sumTo (fun v => fwdS z u v * wv (8 * u + y) * wv (8 * v + x)) 8) 8 + sumTo (fun u => sumTo (fun v => (16777216 * fwd z (8 * u + v) - fwdS z u v) * wv (8 * u + y) * wv (8 * v + x)) 8) 8 := by
    unfold invS
    rw [mul_sumTo, ← sumTo_add]
    refine sumTo_congr (fun u _ => ?_)
    rw [mul_sumTo, ← sumTo_add]
    refine sumTo_congr (fun v _ => ?_)
    rw [← Int.add_mul, ← Int.add_mul]
    have : fwdS z u v + (16777216 * fwd z (8 * u + v) - fwdS z u v) = 16777216 * fwd z (8 * u + v) := by omega
    rw [this]
    ac_rfl
  have hE := sum_bound2 (f := fun u v => (16777216 * fwd z (8 * u + v) - fwdS z u v) * wv (8 * u + y) * wv (8 * v + x)) (g := fun u => absN (wv (8 * u + y))) (h := fun v => absN (wv (8 * v + x))) (M := 8388608) (fun i hi j hj => term_within (by
    have h := round_off (fwdS z i j)
    have e : fwd z (8 * i + j) = roundI (fwdS z i j) := by unfold fwd; rw [show (8 * i + j) / 8 = i by omega, show (8 * i + j) % 8 = j by omega]
    rw [e]; exact h))
  have h2 : colA y * colA x ≤ 10822 * 10822 := (mul_within (A := 10822) (B := 10822) ⟨by have := colA_nonneg y; omega, colA_le y hy⟩ ⟨by have := colA_nonneg x; omega, colA_le x hx⟩).2
  have hE2 : ∀ E : Int, (-(8388608 * (colA y * colA x)) ≤ E ∧ E ≤ 8388608 * (colA y * colA x)) → -982500000000000 ≤ E ∧ E ≤ 982500000000000 := fun E h => by omega
  have hE3 := hE2 _ hE
  have hG : -offBy y x ≤ sumTo (fun a => sumTo (fun b => z (8 * a + b) * gap y x a b) 8) 8 ∧ sumTo (fun a => sumTo (fun b => z (8 * a + b) * gap y x a b) 8) 8 ≤ offBy y x :=
    sumTo_within (fun a ha => sumTo_within (fun b hb => mul_within (by have := hz (8 * a + b) (by omega); omega) (absN_in _)))
  have hO := off_le y hy x hx
  rw [back_whole, back_apart z y x hy hx] at hS
  have hzz := hz (8 * y + x) hk
  unfold inv clipS
  rw [e1, e2]
  generalize invS (fwd z) y x = R at *
  generalize sumTo (fun a => sumTo (fun b => z (8 * a + b) * gap y x a b) 8) 8 = P at *
  generalize sumTo (fun u => sumTo (fun v => (16777216 * fwd z (8 * u + v) - fwdS z u v) * wv (8 * u + y) * wv (8 * v + x)) 8) 8 = E at *
  generalize z (8 * y + x) = Z at *
  unfold roundI
  omega

/-- A flat block has no wave but the first. -/
theorem flat_fwd (c : Int) (k : Nat) (hk : k < 64) (h0 : 0 < k) : fwd (fun _ => c) k = 0 := by
  have key : fwdS (fun _ => c) (k / 8) (k % 8) = c * (sumTo (fun y => wv (8 * (k / 8) + y)) 8 * sumTo (fun x => wv (8 * (k % 8) + x)) 8) := by
    unfold fwdS
    rw [sumTo_mul, mul_sumTo]
    refine sumTo_congr (fun y _ => ?_)
    rw [mul_sumTo, mul_sumTo]
    exact sumTo_congr (fun x _ => by rw [Int.mul_assoc])
  have h : fwdS (fun _ => c) (k / 8) (k % 8) = 0 := by
    rw [key]
    by_cases e : k / 8 = 0
    · rw [row_sum (k % 8) (by omega) (by omega)]; simp
    · rw [row_sum (k / 8) (by omega) (by omega)]; simp
  unfold fwd
  rw [h]
  rfl

end Go.Proofs.YtoeehfjbnbbijabDoor
