/-
  The best lens, as mathematics: bounds, and the sums as they are gone through one by one.
-/
import Derived.Test.YtcbaiagkdphkeaaBestPure4
namespace Go.Proofs.Ytcbaiagkdphkeaa

theorem pairs_all (Q R : Th → Prop) (hq : ∀ a b : Th, Q a → Q b → R ⟨a.w + b.w, List.zipWith (· + ·) a.cs b.cs⟩) : ∀ l : List Th, (∀ t ∈ l, Q t) → ∀ t ∈ pairsG l, R t := by
  intro l
  induction l using pairsG.induct with
  | case1 a b r ih =>
    intro hl t ht
    simp only [pairsG, List.mem_cons] at ht
    rcases ht with rfl | ht
    · exact hq a b (hl a (by simp)) (hl b (by simp))
    · exact ih (fun x hx => hl x (by simp [hx])) t ht
  | case2 l h =>
    intro _ t ht
    rw [pairsG] at ht
    · simp at ht
    · exact h
theorem zip_bound {a b : List Int} {B : Int} (ha : ∀ x ∈ a, 0 ≤ x ∧ x ≤ B) (hb : ∀ x ∈ b, 0 ≤ x ∧ x ≤ B) : ∀ x ∈ List.zipWith (· + ·) a b, 0 ≤ x ∧ x ≤ 2 * B := by
  intro x hx
  obtain ⟨i, hi, rfl⟩ := List.getElem_of_mem hx
  rw [List.getElem_zipWith]
  rw [List.length_zipWith] at hi
  have h1 := ha _ (List.getElem_mem (show i < a.length by omega))
  have h2 := hb _ (List.getElem_mem (show i < b.length by omega))
  omega
theorem things_bound {ws : List Int} (hw : ∀ x ∈ ws, 0 ≤ x ∧ x ≤ 1000000) : ∀ (k : Nat), ∀ t ∈ thingsG (coinsG ws) k, (0 ≤ t.w ∧ t.w ≤ 1000000 * 2 ^ k) ∧ ∀ c ∈ t.cs, 0 ≤ c ∧ c ≤ 2 ^ k
  | 0, t, h => by
    simp only [thingsG, coinsG, List.mem_map, List.mem_range] at h
    obtain ⟨i, hi, rfl⟩ := h
    refine ⟨?_, fun c hc => ?_⟩
    · have e : ws.getD i 0 = ws[i] := by simp [hi]
      show 0 ≤ ws.getD i 0 ∧ ws.getD i 0 ≤ 1000000 * 2 ^ 0
      rw [e]
      have := hw _ (List.getElem_mem hi)
      simp; omega
    · have hc' : c ∈ (List.replicate ws.length (0 : Int)).set i 1 := hc
      rcases List.mem_or_eq_of_mem_set hc' with h | h
      · rw [List.eq_of_mem_replicate h]; decide
      · rw [h]; decide
  | k + 1, t, h => by
    have e : (2 : Int) ^ (k + 1) = 2 * 2 ^ k := by rw [Int.pow_succ, Int.mul_comm]
    have hp : (0 : Int) < 2 ^ k := Int.pow_pos (by decide)
    rcases merge_mem _ _ _ h with h | h
    · obtain ⟨h1, h2⟩ := things_bound hw 0 t h
      simp only [Int.pow_zero] at h1 h2
      rw [e]
      refine ⟨by omega, fun c hc => ?_⟩
      have := h2 c hc
      omega
    · refine pairs_all (fun t => (0 ≤ t.w ∧ t.w ≤ 1000000 * 2 ^ k) ∧ ∀ c ∈ t.cs, 0 ≤ c ∧ c ≤ 2 ^ k) (fun t => (0 ≤ t.w ∧ t.w ≤ 1000000 * 2 ^ (k + 1)) ∧ ∀ c ∈ t.cs, 0 ≤ c ∧ c ≤ 2 ^ (k + 1)) (fun a b ha hb => ?_) _ (things_bound hw k) t h
      rw [e]
      refine ⟨?_, zip_bound ha.2 hb.2⟩
      show 0 ≤ a.w + b.w ∧ a.w + b.w ≤ 1000000 * (2 * 2 ^ k)
      omega
theorem things_count {ws : List Int} : ∀ k, (thingsG (coinsG ws) k).length ≤ 2 * ws.length
  | 0 => by rw [thingsG, coins_len]; omega
  | k + 1 => by
    have := things_count (ws := ws) k
    rw [thingsG, merge_len, coins_len, pairs_len]; omega

theorem sumN_swap : ∀ (n m : Nat) (f : Nat → Nat → Int), sumN n (fun i => sumN m (fun j => f i j)) = sumN m (fun j => sumN n (fun i => f i j))
  | 0, m, f => by
    show 0 = sumN m (fun _ => 0)
    rw [sumN_zero]
  | n + 1, m, f => by
    show sumN m (fun j => f 0 j) + sumN n (fun i => sumN m (fun j => f (i + 1) j)) = sumN m (fun j => f 0 j + sumN n (fun i => f (i + 1) j))
    rw [sumN_swap n m (fun i j => f (i + 1) j), sumN_add]
theorem pre_sum (f : Th → Int) : ∀ (l : List Th) (m : Nat), m ≤ l.length → pre f l m = sumN m (fun t => f (l.getD t default))
  | l, 0, _ => by rw [pre_zero]; rfl
  | [], m + 1, h => by simp at h
  | x :: l, m + 1, h => by
    rw [pre_cons, pre_sum f l m (by simpa using h)]
    rfl

/-- What has been added for symbol s behind i things and k coins. -/
def addedTo (order : List Nat) (H : List Th) (i k s : Nat) : Int :=
  sumN i (fun t => sumN order.length (fun j => if order.getD j 0 = s then getc j (H.getD t default) else 0)) + sumN k (fun j => if order.getD j 0 = s then getc j (H.getD i default) else 0)
def outL (n : Nat) (order : List Nat) (H : List Th) (i k : Nat) : List Int := (List.range n).map fun s => addedTo order H i k s
theorem outL_len (n : Nat) (order : List Nat) (H : List Th) (i k : Nat) : (outL n order H i k).length = n := by simp [outL]
theorem outL_at (n : Nat) (order : List Nat) (H : List Th) (i k s : Nat) (h : s < n) : (outL n order H i k).getD s 0 = addedTo order H i k s := by simp [outL, h]
theorem outL_start (n : Nat) (order : List Nat) (H : List Th) : outL n order H 0 0 = List.replicate n 0 := by
  apply List.ext_getElem?
  intro s
  by_cases h : s < n
  · simp [outL, h, addedTo, sumN]
  · simp [outL, h]
theorem outL_next (n : Nat) (order : List Nat) (H : List Th) (i : Nat) : outL n order H i order.length = outL n order H (i + 1) 0 := by
  unfold outL
  congr 1
  funext s
  unfold addedTo
  rw [sumN_back]
  show _ = _ + (0 : Int)
  omega
theorem outL_step (n : Nat) (order : List Nat) (H : List Th) (i k : Nat) (hk : order.getD k 0 < n) : (outL n order H i k).set (order.getD k 0) ((outL n order H i k).getD (order.getD k 0) 0 + getc k (H.getD i default)) = outL n order H i (k + 1) := by
  have e : ∀ s, addedTo order H i (k + 1) s = addedTo order H i k s + (if order.getD k 0 = s then getc k (H.getD i default) else 0) := fun s => by
    unfold addedTo
    rw [sumN_back]; omega
  rw [outL_at n order H i k _ hk]
  apply List.ext_getElem?
  intro s
  rw [List.getElem?_set]
  by_cases hs : s < n
  · have e2 : (outL n order H i (k + 1))[s]? = some (addedTo order H i (k + 1) s) := by simp [outL, hs]
    have e3 : (outL n order H i k)[s]? = some (addedTo order H i k s) := by simp [outL, hs]
    rw [e2, e3, e s, outL_len]
    by_cases h : order.getD k 0 = s
    · rw [if_pos h, if_pos hk, if_pos h, h]
    · rw [if_neg h, if_neg h, Int.add_zero]
  · rw [if_neg (by omega), List.getElem?_eq_none (by rw [outL_len]; omega), List.getElem?_eq_none (by rw [outL_len]; omega)]
theorem sumN_bound : ∀ (n : Nat) (f : Nat → Int) (B : Int), (∀ i, i < n → 0 ≤ f i ∧ f i ≤ B) → 0 ≤ sumN n f ∧ sumN n f ≤ n * B
  | 0, _, _, _ => by simp [sumN]
  | n + 1, f, B, h => by
    have h1 := h 0 (by omega)
    have h2 := sumN_bound n (fun i => f (i + 1)) B (fun i hi => h (i + 1) (by omega))
    have e : ((n + 1 : Nat) : Int) * B = n * B + B := by rw [Int.natCast_add, Int.add_mul]; simp
    show 0 ≤ f 0 + sumN n (fun i => f (i + 1)) ∧ f 0 + sumN n (fun i => f (i + 1)) ≤ ((n + 1 : Nat) : Int) * B
    rw [e]
    omega
theorem added_bound {order : List Nat} {H : List Th} {i k s : Nat} (hH : ∀ t j, 0 ≤ getc j (H.getD t default) ∧ getc j (H.getD t default) ≤ 32768) (ho : order.length ≤ 256) (hi : i ≤ 512) (hk : k ≤ 256) : 0 ≤ addedTo order H i k s ∧ addedTo order H i k s ≤ 1000000000000 := by
  have hf : ∀ t j, 0 ≤ (if order.getD j 0 = s then getc j (H.getD t default) else 0) ∧ (if order.getD j 0 = s then getc j (H.getD t default) else 0) ≤ 32768 := fun t j => by
    have := hH t j
    split <;> omega
  have h1 := sumN_bound k (fun j => if order.getD j 0 = s then getc j (H.getD i default) else 0) 32768 (fun j _ => hf i j)
  have h2 := sumN_bound i (fun t => sumN order.length (fun j => if order.getD j 0 = s then getc j (H.getD t default) else 0)) 8388608 (fun t _ => by
    have := sumN_bound order.length (fun j => if order.getD j 0 = s then getc j (H.getD t default) else 0) 32768 (fun j _ => hf t j)
    omega)
  unfold addedTo
  omega
theorem outL_end {n : Nat} {order : List Nat} {ws : List Int} (hl : ws.length = order.length) (he : 2 * ws.length - 2 ≤ (thingsG (coinsG ws) 15).length) : outL n order (thingsG (coinsG ws) 15) (2 * ws.length - 2) 0 = spread n order (lensC ws) := by
  unfold outL spread
  congr 1
  funext s
  unfold addedTo
  rw [sumN_swap]
  show _ + (0 : Int) = _
  rw [Int.add_zero]
  refine sumN_congr _ _ _ (fun j hj => ?_)
  by_cases h : order.getD j 0 = s
  · rw [if_pos h, lensC_at ws j (by omega), pre_sum _ _ _ he]
    exact sumN_congr _ _ _ (fun t _ => by rw [if_pos h])
  · rw [if_neg h, ← sumN_zero (2 * ws.length - 2)]
    exact sumN_congr _ _ _ (fun t _ => by rw [if_neg h, sumN_zero])
theorem spread_one (n s : Nat) (h : s < n) : (List.replicate n (0 : Int)).set s 1 = spread n [s] [1] := by
  apply List.ext_getElem?
  intro x
  rw [List.getElem?_set]
  by_cases hx : x < n
  · by_cases e : s = x
    · subst e
      simp [spread, hx, sumN]
    · simp [spread, hx, sumN, e]
  · simp [spread, hx]
    omega

end Go.Proofs.Ytcbaiagkdphkeaa
