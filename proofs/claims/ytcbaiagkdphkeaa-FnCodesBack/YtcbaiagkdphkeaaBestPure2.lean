/-
  The best lens, as mathematics: they can be, and no others cost less.
-/
import Derived.Test.YtcbaiagkdphkeaaBestPure
namespace Go.Proofs.Ytcbaiagkdphkeaa

/-- Sums over the numbers below n. -/
def sumF : Nat → (Nat → Nat) → Nat
  | 0, _ => 0
  | n + 1, f => f 0 + sumF n (fun i => f (i + 1))
def sumN : Nat → (Nat → Int) → Int
  | 0, _ => 0
  | n + 1, f => f 0 + sumN n (fun i => f (i + 1))
theorem sumF_congr : ∀ (n : Nat) (f g : Nat → Nat), (∀ i, i < n → f i = g i) → sumF n f = sumF n g
  | 0, _, _, _ => rfl
  | n + 1, f, g, h => by
    unfold sumF
    rw [h 0 (by omega), sumF_congr n _ _ (fun i hi => h (i + 1) (by omega))]
theorem sumN_congr : ∀ (n : Nat) (f g : Nat → Int), (∀ i, i < n → f i = g i) → sumN n f = sumN n g
  | 0, _, _, _ => rfl
  | n + 1, f, g, h => by
    unfold sumN
    rw [h 0 (by omega), sumN_congr n _ _ (fun i hi => h (i + 1) (by omega))]
theorem sumF_add : ∀ (n : Nat) (f g : Nat → Nat), sumF n (fun i => f i + g i) = sumF n f + sumF n g
  | 0, _, _ => rfl
  | n + 1, f, g => by
    have h := sumF_add n (fun i => f (i + 1)) (fun i => g (i + 1))
    show (f 0 + g 0) + sumF n (fun i => f (i + 1) + g (i + 1)) = (f 0 + sumF n (fun i => f (i + 1))) + (g 0 + sumF n (fun i => g (i + 1)))
    rw [h]; omega
theorem sumN_add : ∀ (n : Nat) (f g : Nat → Int), sumN n (fun i => f i + g i) = sumN n f + sumN n g
  | 0, _, _ => rfl
  | n + 1, f, g => by
    have h := sumN_add n (fun i => f (i + 1)) (fun i => g (i + 1))
    show (f 0 + g 0) + sumN n (fun i => f (i + 1) + g (i + 1)) = (f 0 + sumN n (fun i => f (i + 1))) + (g 0 + sumN n (fun i => g (i + 1)))
    rw [h]; omega
theorem sumF_mul : ∀ (n k : Nat) (f : Nat → Nat), sumF n (fun i => k * f i) = k * sumF n f
  | 0, _, _ => rfl
  | n + 1, k, f => by
    have h := sumF_mul n k (fun i => f (i + 1))
    show k * f 0 + sumF n (fun i => k * f (i + 1)) = k * (f 0 + sumF n (fun i => f (i + 1)))
    rw [h, Nat.mul_add]
theorem sumF_zero : ∀ n : Nat, sumF n (fun _ => 0) = 0
  | 0 => rfl
  | n + 1 => by unfold sumF; rw [sumF_zero n]
theorem sumN_zero : ∀ n : Nat, sumN n (fun _ => 0) = 0
  | 0 => rfl
  | n + 1 => by unfold sumN; rw [sumN_zero n]; rfl
theorem sumF_const : ∀ n k : Nat, sumF n (fun _ => k) = n * k
  | 0, k => by simp [sumF]
  | n + 1, k => by unfold sumF; rw [sumF_const n k, Nat.add_mul, Nat.one_mul, Nat.add_comm]
theorem sumF_le : ∀ (n : Nat) (f g : Nat → Nat), (∀ i, i < n → f i ≤ g i) → sumF n f ≤ sumF n g
  | 0, _, _, _ => Nat.le_refl _
  | n + 1, f, g, h => by
    have h1 := h 0 (by omega)
    have h2 := sumF_le n _ _ (fun i hi => h (i + 1) (by omega))
    unfold sumF; omega
theorem sumF_one : ∀ (n : Nat) (f : Nat → Nat) (i : Nat), i < n → f i ≤ sumF n f
  | n + 1, f, 0, _ => by unfold sumF; omega
  | n + 1, f, i + 1, h => by
    have := sumF_one n (fun j => f (j + 1)) i (by omega)
    unfold sumF; omega
theorem sumF_two : ∀ (n : Nat) (f : Nat → Nat) (i j : Nat), i < n → j < n → i ≠ j → f i + f j ≤ sumF n f
  | n + 1, f, 0, 0, _, _, h => absurd rfl h
  | n + 1, f, 0, j + 1, _, hj, _ => by
    have := sumF_one n (fun j => f (j + 1)) j (by omega)
    unfold sumF; omega
  | n + 1, f, i + 1, 0, hi, _, _ => by
    have := sumF_one n (fun j => f (j + 1)) i (by omega)
    unfold sumF; omega
  | n + 1, f, i + 1, j + 1, hi, hj, h => by
    have := sumF_two n (fun j => f (j + 1)) i j (by omega) (by omega) (by omega)
    unfold sumF; omega
theorem sumF_below : ∀ (n c : Nat), c ≤ n → sumF n (fun i => if i < c then 1 else 0) = c
  | 0, c, h => by simp [sumF]; omega
  | n + 1, 0, _ => by
    have : sumF (n + 1) (fun i => if i < 0 then 1 else 0) = sumF (n + 1) (fun _ => 0) := sumF_congr _ _ _ (fun i _ => by simp)
    rw [this, sumF_zero]
  | n + 1, c + 1, h => by
    have := sumF_below n c (by omega)
    unfold sumF
    have e : (fun i => if i + 1 < c + 1 then 1 else 0) = (fun i => if i < c then 1 else 0) := by funext i; simp
    rw [e, this]; simp; omega
theorem cnt_sum : ∀ (n : Nat) (s : Nat → Bool), cnt n s = sumF n (fun i => if s i then 1 else 0)
  | 0, _ => rfl
  | n + 1, s => by unfold cnt sumF; rw [cnt_sum n]
theorem wt_sum : ∀ (l : List Th) (s : Nat → Bool), wt l s = sumN l.length (fun i => if s i then (l.getD i default).w else 0)
  | [], _ => rfl
  | x :: xs, s => by
    show (if s 0 then x.w else 0) + wt xs (fun i => s (i + 1)) = _
    rw [wt_sum xs, List.length_cons]
    rfl

/-- A coin's counts: once itself. -/
def unitV (n i : Nat) : List Int := (List.replicate n 0).set i 1
def coinsG (ws : List Int) : List Th := (List.range ws.length).map fun i => ⟨ws.getD i 0, unitV ws.length i⟩
theorem coins_len (ws : List Int) : (coinsG ws).length = ws.length := by simp [coinsG]
theorem unit_at (n i k : Nat) (hk : k < n) : (unitV n i).getD k 0 = if k = i then 1 else 0 := by
  unfold unitV
  rw [List.getD_eq_getElem?_getD, List.getElem?_set]
  by_cases h : k = i
  · subst h; simp [hk]
  · simp [h, Ne.symm h, hk]
theorem unit_len (n i : Nat) : (unitV n i).length = n := by simp [unitV]
def getc (i : Nat) (t : Th) : Int := t.cs.getD i 0
theorem zip_at : ∀ (a b : List Int) (i : Nat), a.length = b.length → (List.zipWith (· + ·) a b).getD i 0 = a.getD i 0 + b.getD i 0
  | [], [], i, _ => by simp
  | x :: a, y :: b, 0, _ => by simp
  | x :: a, y :: b, i + 1, h => by
    have := zip_at a b i (by simpa using h)
    simpa using this
theorem things_len {ws : List Int} : ∀ (k : Nat), ∀ t ∈ thingsG (coinsG ws) k, t.cs.length = ws.length
  | 0, t, h => by
    simp only [thingsG, coinsG, List.mem_map] at h
    obtain ⟨i, _, rfl⟩ := h
    exact unit_len _ _
  | k + 1, t, h => by
    rcases merge_mem _ _ _ h with h | h
    · exact things_len 0 t h
    · have key : ∀ l : List Th, (∀ t ∈ l, t.cs.length = ws.length) → ∀ t ∈ pairsG l, t.cs.length = ws.length := by
        intro l
        induction l using pairsG.induct with
        | case1 a b r ih =>
          intro hl t ht
          simp only [pairsG, List.mem_cons] at ht
          rcases ht with rfl | ht
          · have h1 := hl a (by simp)
            have h2 := hl b (by simp)
            simp [h1, h2]
          · exact ih (fun x hx => hl x (by simp [hx])) t ht
        | case2 l h =>
          intro _ t ht
          rw [pairsG] at ht
          · simp at ht
          · exact h
      exact key _ (things_len k) t h
theorem coins_pre {ws : List Int} {i : Nat} (hi : i < ws.length) : ∀ a, a ≤ ws.length → pre (getc i) (coinsG ws) a = if i < a then 1 else 0 := by
  have key : ∀ (m s : Nat) (a : Nat), s + m = ws.length → a ≤ m → pre (getc i) ((List.range' s m).map fun i => (⟨ws.getD i 0, unitV ws.length i⟩ : Th)) a = if s ≤ i ∧ i < s + a then 1 else 0 := by
    intro m
    induction m with
    | zero =>
      intro s a _ ha
      obtain rfl : a = 0 := by omega
      rw [pre_zero, if_neg (by omega)]
    | succ m ih =>
      intro s a hs ha
      cases a with
      | zero => rw [pre_zero, if_neg (by omega)]
      | succ a =>
        rw [List.range'_succ, List.map_cons, pre_cons, ih (s + 1) a (by omega) (by omega)]
        show (unitV ws.length s).getD i 0 + _ = _
        rw [unit_at _ _ _ hi]
        by_cases h1 : i = s
        · rw [if_pos h1, if_neg (by omega), if_pos (by omega)]; rfl
        · rw [if_neg h1]
          by_cases h2 : s + 1 ≤ i ∧ i < s + 1 + a
          · rw [if_pos h2, if_pos (by omega)]; rfl
          · rw [if_neg h2, if_neg (by omega)]; rfl
  intro a ha
  have h := key ws.length 0 a (by omega) ha
  rw [← List.range_eq_range'] at h
  rw [coinsG, h]
  simp

/-- How many of k numbers are above i; how wide they are together. -/
def lvl (c : Nat → Nat) (i : Nat) : Nat → Nat
  | 0 => 0
  | K + 1 => lvl c i K + (if i < c K then 1 else 0)
def wid (c : Nat → Nat) : Nat → Nat
  | 0 => 0
  | K + 1 => wid c K + 2 ^ K * c K
theorem lvl_congr {c d : Nat → Nat} {i : Nat} : ∀ K, (∀ j, j < K → c j = d j) → lvl c i K = lvl d i K
  | 0, _ => rfl
  | K + 1, h => by unfold lvl; rw [lvl_congr K (fun j hj => h j (by omega)), h K (by omega)]
theorem wid_congr {c d : Nat → Nat} : ∀ K, (∀ j, j < K → c j = d j) → wid c K = wid d K
  | 0, _ => rfl
  | K + 1, h => by unfold wid; rw [wid_congr K (fun j hj => h j (by omega)), h K (by omega)]
/-- The first things are the first coins of each width. -/
theorem things_split {ws : List Int} : ∀ (k m : Nat), m ≤ (thingsG (coinsG ws) k).length → ∃ c : Nat → Nat, (∀ j, c j ≤ ws.length) ∧ wid c (k + 1) = m * 2 ^ k ∧ ∀ i, i < ws.length → pre (getc i) (thingsG (coinsG ws) k) m = (lvl c i (k + 1) : Int)
  | 0, m, h => by
    have hm : m ≤ ws.length := by simpa [thingsG, coins_len] using h
    refine ⟨fun _ => m, fun _ => hm, by simp [wid], fun i hi => ?_⟩
    rw [thingsG, coins_pre hi m hm]
    simp only [lvl, Nat.zero_add]
    split <;> rfl
  | k + 1, m, h => by
    rw [thingsG, merge_len] at h
    obtain ⟨a, b, e, ha, hb, hf⟩ := merge_split (coinsG ws) (pairsG (thingsG (coinsG ws) k)) m h
    rw [coins_len] at ha
    rw [pairs_len] at hb
    obtain ⟨c, h1, h2, h3⟩ := things_split (ws := ws) k (2 * b) (by omega)
    refine ⟨fun j => if j = k + 1 then a else c j, fun j => by dsimp only; split; exact ha; exact h1 j, ?_, fun i hi => ?_⟩
    · have e1 : wid (fun j => if j = k + 1 then a else c j) (k + 1) = wid c (k + 1) := wid_congr _ (fun j hj => by simp [show j ≠ k + 1 by omega])
      rw [wid, e1, h2]
      simp only [if_true]
      have e2 : (2 * b) * 2 ^ k = b * 2 ^ (k + 1) := by rw [Nat.pow_succ, Nat.mul_comm 2 b, Nat.mul_assoc, Nat.mul_comm 2]
      rw [e2, ← e, Nat.add_mul, Nat.mul_comm (2 ^ (k + 1)) a, Nat.add_comm]
    · have e1 : lvl (fun j => if j = k + 1 then a else c j) i (k + 1) = lvl c i (k + 1) := lvl_congr _ (fun j hj => by simp [show j ≠ k + 1 by omega])
      rw [thingsG, hf, coins_pre hi a ha, pairs_pre (getc i) (fun t => t.cs.length = ws.length) (fun x y hx hy => zip_at x.cs y.cs i (by rw [hx, hy])) (thingsG (coinsG ws) k) b (things_len k) (by omega), h3 i hi]
      have e2 : lvl (fun j => if j = k + 1 then a else c j) i (k + 1 + 1) = lvl (fun j => if j = k + 1 then a else c j) i (k + 1) + (if i < a then 1 else 0) := by
        rw [lvl]; simp
      rw [e2, e1]
      split <;> simp <;> omega

/-- What one coin adds to the width. -/
def wi (c : Nat → Nat) (i : Nat) : Nat → Nat
  | 0 => 0
  | K + 1 => wi c i K + 2 ^ K * (if i < c K then 1 else 0)
theorem lvl_le (c : Nat → Nat) (i : Nat) : ∀ K, lvl c i K ≤ K
  | 0 => Nat.le_refl _
  | K + 1 => by have := lvl_le c i K; unfold lvl; split <;> omega
theorem kraft_one (c : Nat → Nat) (i : Nat) : ∀ K, wi c i K + 2 ^ (K - lvl c i K) ≤ 2 ^ K
  | 0 => by simp [wi, lvl]
  | K + 1 => by
    have ih := kraft_one c i K
    have hl := lvl_le c i K
    have e : 2 ^ (K + 1) = 2 * 2 ^ K := by rw [Nat.pow_succ, Nat.mul_comm]
    unfold wi lvl
    by_cases h : i < c K
    · have e1 : K + 1 - (lvl c i K + 1) = K - lvl c i K := by omega
      rw [if_pos h, e1]; omega
    · have e1 : K + 1 - (lvl c i K + 0) = (K - lvl c i K) + 1 := by omega
      have e2 : 2 ^ ((K - lvl c i K) + 1) = 2 * 2 ^ (K - lvl c i K) := by rw [Nat.pow_succ, Nat.mul_comm]
      rw [if_neg h, e1]; omega
theorem wi_sum {c : Nat → Nat} {n : Nat} (h : ∀ j, c j ≤ n) : ∀ K, sumF n (fun i => wi c i K) = wid c K
  | 0 => by
    have : (fun i => wi c i 0) = fun _ => 0 := by funext i; rfl
    rw [this, sumF_zero]; rfl
  | K + 1 => by
    have : (fun i => wi c i (K + 1)) = fun i => wi c i K + 2 ^ K * (if i < c K then 1 else 0) := by funext i; rfl
    rw [this, sumF_add, wi_sum h K, sumF_mul, sumF_below n (c K) (h K)]; rfl
theorem kraft_all {c : Nat → Nat} {n : Nat} (h : ∀ j, c j ≤ n) (K : Nat) : wid c K + sumF n (fun i => 2 ^ (K - lvl c i K)) ≤ n * 2 ^ K := by
  rw [← wi_sum h K, ← sumF_add, ← sumF_const]
  exact sumF_le _ _ _ (fun i _ => kraft_one c i K)

/-- The lens of the coins. -/
def lensC (ws : List Int) : List Int := (List.range ws.length).map fun i => pre (getc i) (thingsG (coinsG ws) 15) (2 * ws.length - 2)
theorem lensC_len (ws : List Int) : (lensC ws).length = ws.length := by simp [lensC]
theorem lensC_at (ws : List Int) (i : Nat) (h : i < ws.length) : (lensC ws).getD i 0 = pre (getc i) (thingsG (coinsG ws) 15) (2 * ws.length - 2) := by simp [lensC, h]

/-- They can be. -/
theorem lensC_fit {ws : List Int} (hn : 2 ≤ ws.length) (hl : 2 * ws.length - 2 ≤ (thingsG (coinsG ws) 15).length) :
    (∀ i, i < ws.length → 1 ≤ (lensC ws).getD i 0 ∧ (lensC ws).getD i 0 ≤ 16) ∧ sumF ws.length (fun i => 2 ^ (16 - ((lensC ws).getD i 0).toNat)) ≤ 65536 := by
  obtain ⟨c, h1, h2, h3⟩ := things_split 15 (2 * ws.length - 2) hl
  have hk := kraft_all h1 16
  rw [h2] at hk
  have hsum : sumF ws.length (fun i => 2 ^ (16 - lvl c i 16)) ≤ 65536 := by
    have : (2 * ws.length - 2) * 2 ^ 15 + sumF ws.length (fun i => 2 ^ (16 - lvl c i 16)) ≤ ws.length * 2 ^ 16 := hk
    omega
  have e : ∀ i, i < ws.length → (lensC ws).getD i 0 = (lvl c i 16 : Int) := fun i hi => by rw [lensC_at ws i hi, h3 i hi]
  refine ⟨fun i hi => ?_, ?_⟩
  · rw [e i hi]
    have hle := lvl_le c i 16
    refine ⟨?_, by omega⟩
    rcases Nat.eq_zero_or_pos (lvl c i 16) with h0 | h0
    · obtain ⟨j, hj, hij⟩ : ∃ j, j < ws.length ∧ i ≠ j := by
        by_cases h : i = 0
        · exact ⟨1, by omega, by omega⟩
        · exact ⟨0, by omega, h⟩
      have h4 := sumF_two ws.length (fun i => 2 ^ (16 - lvl c i 16)) i j hi hj hij
      rw [h0] at h4
      have h5 : 1 ≤ 2 ^ (16 - lvl c j 16) := Nat.one_le_two_pow
      simp at h4
      omega
    · omega
  · rw [sumF_congr _ _ (fun i => 2 ^ (16 - lvl c i 16)) (fun i hi => by rw [e i hi]; rfl)]
    exact hsum

/-- What things weigh is what their coins weigh. -/
theorem things_dot {ws : List Int} : ∀ (k : Nat), ∀ t ∈ thingsG (coinsG ws) k, t.w = sumN ws.length (fun i => ws.getD i 0 * getc i t)
  | 0, t, h => by
    simp only [thingsG, coinsG, List.mem_map, List.mem_range] at h
    obtain ⟨i, hi, rfl⟩ := h
    show ws.getD i 0 = _
    have key : ∀ (n : Nat) (f : Nat → Int) (i : Nat), i < n → sumN n (fun k => f k * (if k = i then 1 else 0)) = f i := by
      intro n
      induction n with
      | zero => intro f i h; omega
      | succ n ih =>
        intro f i h
        unfold sumN
        cases i with
        | zero =>
          have : sumN n (fun k => f (k + 1) * (if k + 1 = 0 then 1 else 0)) = sumN n (fun _ => 0) := sumN_congr _ _ _ (fun k _ => by simp)
          rw [this, sumN_zero]; simp
        | succ i =>
          have e : (fun k => f (k + 1) * (if k + 1 = i + 1 then (1 : Int) else 0)) = (fun k => f (k + 1) * (if k = i then 1 else 0)) := by funext k; simp
          rw [e, ih (fun k => f (k + 1)) i (by omega)]; simp
    rw [← key ws.length (fun k => ws.getD k 0) i hi]
    refine sumN_congr _ _ _ (fun k hk => ?_)
    show _ = ws.getD k 0 * (unitV ws.length i).getD k 0
    rw [unit_at _ _ _ hk]
  | k + 1, t, h => by
    rcases merge_mem _ _ _ h with h | h
    · exact things_dot 0 t h
    · have key : ∀ l : List Th, (∀ t ∈ l, t.cs.length = ws.length ∧ t.w = sumN ws.length (fun i => ws.getD i 0 * getc i t)) → ∀ t ∈ pairsG l, t.w = sumN ws.length (fun i => ws.getD i 0 * getc i t) := by
        intro l
        induction l using pairsG.induct with
        | case1 a b r ih =>
          intro hl t ht
          simp only [pairsG, List.mem_cons] at ht
          rcases ht with rfl | ht
          · have h1 := hl a (by simp)
            have h2 := hl b (by simp)
            show a.w + b.w = _
            rw [h1.2, h2.2, ← sumN_add]
            refine sumN_congr _ _ _ (fun i _ => ?_)
            show _ = _ * (List.zipWith (· + ·) a.cs b.cs).getD i 0
            rw [zip_at _ _ _ (by rw [h1.1, h2.1]), Int.mul_add]
            rfl
          · exact ih (fun x hx => hl x (by simp [hx])) t ht
        | case2 l h =>
          intro _ t ht
          rw [pairsG] at ht
          · simp at ht
          · exact h
      exact key _ (fun t ht => ⟨things_len k t ht, things_dot k t ht⟩) t h
theorem pre_dot {ws : List Int} {n : Nat} : ∀ (l : List Th) (m : Nat), (∀ t ∈ l, t.w = sumN n (fun i => ws.getD i 0 * getc i t)) → pre wOf l m = sumN n (fun i => ws.getD i 0 * pre (getc i) l m)
  | l, 0, _ => by
    rw [pre_zero, ← sumN_zero n]
    exact sumN_congr _ _ _ (fun i _ => by rw [pre_zero, Int.mul_zero])
  | [], m + 1, _ => by
    rw [pre_nil, ← sumN_zero n]
    exact sumN_congr _ _ _ (fun i _ => by rw [pre_nil, Int.mul_zero])
  | x :: l, m + 1, h => by
    rw [pre_cons, pre_dot l m (fun t ht => h t (by simp [ht]))]
    show x.w + _ = _
    rw [h x (by simp), ← sumN_add]
    exact sumN_congr _ _ _ (fun i _ => by rw [pre_cons, Int.mul_add])

/-- The choice that lens are: coin i at each depth up to its len. -/
def chosen (m : Nat → Nat) (j i : Nat) : Bool := decide (16 ≤ m i + j)
def deep (m : Nat) : Nat → Nat
  | 0 => 0
  | K + 1 => deep m K + (if 16 ≤ m + K then 1 else 0)
def deepW (m : Nat) : Nat → Nat
  | 0 => 0
  | K + 1 => deepW m K + 2 ^ K * (if 16 ≤ m + K then 1 else 0)
theorem deep_is {m : Nat} (h : m ≤ 16) : ∀ K, deep m K = m + K - 16
  | 0 => by simp [deep]; omega
  | K + 1 => by
    unfold deep
    rw [deep_is h K]
    split <;> omega
theorem deepW_is {m : Nat} (h : m ≤ 16) : ∀ K, (16 ≤ m + K → deepW m K + 2 ^ (16 - m) = 2 ^ K) ∧ (m + K < 16 → deepW m K = 0)
  | 0 => ⟨fun h2 => by
      obtain rfl : m = 16 := by omega
      rfl, fun _ => rfl⟩
  | K + 1 => by
    obtain ⟨h1, h2⟩ := deepW_is h K
    have e : 2 ^ (K + 1) = 2 * 2 ^ K := by rw [Nat.pow_succ, Nat.mul_comm]
    refine ⟨fun h3 => ?_, fun h3 => ?_⟩
    · unfold deepW
      by_cases h4 : 16 ≤ m + K
      · have := h1 h4
        rw [if_pos h4]; omega
      · have h5 := h2 (by omega)
        have e2 : K + 1 = 16 - m := by omega
        rw [if_neg h4, h5, ← e2]; omega
    · unfold deepW
      rw [h2 (by omega), if_neg (by omega)]; omega
theorem chosen_wide (m : Nat → Nat) (n : Nat) : ∀ K, wideS n (chosen m) K = sumF n (fun i => deepW (m i) K)
  | 0 => by
    have : (fun i => deepW (m i) 0) = fun _ => 0 := by funext i; rfl
    rw [this, sumF_zero]; rfl
  | K + 1 => by
    have : (fun i => deepW (m i) (K + 1)) = fun i => deepW (m i) K + 2 ^ K * (if chosen m K i then 1 else 0) := by funext i; simp [deepW, chosen]
    rw [this, sumF_add, ← chosen_wide m n K, sumF_mul, ← cnt_sum]; rfl
theorem chosen_wt (m : Nat → Nat) (l : List Th) : ∀ K, wtS l (chosen m) K = sumN l.length (fun i => (l.getD i default).w * (deep (m i) K : Int))
  | 0 => by
    have : (fun i => (l.getD i default).w * (deep (m i) 0 : Int)) = fun _ => 0 := by funext i; simp [deep]
    rw [this, sumN_zero]; rfl
  | K + 1 => by
    unfold wtS
    rw [chosen_wt m l K, wt_sum, ← sumN_add]
    refine sumN_congr _ _ _ (fun i _ => ?_)
    have e : deep (m i) (K + 1) = deep (m i) K + (if 16 ≤ m i + K then 1 else 0) := rfl
    rw [e]
    unfold chosen
    by_cases h : 16 ≤ m i + K
    · simp [h, Int.mul_add]
    · simp [h]

/-- No others cost less. -/
theorem lensC_least {ws : List Int} (hr : Rises (coinsG ws)) (hp : ∀ x ∈ ws, 0 ≤ x) (hn : 1 ≤ ws.length) (m : Nat → Nat) (hm : ∀ i, i < ws.length → m i ≤ 16) (hk : sumF ws.length (fun i => 2 ^ (16 - m i)) ≤ 65536) :
    2 * ws.length - 2 ≤ (thingsG (coinsG ws) 15).length ∧ sumN ws.length (fun i => ws.getD i 0 * (lensC ws).getD i 0) ≤ sumN ws.length (fun i => ws.getD i 0 * (m i : Int)) := by
  have hcp : ∀ y ∈ coinsG ws, 0 ≤ y.w := by
    intro y hy
    simp only [coinsG, List.mem_map, List.mem_range] at hy
    obtain ⟨i, hi, rfl⟩ := hy
    show 0 ≤ ws.getD i 0
    have e : ws.getD i 0 = ws[i] := by simp [hi]
    rw [e]
    exact hp _ (List.getElem_mem hi)
  have hw : sumF ws.length (fun i => deepW (m i) 16) + sumF ws.length (fun i => 2 ^ (16 - m i)) = ws.length * 65536 := by
    rw [← sumF_add, ← sumF_const]
    exact sumF_congr _ _ _ (fun i hi => (deepW_is (hm i hi) 16).1 (by omega))
  obtain ⟨h1, h2⟩ := things_least hr hcp 15 (2 * ws.length - 2) (chosen m) (by
    rw [chosen_wide, coins_len]
    show (2 * ws.length - 2) * 32768 ≤ sumF ws.length (fun i => deepW (m i) 16)
    omega)
  refine ⟨h1, ?_⟩
  rw [chosen_wt, coins_len] at h2
  rw [pre_dot (ws := ws) (n := ws.length) _ _ (things_dot 15)] at h2
  have e1 : sumN ws.length (fun i => ws.getD i 0 * (lensC ws).getD i 0) = sumN ws.length (fun i => ws.getD i 0 * pre (getc i) (thingsG (coinsG ws) 15) (2 * ws.length - 2)) := sumN_congr _ _ _ (fun i hi => by rw [lensC_at ws i hi])
  have e2 : sumN ws.length (fun i => ((coinsG ws).getD i default).w * (deep (m i) (15 + 1) : Int)) = sumN ws.length (fun i => ws.getD i 0 * (m i : Int)) := sumN_congr _ _ _ (fun i hi => by
    rw [deep_is (hm i hi)]
    have e3 : m i + (15 + 1) - 16 = m i := by omega
    rw [e3]
    congr 1
    simp [coinsG, hi])
  rw [e2] at h2
  rw [e1]
  exact h2
/-- There are as many things as are taken. -/
theorem things_enough {ws : List Int} (hr : Rises (coinsG ws)) (hp : ∀ x ∈ ws, 0 ≤ x) (hn : 1 ≤ ws.length) (hx : ws.length ≤ 256) : 2 * ws.length - 2 ≤ (thingsG (coinsG ws) 15).length :=
  (lensC_least hr hp hn (fun _ => 8) (fun _ _ => by omega) (by rw [sumF_const]; omega)).1

end Go.Proofs.Ytcbaiagkdphkeaa
