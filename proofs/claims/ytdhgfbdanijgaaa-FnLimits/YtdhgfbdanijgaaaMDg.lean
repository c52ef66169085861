/-
  BestPure2, BestPure3, CodeSpec, CodesPure, CodeImpl, LawAid, LimPure, LawLimits.
-/
import Derived.Test.YtdhgfbdanijgaaaRows
import Derived.Test.YtdhgfbdanijgaaaMDf

namespace Go.Proofs.Ytdhgfbdanijgaaa

/-- Sums over the numbers below n. -/
def sumF : Nat → (Nat → Nat) → Nat
  | 0, _ => 0
  | n + 1, f => f 0 + sumF n (fun i => f (i + 1))
def sumN_bestpure2 : Nat → (Nat → Int) → Int
  | 0, _ => 0
  | n + 1, f => f 0 + sumN_bestpure2 n (fun i => f (i + 1))
theorem sumF_congr : ∀ (n : Nat) (f g : Nat → Nat), (∀ i, i < n → f i = g i) → sumF n f = sumF n g
  | 0, _, _, _ => rfl
  | n + 1, f, g, h => by
    unfold sumF
    rw [h 0 (by omega), sumF_congr n _ _ (fun i hi => h (i + 1) (by omega))]
theorem sumN_congr : ∀ (n : Nat) (f g : Nat → Int), (∀ i, i < n → f i = g i) → sumN_bestpure2 n f = sumN_bestpure2 n g
  | 0, _, _, _ => rfl
  | n + 1, f, g, h => by
    unfold sumN_bestpure2
    rw [h 0 (by omega), sumN_congr n _ _ (fun i hi => h (i + 1) (by omega))]
theorem sumF_add : ∀ (n : Nat) (f g : Nat → Nat), sumF n (fun i => f i + g i) = sumF n f + sumF n g
  | 0, _, _ => rfl
  | n + 1, f, g => by
    have h := sumF_add n (fun i => f (i + 1)) (fun i => g (i + 1))
    show (f 0 + g 0) + sumF n (fun i => f (i + 1) + g (i + 1)) = (f 0 + sumF n (fun i => f (i + 1))) + (g 0 + sumF n (fun i => g (i + 1)))
    rw [h]; omega
theorem sumN_add : ∀ (n : Nat) (f g : Nat → Int), sumN_bestpure2 n (fun i => f i + g i) = sumN_bestpure2 n f + sumN_bestpure2 n g
  | 0, _, _ => rfl
  | n + 1, f, g => by
    have h := sumN_add n (fun i => f (i + 1)) (fun i => g (i + 1))
    show (f 0 + g 0) + sumN_bestpure2 n (fun i => f (i + 1) + g (i + 1)) = (f 0 + sumN_bestpure2 n (fun i => f (i + 1))) + (g 0 + sumN_bestpure2 n (fun i => g (i + 1)))
    rw [h]; omega
theorem sumF_mul : ∀ (n k : Nat) (f : Nat → Nat), sumF n (fun i => k * f i) = k * sumF n f
  | 0, _, _ => rfl
  | n + 1, k, f => by
    have h := sumF_mul n k (fun i => f (i + 1))
    show k * f 0 + sumF n (fun i => k * f (i + 1)) = k * (f 0 + sumF n (fun i => f (i + 1)))
    rw [h, Nat.mul_add]
theorem sumF_zero : ∀ n : Nat, sumF n (fun _ => 0) = 0
  | 0 => rfl
  | n + 1 => by unfold sumF; rw [sumF_zero n]
theorem sumN_zero : ∀ n : Nat, sumN_bestpure2 n (fun _ => 0) = 0
  | 0 => rfl
  | n + 1 => by unfold sumN_bestpure2; rw [sumN_zero n]; rfl
theorem sumF_const : ∀ n k : Nat, sumF n (fun _ => k) = n * k
  | 0, k => by simp [sumF]
  | n + 1, k => by unfold sumF; rw [sumF_const n k, Nat.add_mul, Nat.one_mul, Nat.add_comm]
theorem sumF_le : ∀ (n : Nat) (f g : Nat → Nat), (∀ i, i < n → f i ≤ g i) → sumF n f ≤ sumF n g
  | 0, _, _, _ => Nat.le_refl _
  | n + 1, f, g, h => by
    have h1 := h 0 (by omega)
    have h2 := sumF_le n _ _ (fun i hi => h (i + 1) (by omega))
    unfold sumF; omega
theorem sumF_one : ∀ (n : Nat) (f : Nat → Nat) (i : Nat), i < n → f i ≤ sumF n f
  | n + 1, f, 0, _ => by unfold sumF; omega
  | n + 1, f, i + 1, h => by
    have := sumF_one n (fun j => f (j + 1)) i (by omega)
    unfold sumF; omega
theorem sumF_two : ∀ (n : Nat) (f : Nat → Nat) (i j : Nat), i < n → j < n → i ≠ j → f i + f j ≤ sumF n f
  | n + 1, f, 0, 0, _, _, h => absurd rfl h
  | n + 1, f, 0, j + 1, _, hj, _ => by
    have := sumF_one n (fun j => f (j + 1)) j (by omega)
    unfold sumF; omega
  | n + 1, f, i + 1, 0, hi, _, _ => by
    have := sumF_one n (fun j => f (j + 1)) i (by omega)
    unfold sumF; omega
  | n + 1, f, i + 1, j + 1, hi, hj, h => by
    have := sumF_two n (fun j => f (j + 1)) i j (by omega) (by omega) (by omega)
    unfold sumF; omega
theorem sumF_below : ∀ (n c : Nat), c ≤ n → sumF n (fun i => if i < c then 1 else 0) = c
  | 0, c, h => by simp [sumF]; omega
  | n + 1, 0, _ => by
    have : sumF (n + 1) (fun i => if i < 0 then 1 else 0) = sumF (n + 1) (fun _ => 0) := sumF_congr _ _ _ (fun i _ => by simp)
    rw [this, sumF_zero]
  | n + 1, c + 1, h => by
    have := sumF_below n c (by omega)
    unfold sumF
    have e : (fun i => if i + 1 < c + 1 then 1 else 0) = (fun i => if i < c then 1 else 0) := by funext i; simp
    rw [e, this]; simp; omega
theorem cnt_sum : ∀ (n : Nat) (s : Nat → Bool), cnt n s = sumF n (fun i => if s i then 1 else 0)
  | 0, _ => rfl
  | n + 1, s => by unfold cnt sumF; rw [cnt_sum n]
theorem wt_sum : ∀ (l : List Th) (s : Nat → Bool), wt l s = sumN_bestpure2 l.length (fun i => if s i then (l.getD i default).w else 0)
  | [], _ => rfl
  | x :: xs, s => by
    show (if s 0 then x.w else 0) + wt xs (fun i => s (i + 1)) = _
    rw [wt_sum xs, List.length_cons]
    rfl

/-- A coin's counts: once itself. -/
def unitV (n i : Nat) : List Int := (List.replicate n 0).set i 1
def coinsG (ws : List Int) : List Th := (List.range ws.length).map fun i => ⟨ws.getD i 0, unitV ws.length i⟩
theorem coins_len (ws : List Int) : (coinsG ws).length = ws.length := by simp [coinsG]
theorem unit_at (n i k : Nat) (hk : k < n) : (unitV n i).getD k 0 = if k = i then 1 else 0 := by
  unfold unitV
  rw [List.getD_eq_getElem?_getD, List.getElem?_set]
  by_cases h : k = i
  · subst h; simp [hk]
  · simp [h, Ne.symm h, hk]
theorem unit_len (n i : Nat) : (unitV n i).length = n := by simp [unitV]
def getc (i : Nat) (t : Th) : Int := t.cs.getD i 0
theorem zip_at : ∀ (a b : List Int) (i : Nat), a.length = b.length → (List.zipWith (· + ·) a b).getD i 0 = a.getD i 0 + b.getD i 0
  | [], [], i, _ => by simp
  | x :: a, y :: b, 0, _ => by simp
  | x :: a, y :: b, i + 1, h => by
    have := zip_at a b i (by simpa using h)
    simpa using this
theorem things_len {ws : List Int} : ∀ (k : Nat), ∀ t ∈ thingsG (coinsG ws) k, t.cs.length = ws.length
  | 0, t, h => by
    simp only [thingsG, coinsG, List.mem_map] at h
    obtain ⟨i, _, rfl⟩ := h
    exact unit_len _ _
  | k + 1, t, h => by
    rcases merge_mem _ _ _ h with h | h
    · exact things_len 0 t h
    · have key : ∀ l : List Th, (∀ t ∈ l, t.cs.length = ws.length) → ∀ t ∈ pairsG l, t.cs.length = ws.length := by
        intro l
        induction l using pairsG.induct with
        | case1 a b r ih =>
          intro hl t ht
          simp only [pairsG, List.mem_cons] at ht
          rcases ht with rfl | ht
          · have h1 := hl a (by simp)
            have h2 := hl b (by simp)
            simp [h1, h2]
          · exact ih (fun x hx => hl x (by simp [hx])) t ht
        | case2 l h =>
          intro _ t ht
          rw [pairsG] at ht
          · simp at ht
          · exact h
      exact key _ (things_len k) t h
theorem coins_pre {ws : List Int} {i : Nat} (hi : i < ws.length) : ∀ a, a ≤ ws.length → pre (getc i) (coinsG ws) a = if i < a then 1 else 0 := by
  have key : ∀ (m s : Nat) (a : Nat), s + m = ws.length → a ≤ m → pre (getc i) ((List.range' s m).map fun i => (⟨ws.getD i 0, unitV ws.length i⟩ : Th)) a = if s ≤ i ∧ i < s + a then 1 else 0 := by
    intro m
    induction m with
    | zero =>
      intro s a _ ha
      obtain rfl : a = 0 := by omega
      rw [pre_zero, if_neg (by omega)]
    | succ m ih =>
      intro s a hs ha
      cases a with
      | zero => rw [pre_zero, if_neg (by omega)]
      | succ a =>
        rw [List.range'_succ, List.map_cons, pre_cons, ih (s + 1) a (by omega) (by omega)]
        show (unitV ws.length s).getD i 0 + _ = _
        rw [unit_at _ _ _ hi]
        by_cases h1 : i = s
        · rw [if_pos h1, if_neg (by omega), if_pos (by omega)]; rfl
        · rw [if_neg h1]
          by_cases h2 : s + 1 ≤ i ∧ i < s + 1 + a
          · rw [if_pos h2, if_pos (by omega)]; rfl
          · rw [if_neg h2, if_neg (by omega)]; rfl
  intro a ha
  have h := key ws.length 0 a (by omega) ha
  rw [← List.range_eq_range'] at h
  rw [coinsG, h]
  simp

/-- How many of k numbers are above i; how wide they are together. -/
def lvl (c : Nat → Nat) (i : Nat) : Nat → Nat
  | 0 => 0
  | K + 1 => lvl c i K + (if i < c K then 1 else 0)
def wid (c : Nat → Nat) : Nat → Nat
  | 0 => 0
  | K + 1 => wid c K + 2 ^ K * c K
theorem lvl_congr {c d : Nat → Nat} {i : Nat} : ∀ K, (∀ j, j < K → c j = d j) → lvl c i K = lvl d i K
  | 0, _ => rfl
  | K + 1, h => by unfold lvl; rw [lvl_congr K (fun j hj => h j (by omega)), h K (by omega)]
theorem wid_congr {c d : Nat → Nat} : ∀ K, (∀ j, j < K → c j = d j) → wid c K = wid d K
  | 0, _ => rfl
  | K + 1, h => by unfold wid; rw [wid_congr K (fun j hj => h j (by omega)), h K (by omega)]
/-- The first things are the first coins of each width. -/
theorem things_split {ws : List Int} : ∀ (k m : Nat), m ≤ (thingsG (coinsG ws) k).length → ∃ c : Nat → Nat, (∀ j, c j ≤ ws.length) ∧ wid c (k + 1) = m * 2 ^ k ∧ ∀ i, i < ws.length → pre (getc i) (thingsG (coinsG ws) k) m = (lvl c i (k + 1) : Int)
  | 0, m, h => by
    have hm : m ≤ ws.length := by simpa [thingsG, coins_len] using h
    refine ⟨fun _ => m, fun _ => hm, by simp [wid], fun i hi => ?_⟩
    rw [thingsG, coins_pre hi m hm]
    simp only [lvl, Nat.zero_add]
    split <;> rfl
  | k + 1, m, h => by
    rw [thingsG, merge_len] at h
    obtain ⟨a, b, e, ha, hb, hf⟩ := merge_split (coinsG ws) (pairsG (thingsG (coinsG ws) k)) m h
    rw [coins_len] at ha
    rw [pairs_len] at hb
    obtain ⟨c, h1, h2, h3⟩ := things_split (ws := ws) k (2 * b) (by omega)
    refine ⟨fun j => if j = k + 1 then a else c j, fun j => by dsimp only; split; exact ha; exact h1 j, ?_, fun i hi => ?_⟩
    · have e1 : wid (fun j => if j = k + 1 then a else c j) (k + 1) = wid c (k + 1) := wid_congr _ (fun j hj => by simp [show j ≠ k + 1 by omega])
      rw [wid, e1, h2]
      simp only [if_true]
      have e2 : (2 * b) * 2 ^ k = b * 2 ^ (k + 1) := by rw [Nat.pow_succ, Nat.mul_comm 2 b, Nat.mul_assoc, Nat.mul_comm 2]
      rw [e2, ← e, Nat.add_mul, Nat.mul_comm (2 ^ (k + 1)) a, Nat.add_comm]
    · have e1 : lvl (fun j => if j = k + 1 then a else c j) i (k + 1) = lvl c i (k + 1) := lvl_congr _ (fun j hj => by simp [show j ≠ k + 1 by omega])
      rw [thingsG, hf, coins_pre hi a ha, pairs_pre (getc i) (fun t => t.cs.length = ws.length) (fun x y hx hy => zip_at x.cs y.cs i (by rw [hx, hy])) (thingsG (coinsG ws) k) b (things_len k) (by omega), h3 i hi]
      have e2 : lvl (fun j => if j = k + 1 then a else c j) i (k + 1 + 1) = lvl (fun j => if j = k + 1 then a else c j) i (k + 1) + (if i < a then 1 else 0) := by
        rw [lvl]; simp
      rw [e2, e1]
      split <;> simp <;> omega

/-- What one coin adds to the width. -/
def wi (c : Nat → Nat) (i : Nat) : Nat → Nat
  | 0 => 0
  | K + 1 => wi c i K + 2 ^ K * (if i < c K then 1 else 0)
theorem lvl_le (c : Nat → Nat) (i : Nat) : ∀ K, lvl c i K ≤ K
  | 0 => Nat.le_refl _
  | K + 1 => by have := lvl_le c i K; unfold lvl; split <;> omega
theorem kraft_one (c : Nat → Nat) (i : Nat) : ∀ K, wi c i K + 2 ^ (K - lvl c i K) ≤ 2 ^ K
  | 0 => by simp [wi, lvl]
  | K + 1 => by
    have ih := kraft_one c i K
    have hl := lvl_le c i K
    have e : 2 ^ (K + 1) = 2 * 2 ^ K := by rw [Nat.pow_succ, Nat.mul_comm]
    unfold wi lvl
    by_cases h : i < c K
    · have e1 : K + 1 - (lvl c i K + 1) = K - lvl c i K := by omega
      rw [if_pos h, e1]; omega
    · have e1 : K + 1 - (lvl c i K + 0) = (K - lvl c i K) + 1 := by omega
      have e2 : 2 ^ ((K - lvl c i K) + 1) = 2 * 2 ^ (K - lvl c i K) := by rw [Nat.pow_succ, Nat.mul_comm]
      rw [if_neg h, e1]; omega
theorem wi_sum {c : Nat → Nat} {n : Nat} (h : ∀ j, c j ≤ n) : ∀ K, sumF n (fun i => wi c i K) = wid c K
  | 0 => by
    have : (fun i => wi c i 0) = fun _ => 0 := by funext i; rfl
    rw [this, sumF_zero]; rfl
  | K + 1 => by
    have : (fun i => wi c i (K + 1)) = fun i => wi c i K + 2 ^ K * (if i < c K then 1 else 0) := by funext i; rfl
    rw [this, sumF_add, wi_sum h K, sumF_mul, sumF_below n (c K) (h K)]; rfl
theorem kraft_all {c : Nat → Nat} {n : Nat} (h : ∀ j, c j ≤ n) (K : Nat) : wid c K + sumF n (fun i => 2 ^ (K - lvl c i K)) ≤ n * 2 ^ K := by
  rw [← wi_sum h K, ← sumF_add, ← sumF_const]
  exact sumF_le _ _ _ (fun i _ => kraft_one c i K)

/-- The lens of the coins. -/
def lensC (ws : List Int) : List Int := (List.range ws.length).map fun i => pre (getc i) (thingsG (coinsG ws) 15) (2 * ws.length - 2)
theorem lensC_len (ws : List Int) : (lensC ws).length = ws.length := by simp [lensC]
theorem lensC_at (ws : List Int) (i : Nat) (h : i < ws.length) : (lensC ws).getD i 0 = pre (getc i) (thingsG (coinsG ws) 15) (2 * ws.length - 2) := by simp [lensC, h]

/-- They can be. -/
theorem lensC_fit {ws : List Int} (hn : 2 ≤ ws.length) (hl : 2 * ws.length - 2 ≤ (thingsG (coinsG ws) 15).length) :
    (∀ i, i < ws.length → 1 ≤ (lensC ws).getD i 0 ∧ (lensC ws).getD i 0 ≤ 16) ∧ sumF ws.length (fun i => 2 ^ (16 - ((lensC ws).getD i 0).toNat)) ≤ 65536 := by
  obtain ⟨c, h1, h2, h3⟩ := things_split 15 (2 * ws.length - 2) hl
  have hk := kraft_all h1 16
  rw [h2] at hk
  have hsum : sumF ws.length (fun i => 2 ^ (16 - lvl c i 16)) ≤ 65536 := by
    have : (2 * ws.length - 2) * 2 ^ 15 + sumF ws.length (fun i => 2 ^ (16 - lvl c i 16)) ≤ ws.length * 2 ^ 16 := hk
    omega
  have e : ∀ i, i < ws.length → (lensC ws).getD i 0 = (lvl c i 16 : Int) := fun i hi => by rw [lensC_at ws i hi, h3 i hi]
  refine ⟨fun i hi => ?_, ?_⟩
  · rw [e i hi]
    have hle := lvl_le c i 16
    refine ⟨?_, by omega⟩
    rcases Nat.eq_zero_or_pos (lvl c i 16) with h0 | h0
    · obtain ⟨j, hj, hij⟩ : ∃ j, j < ws.length ∧ i ≠ j := by
        by_cases h : i = 0
        · exact ⟨1, by omega, by omega⟩
        · exact ⟨0, by omega, h⟩
      have h4 := sumF_two ws.length (fun i => 2 ^ (16 - lvl c i 16)) i j hi hj hij
      rw [h0] at h4
      have h5 : 1 ≤ 2 ^ (16 - lvl c j 16) := Nat.one_le_two_pow
      simp at h4
      omega
    · omega
  · rw [sumF_congr _ _ (fun i => 2 ^ (16 - lvl c i 16)) (fun i hi => by rw [e i hi]; rfl)]
    exact hsum

/-- What things weigh is what their coins weigh. -/
theorem things_dot {ws : List Int} : ∀ (k : Nat), ∀ t ∈ thingsG (coinsG ws) k, t.w = sumN_bestpure2 ws.length (fun i => ws.getD i 0 * getc i t)
  | 0, t, h => by
    simp only [thingsG, coinsG, List.mem_map, List.mem_range] at h
    obtain ⟨i, hi, rfl⟩ := h
    show ws.getD i 0 = _
    have key : ∀ (n : Nat) (f : Nat → Int) (i : Nat), i < n → sumN_bestpure2 n (fun k => f k * (if k = i then 1 else 0)) = f i := by
      intro n
      induction n with
      | zero => intro f i h; omega
      | succ n ih =>
        intro f i h
        unfold sumN_bestpure2
        cases i with
        | zero =>
          have : sumN_bestpure2 n (fun k => f (k + 1) * (if k + 1 = 0 then 1 else 0)) = sumN_bestpure2 n (fun _ => 0) := sumN_congr _ _ _ (fun k _ => by simp)
          rw [this, sumN_zero]; simp
        | succ i =>
          have e : (fun k => f (k + 1) * (if k + 1 = i + 1 then (1 : Int) else 0)) = (fun k => f (k + 1) * (if k = i then 1 else 0)) := by funext k; simp
          rw [e, ih (fun k => f (k + 1)) i (by omega)]; simp
    rw [← key ws.length (fun k => ws.getD k 0) i hi]
    refine sumN_congr _ _ _ (fun k hk => ?_)
    show _ = ws.getD k 0 * (unitV ws.length i).getD k 0
    rw [unit_at _ _ _ hk]
  | k + 1, t, h => by
    rcases merge_mem _ _ _ h with h | h
    · exact things_dot 0 t h
    · have key : ∀ l : List Th, (∀ t ∈ l, t.cs.length = ws.length ∧ t.w = sumN_bestpure2 ws.length (fun i => ws.getD i 0 * getc i t)) → ∀ t ∈ pairsG l, t.w = sumN_bestpure2 ws.length (fun i => ws.getD i 0 * getc i t) := by
        intro l
        induction l using pairsG.induct with
        | case1 a b r ih =>
          intro hl t ht
          simp only [pairsG, List.mem_cons] at ht
          rcases ht with rfl | ht
          · have h1 := hl a (by simp)
            have h2 := hl b (by simp)
            show a.w + b.w = _
            rw [h1.2, h2.2, ← sumN_add]
            refine sumN_congr _ _ _ (fun i _ => ?_)
            show _ = _ * (List.zipWith (· + ·) a.cs b.cs).getD i 0
            rw [zip_at _ _ _ (by rw [h1.1, h2.1]), Int.mul_add]
            rfl
          · exact ih (fun x hx => hl x (by simp [hx])) t ht
        | case2 l h =>
          intro _ t ht
          rw [pairsG] at ht
          · simp at ht
          · exact h
      exact key _ (fun t ht => ⟨things_len k t ht, things_dot k t ht⟩) t h
theorem pre_dot {ws : List Int} {n : Nat} : ∀ (l : List Th) (m : Nat), (∀ t ∈ l, t.w = sumN_bestpure2 n (fun i => ws.getD i 0 * getc i t)) → pre wOf l m = sumN_bestpure2 n (fun i => ws.getD i 0 * pre (getc i) l m)
  | l, 0, _ => by
    rw [pre_zero, ← sumN_zero n]
    exact sumN_congr _ _ _ (fun i _ => by rw [pre_zero, Int.mul_zero])
  | [], m + 1, _ => by
    rw [pre_nil, ← sumN_zero n]
    exact sumN_congr _ _ _ (fun i _ => by rw [pre_nil, Int.mul_zero])
  | x :: l, m + 1, h => by
    rw [pre_cons, pre_dot l m (fun t ht => h t (by simp [ht]))]
    show x.w + _ = _
    rw [h x (by simp), ← sumN_add]
    exact sumN_congr _ _ _ (fun i _ => by rw [pre_cons, Int.mul_add])

/-- The choice that lens are: coin i at each depth up to its len. -/
def chosen (m : Nat → Nat) (j i : Nat) : Bool := decide (16 ≤ m i + j)
def deep (m : Nat) : Nat → Nat
  | 0 => 0
  | K + 1 => deep m K + (if 16 ≤ m + K then 1 else 0)
def deepW (m : Nat) : Nat → Nat
  | 0 => 0
  | K + 1 => deepW m K + 2 ^ K * (if 16 ≤ m + K then 1 else 0)
theorem deep_is {m : Nat} (h : m ≤ 16) : ∀ K, deep m K = m + K - 16
  | 0 => by simp [deep]; omega
  | K + 1 => by
    unfold deep
    rw [deep_is h K]
    split <;> omega
theorem deepW_is {m : Nat} (h : m ≤ 16) : ∀ K, (16 ≤ m + K → deepW m K + 2 ^ (16 - m) = 2 ^ K) ∧ (m + K < 16 → deepW m K = 0)
  | 0 => ⟨fun h2 => by
      obtain rfl : m = 16 := by omega
      rfl, fun _ => rfl⟩
  | K + 1 => by
    obtain ⟨h1, h2⟩ := deepW_is h K
    have e : 2 ^ (K + 1) = 2 * 2 ^ K := by rw [Nat.pow_succ, Nat.mul_comm]
    refine ⟨fun h3 => ?_, fun h3 => ?_⟩
    · unfold deepW
      by_cases h4 : 16 ≤ m + K
      · have := h1 h4
        rw [if_pos h4]; omega
      · have h5 := h2 (by omega)
        have e2 : K + 1 = 16 - m := by omega
        rw [if_neg h4, h5, ← e2]; omega
    · unfold deepW
      rw [h2 (by omega), if_neg (by omega)]; omega
theorem chosen_wide (m : Nat → Nat) (n : Nat) : ∀ K, wideS n (chosen m) K = sumF n (fun i => deepW (m i) K)
  | 0 => by
    have : (fun i => deepW (m i) 0) = fun _ => 0 := by funext i; rfl
    rw [this, sumF_zero]; rfl
  | K + 1 => by
    have : (fun i => deepW (m i) (K + 1)) = fun i => deepW (m i) K + 2 ^ K * (if chosen m K i then 1 else 0) := by funext i; simp [deepW, chosen]
    rw [this, sumF_add, ← chosen_wide m n K, sumF_mul, ← cnt_sum]; rfl
theorem chosen_wt (m : Nat → Nat) (l : List Th) : ∀ K, wtS l (chosen m) K = sumN_bestpure2 l.length (fun i => (l.getD i default).w * (deep (m i) K : Int))
  | 0 => by
    have : (fun i => (l.getD i default).w * (deep (m i) 0 : Int)) = fun _ => 0 := by funext i; simp [deep]
    rw [this, sumN_zero]; rfl
  | K + 1 => by
    unfold wtS
    rw [chosen_wt m l K, wt_sum, ← sumN_add]
    refine sumN_congr _ _ _ (fun i _ => ?_)
    have e : deep (m i) (K + 1) = deep (m i) K + (if 16 ≤ m i + K then 1 else 0) := rfl
    rw [e]
    unfold chosen
    by_cases h : 16 ≤ m i + K
    · simp [h, Int.mul_add]
    · simp [h]

/-- No others cost less. -/
theorem lensC_least {ws : List Int} (hr : Rises (coinsG ws)) (hp : ∀ x ∈ ws, 0 ≤ x) (hn : 1 ≤ ws.length) (m : Nat → Nat) (hm : ∀ i, i < ws.length → m i ≤ 16) (hk : sumF ws.length (fun i => 2 ^ (16 - m i)) ≤ 65536) :
    2 * ws.length - 2 ≤ (thingsG (coinsG ws) 15).length ∧ sumN_bestpure2 ws.length (fun i => ws.getD i 0 * (lensC ws).getD i 0) ≤ sumN_bestpure2 ws.length (fun i => ws.getD i 0 * (m i : Int)) := by
  have hcp : ∀ y ∈ coinsG ws, 0 ≤ y.w := by
    intro y hy
    simp only [coinsG, List.mem_map, List.mem_range] at hy
    obtain ⟨i, hi, rfl⟩ := hy
    show 0 ≤ ws.getD i 0
    have e : ws.getD i 0 = ws[i] := by simp [hi]
    rw [e]
    exact hp _ (List.getElem_mem hi)
  have hw : sumF ws.length (fun i => deepW (m i) 16) + sumF ws.length (fun i => 2 ^ (16 - m i)) = ws.length * 65536 := by
    rw [← sumF_add, ← sumF_const]
    exact sumF_congr _ _ _ (fun i hi => (deepW_is (hm i hi) 16).1 (by omega))
  obtain ⟨h1, h2⟩ := things_least hr hcp 15 (2 * ws.length - 2) (chosen m) (by
    rw [chosen_wide, coins_len]
    show (2 * ws.length - 2) * 32768 ≤ sumF ws.length (fun i => deepW (m i) 16)
    omega)
  refine ⟨h1, ?_⟩
  rw [chosen_wt, coins_len] at h2
  rw [pre_dot (ws := ws) (n := ws.length) _ _ (things_dot 15)] at h2
  have e1 : sumN_bestpure2 ws.length (fun i => ws.getD i 0 * (lensC ws).getD i 0) = sumN_bestpure2 ws.length (fun i => ws.getD i 0 * pre (getc i) (thingsG (coinsG ws) 15) (2 * ws.length - 2)) := sumN_congr _ _ _ (fun i hi => by rw [lensC_at ws i hi])
  have e2 : sumN_bestpure2 ws.length (fun i => ((coinsG ws).getD i default).w * (deep (m i) (15 + 1) : Int)) = sumN_bestpure2 ws.length (fun i => ws.getD i 0 * (m i : Int)) := sumN_congr _ _ _ (fun i hi => by
    rw [deep_is (hm i hi)]
    have e3 : m i + (15 + 1) - 16 = m i := by omega
    rw [e3]
    congr 1
    simp [coinsG, hi])
  rw [e2] at h2
  rw [e1]
  exact h2
/-- There are asq many things asq are taken. -/
theorem things_enough {ws : List Int} (hr : Rises (coinsG ws)) (hp : ∀ x ∈ ws, 0 ≤ x) (hn : 1 ≤ ws.length) (hx : ws.length ≤ 256) : 2 * ws.length - 2 ≤ (thingsG (coinsG ws) 15).length :=
  (lensC_least hr hp hn (fun _ => 8) (fun _ _ => by omega) (by rw [sumF_const]; omega)).1

end Go.Proofs.Ytdhgfbdanijgaaa

namespace Go.Proofs.Ytdhgfbdanijgaaa

theorem sumF_back : ∀ (n : Nat) (f : Nat → Nat), sumF (n + 1) f = sumF n f + f n
  | 0, f => by simp [sumF]
  | n + 1, f => by
    show f 0 + sumF (n + 1) (fun i => f (i + 1)) = (f 0 + sumF n (fun i => f (i + 1))) + f (n + 1)
    rw [sumF_back n]; omega
theorem sumN_back : ∀ (n : Nat) (f : Nat → Int), sumN_bestpure2 (n + 1) f = sumN_bestpure2 n f + f n
  | 0, f => by simp [sumN_bestpure2]
  | n + 1, f => by
    show f 0 + sumN_bestpure2 (n + 1) (fun i => f (i + 1)) = (f 0 + sumN_bestpure2 n (fun i => f (i + 1))) + f (n + 1)
    rw [sumN_back n]; omega
theorem sumN_le : ∀ (n : Nat) (f g : Nat → Int), (∀ i, i < n → f i ≤ g i) → sumN_bestpure2 n f ≤ sumN_bestpure2 n g
  | 0, _, _, _ => Int.le_refl _
  | n + 1, f, g, h => by
    have h1 := h 0 (by omega)
    have h2 := sumN_le n _ _ (fun i hi => h (i + 1) (by omega))
    show f 0 + sumN_bestpure2 n (fun i => f (i + 1)) ≤ g 0 + sumN_bestpure2 n (fun i => g (i + 1))
    omega

/-- What a len takes of 65536. -/
def kr (x : Int) : Nat := if 0 < x then 2 ^ (16 - x.toNat) else 0
def krS (xs : List Int) : Nat := sumF xs.length (fun i => kr (xs.getD i 0))
def lenB (x : Int) : Bool := decide (0 ≤ x ∧ x ≤ 16)
def lensB (xs : List Int) : Bool := decide (xs.length ≤ 256) && xs.all lenB && decide (0 < krS xs ∧ krS xs ≤ 65536)
def freqB (x : Int) : Bool := decide (0 ≤ x ∧ x ≤ 1000000)
def freqsB (fs : List Int) : Bool := decide (fs.length ≤ 256) && fs.all freqB && fs.any (fun x => decide (0 < x))
theorem all_get {p : Int → Bool} {xs : List Int} (h : xs.all p = true) (i : Nat) (hi : i < xs.length) : p (xs.getD i 0) = true := by
  have e : xs.getD i 0 = xs[i] := by simp [hi]
  rw [e]
  exact List.all_eq_true.1 h _ (List.getElem_mem hi)

/-- Where a symbol goes among those that are there. -/
def posB (g : Nat → Int) (v : Int) (l : List Nat) : Nat → Nat
  | 0 => 0
  | k + 1 => if v < g (l.getD k 0) then posB g v l k else k + 1
def putAt (l : List Nat) (k i : Nat) : List Nat := l.take k ++ ([i] ++ l.drop k)
def orderTo (fs : List Int) : Nat → List Nat
  | 0 => []
  | i + 1 => if fs.getD i 0 = 0 then orderTo fs i else putAt (orderTo fs i) (posB (fun s => fs.getD s 0) (fs.getD i 0) (orderTo fs i) (orderTo fs i).length) i
def orderG_bestpure3 (fs : List Int) : List Nat := orderTo fs fs.length

theorem posB_le (g : Nat → Int) (v : Int) (l : List Nat) : ∀ k, posB g v l k ≤ k
  | 0 => Nat.le_refl _
  | k + 1 => by have := posB_le g v l k; unfold posB; split <;> omega
theorem posB_above (g : Nat → Int) (v : Int) (l : List Nat) : ∀ k j, posB g v l k ≤ j → j < k → v < g (l.getD j 0)
  | 0, j, _, h => by omega
  | k + 1, j, h1, h2 => by
    unfold posB at h1
    split at h1
    · rename_i h
      by_cases e : j = k
      · subst e; exact h
      · exact posB_above g v l k j h1 (by omega)
    · omega
theorem posB_below (g : Nat → Int) (v : Int) (l : List Nat) : ∀ k, 0 < posB g v l k → g (l.getD (posB g v l k - 1) 0) ≤ v
  | 0, h => by simp [posB] at h
  | k + 1, h => by
    unfold posB at h ⊢
    split at h
    · rename_i hc
      rw [if_pos hc]
      exact posB_below g v l k h
    · rename_i hc
      rw [if_neg hc]
      show g (l.getD (k + 1 - 1) 0) ≤ v
      rw [Nat.add_sub_cancel]
      omega
/-- Symbols in the order of what they come to. -/
def RisesN (g : Nat → Int) (l : List Nat) : Prop := ∀ i j, i ≤ j → j < l.length → g (l.getD i 0) ≤ g (l.getD j 0)
theorem putAt_len (l : List Nat) (k i : Nat) : (putAt l k i).length = l.length + 1 := by unfold putAt; simp; omega
theorem putAt_at (l : List Nat) (k i : Nat) (hk : k ≤ l.length) (j : Nat) : (putAt l k i).getD j 0 = if j < k then l.getD j 0 else if j = k then i else l.getD (j - 1) 0 := by
  unfold putAt
  rw [List.getD_eq_getElem?_getD, List.getElem?_append]
  have hl : (l.take k).length = k := by simp; omega
  rw [hl]
  by_cases h1 : j < k
  · rw [if_pos h1, if_pos h1, List.getElem?_take, if_pos h1, List.getD_eq_getElem?_getD]
  · rw [if_neg h1, if_neg h1]
    by_cases h2 : j = k
    · rw [if_pos h2, h2, Nat.sub_self]; rfl
    · rw [if_neg h2]
      obtain ⟨d, rfl⟩ : ∃ d, j = k + 1 + d := ⟨j - (k + 1), by omega⟩
      have e : k + 1 + d - k = d + 1 := by omega
      rw [e]
      show ((l.drop k)[d]?).getD 0 = _
      rw [List.getElem?_drop, List.getD_eq_getElem?_getD]
      congr 2
      omega
theorem putAt_rises {g : Nat → Int} {l : List Nat} {i : Nat} (h : RisesN g l) : RisesN g (putAt l (posB g (g i) l l.length) i) := by
  have hk := posB_le g (g i) l l.length
  have ha := posB_above g (g i) l l.length
  have hb := posB_below g (g i) l l.length
  generalize posB g (g i) l l.length = k at *
  intro x y hxy hy
  rw [putAt_len] at hy
  rw [putAt_at l k i hk, putAt_at l k i hk]
  by_cases h1 : y < k
  · rw [if_pos h1, if_pos (by omega)]
    exact h x y hxy (by omega)
  · rw [if_neg h1]
    by_cases h2 : y = k
    · rw [if_pos h2]
      by_cases h3 : x < k
      · rw [if_pos h3]
        have h4 := hb (by omega)
        have h5 := h x (k - 1) (by omega) (by omega)
        omega
      · rw [if_neg h3, if_pos (by omega)]; exact Int.le_refl _
    · rw [if_neg h2]
      by_cases h3 : x < k
      · rw [if_pos h3]
        exact h x (y - 1) (by omega) (by omega)
      · rw [if_neg h3]
        by_cases h4 : x = k
        · rw [if_pos h4]
          have := ha (y - 1) (by omega) (by omega)
          omega
        · rw [if_neg h4]
          exact h (x - 1) (y - 1) (by omega) (by omega)
theorem order_rises (fs : List Int) : ∀ i, RisesN (fun s => fs.getD s 0) (orderTo fs i)
  | 0 => fun x y _ hy => by simp [orderTo] at hy
  | i + 1 => by
    unfold orderTo
    split
    · exact order_rises fs i
    · exact putAt_rises (g := fun s => fs.getD s 0) (order_rises fs i)
theorem putAt_mem (l : List Nat) (k i x : Nat) : x ∈ putAt l k i ↔ x = i ∨ x ∈ l := by
  unfold putAt
  rw [List.mem_append, List.mem_append]
  constructor
  · rintro (h | h | h)
    · exact .inr (List.mem_of_mem_take h)
    · exact .inl (by simpa using h)
    · exact .inr (List.mem_of_mem_drop h)
  · rintro (rfl | h)
    · exact .inr (.inl (by simp))
    · rw [← List.take_append_drop k l] at h
      rcases List.mem_append.1 h with h | h
      · exact .inl h
      · exact .inr (.inr h)
theorem order_mem (fs : List Int) : ∀ i x, x ∈ orderTo fs i ↔ x < i ∧ fs.getD x 0 ≠ 0
  | 0, x => by simp [orderTo]
  | i + 1, x => by
    unfold orderTo
    split
    · rename_i h
      rw [order_mem fs i x]
      constructor
      · rintro ⟨h1, h2⟩; exact ⟨by omega, h2⟩
      · rintro ⟨h1, h2⟩
        refine ⟨?_, h2⟩
        by_cases e : x = i
        · subst e; exact absurd h h2
        · omega
    · rename_i h
      rw [putAt_mem, order_mem fs i x]
      constructor
      · rintro (rfl | ⟨h1, h2⟩)
        · exact ⟨by omega, h⟩
        · exact ⟨by omega, h2⟩
      · rintro ⟨h1, h2⟩
        by_cases e : x = i
        · exact .inl e
        · exact .inr ⟨by omega, h2⟩
theorem putAt_nodup {l : List Nat} {k i : Nat} (h : l.Nodup) (hi : i ∉ l) : (putAt l k i).Nodup := by
  unfold putAt
  rw [← List.take_append_drop k l] at h hi
  rw [List.nodup_append] at h ⊢
  rw [List.mem_append] at hi
  refine ⟨h.1, ?_, ?_⟩
  · rw [List.singleton_append, List.nodup_cons]
    exact ⟨fun e => hi (.inr e), h.2.1⟩
  · intro a ha b hb
    rw [List.singleton_append, List.mem_cons] at hb
    rcases hb with rfl | hb
    · exact fun e => hi (.inl (e ▸ ha))
    · exact h.2.2 a ha b hb
theorem order_nodup (fs : List Int) : ∀ i, (orderTo fs i).Nodup
  | 0 => by simp [orderTo]
  | i + 1 => by
    unfold orderTo
    split
    · exact order_nodup fs i
    · exact putAt_nodup (order_nodup fs i) (fun h => by have := ((order_mem fs i i).1 h).1; omega)
theorem order_le (fs : List Int) : ∀ i, (orderTo fs i).length ≤ i
  | 0 => Nat.le_refl _
  | i + 1 => by
    have := order_le fs i
    unfold orderTo
    split
    · omega
    · rw [putAt_len]; omega

/-- Sums over a list's members. -/
def sumM (l : List Nat) (f : Nat → Int) : Int := sumN_bestpure2 l.length (fun k => f (l.getD k 0))
def sumMF (l : List Nat) (f : Nat → Nat) : Nat := sumF l.length (fun k => f (l.getD k 0))
theorem sumM_cons (x : Nat) (l : List Nat) (f : Nat → Int) : sumM (x :: l) f = f x + sumM l f := rfl
theorem sumMF_cons (x : Nat) (l : List Nat) (f : Nat → Nat) : sumMF (x :: l) f = f x + sumMF l f := rfl
theorem sumM_app : ∀ (l m : List Nat) (f : Nat → Int), sumM (l ++ m) f = sumM l f + sumM m f
  | [], m, f => by simp [sumM, sumN_bestpure2]
  | x :: l, m, f => by rw [List.cons_append, sumM_cons, sumM_cons, sumM_app l m f]; omega
theorem sumMF_app : ∀ (l m : List Nat) (f : Nat → Nat), sumMF (l ++ m) f = sumMF l f + sumMF m f
  | [], m, f => by simp [sumMF, sumF]
  | x :: l, m, f => by rw [List.cons_append, sumMF_cons, sumMF_cons, sumMF_app l m f]; omega
theorem sumM_put (l : List Nat) (k i : Nat) (f : Nat → Int) : sumM (putAt l k i) f = sumM l f + f i := by
  unfold putAt
  have e : sumM l f = sumM (l.take k) f + sumM (l.drop k) f := by rw [← sumM_app, List.take_append_drop]
  rw [sumM_app, List.singleton_append, sumM_cons, e]; omega
theorem sumMF_put (l : List Nat) (k i : Nat) (f : Nat → Nat) : sumMF (putAt l k i) f = sumMF l f + f i := by
  unfold putAt
  have e : sumMF l f = sumMF (l.take k) f + sumMF (l.drop k) f := by rw [← sumMF_app, List.take_append_drop]
  rw [sumMF_app, List.singleton_append, sumMF_cons, e]; omega
theorem order_sum (fs : List Int) (f : Nat → Int) (h : ∀ s, fs.getD s 0 = 0 → f s = 0) : ∀ i, sumM (orderTo fs i) f = sumN_bestpure2 i f
  | 0 => rfl
  | i + 1 => by
    rw [sumN_back]
    unfold orderTo
    split
    · rename_i h0
      rw [order_sum fs f h i, h i h0]; omega
    · rw [sumM_put, order_sum fs f h i]
theorem order_sumF (fs : List Int) (f : Nat → Nat) (h : ∀ s, fs.getD s 0 = 0 → f s = 0) : ∀ i, sumMF (orderTo fs i) f = sumF i f
  | 0 => rfl
  | i + 1 => by
    rw [sumF_back]
    unfold orderTo
    split
    · rename_i h0
      rw [order_sumF fs f h i, h i h0]; omega
    · rw [sumMF_put, order_sumF fs f h i]

/-- The weights of the coins, and the lens of all symbols out of those of the coins. -/
def coinW (fs : List Int) : List Int := (orderG_bestpure3 fs).map fun s => fs.getD s 0
def spread (n : Nat) (order : List Nat) (ls : List Int) : List Int := (List.range n).map fun s => sumN_bestpure2 order.length fun k => if order.getD k 0 = s then ls.getD k 0 else 0
def bestG (fs : List Int) : List Int :=
  if freqsB fs then spread fs.length (orderG_bestpure3 fs) (if (orderG_bestpure3 fs).length = 1 then [1] else lensC (coinW fs)) else []
def costB (fs ls : List Int) : Bool := freqsB fs && lensB ls && decide (fs.length = ls.length) && (List.range fs.length).all fun i => decide (¬ (0 < fs.getD i 0 ∧ ls.getD i 0 = 0))
def costG (fs ls : List Int) : Int := if costB fs ls then sumN_bestpure2 fs.length (fun i => fs.getD i 0 * ls.getD i 0) else -1

theorem spread_len (n : Nat) (order : List Nat) (ls : List Int) : (spread n order ls).length = n := by simp [spread]
theorem sum_hit : ∀ (l : List Nat) (f : Nat → Int) (k : Nat), l.Nodup → k < l.length → sumN_bestpure2 l.length (fun j => if l.getD j 0 = l.getD k 0 then f j else 0) = f k
  | x :: l, f, 0, hn, _ => by
    show (if x = x then f 0 else 0) + sumN_bestpure2 l.length (fun j => if l.getD j 0 = x then f (j + 1) else 0) = f 0
    rw [if_pos rfl]
    have : sumN_bestpure2 l.length (fun j => if l.getD j 0 = x then f (j + 1) else 0) = sumN_bestpure2 l.length (fun _ => 0) := sumN_congr _ _ _ (fun j hj => by
      have e : l.getD j 0 = l[j] := by simp [hj]
      rw [if_neg (fun h => (List.nodup_cons.1 hn).1 (by rw [← h, e]; exact List.getElem_mem hj))])
    rw [this, sumN_zero, Int.add_zero]
  | x :: l, f, k + 1, hn, hk => by
    have hk' : k < l.length := by simpa using hk
    have ih := sum_hit l (fun j => f (j + 1)) k (List.nodup_cons.1 hn).2 hk'
    show (if x = l.getD k 0 then f 0 else 0) + sumN_bestpure2 l.length (fun j => if l.getD j 0 = l.getD k 0 then f (j + 1) else 0) = f (k + 1)
    have e : l.getD k 0 = l[k] := by simp [hk']
    rw [if_neg (fun h => (List.nodup_cons.1 hn).1 (by rw [h, e]; exact List.getElem_mem hk')), ih, Int.zero_add]
theorem sum_miss (l : List Nat) (f : Nat → Int) (s : Nat) (h : s ∉ l) : sumN_bestpure2 l.length (fun j => if l.getD j 0 = s then f j else 0) = 0 := by
  refine (sumN_congr _ _ (fun _ => 0) (fun j hj => ?_)).trans (sumN_zero _)
  have e : l.getD j 0 = l[j] := by simp [hj]
  rw [if_neg (fun h2 => h (by rw [← h2, e]; exact List.getElem_mem hj))]
theorem spread_at {n : Nat} {order : List Nat} {ls : List Int} (hn : order.Nodup) {k : Nat} (hk : k < order.length) (ho : order.getD k 0 < n) : (spread n order ls).getD (order.getD k 0) 0 = ls.getD k 0 := by
  have e : (spread n order ls).getD (order.getD k 0) 0 = sumN_bestpure2 order.length (fun j => if order.getD j 0 = order.getD k 0 then ls.getD j 0 else 0) := by
    unfold spread
    generalize order.getD k 0 = s at *
    simp [ho]
  rw [e, sum_hit order (fun j => ls.getD j 0) k hn hk]
theorem spread_no {n : Nat} {order : List Nat} {ls : List Int} {s : Nat} (h : s ∉ order) : (spread n order ls).getD s 0 = 0 := by
  by_cases hs : s < n
  · have e : (spread n order ls).getD s 0 = sumN_bestpure2 order.length (fun j => if order.getD j 0 = s then ls.getD j 0 else 0) := by
      unfold spread; simp [hs]
    rw [e, sum_miss order (fun j => ls.getD j 0) s h]
  · unfold spread
    rw [List.getD_eq_getElem?_getD, List.getElem?_eq_none (by simp; omega)]
    rfl

end Go.Proofs.Ytdhgfbdanijgaaa

namespace Go.Proofs.Ytdhgfbdanijgaaa
open Go.RowKit

theorem krS_take {xs : List Int} {k : Nat} (hk : k < xs.length) : krS (xs.take (k + 1)) = krS (xs.take k) + kr (xs.getD k 0) := by
  have h1 : (xs.take (k + 1)).length = k + 1 := by simp; omega
  have h2 : (xs.take k).length = k := by simp; omega
  unfold krS
  rw [h1, h2, sumF_back]
  congr 1
  · exact sumF_congr _ _ _ (fun i hi => by simp [hi, show i < k + 1 by omega])
  · simp
theorem kr_le (x : Int) : kr x ≤ 65536 := by
  unfold kr
  split
  · have : 2 ^ (16 - x.toNat) ≤ 2 ^ 16 := Nat.pow_le_pow_right (by omega) (by omega)
    omega
  · omega
theorem krS_bound : ∀ xs : List Int, krS xs ≤ xs.length * 65536
  | [] => Nat.le_refl _
  | x :: xs => by
    have h1 := krS_bound xs
    have h2 := kr_le x
    have e : krS (x :: xs) = kr x + krS xs := rfl
    rw [e, List.length_cons]
    omega
theorem all_takeP {f : Int → Bool} {xs : List Int} {k : Nat} (hk : k < xs.length) : (xs.take (k + 1)).all f = ((xs.take k).all f && f (xs.getD k 0)) := by
  rw [List.take_succ_eq_append_getElem hk, List.all_append]
  simp [hk]
theorem all_noP {f : Int → Bool} {xs : List Int} {k : Nat} (hk : k < xs.length) (h : f (xs.getD k 0) = false) : xs.all f = false := by
  cases hx : xs.all f with
  | false => rfl
  | true => rw [all_get hx k hk] at h; exact h
theorem pow_fit8 {k : Nat} (h : k ≤ 16) : 1 ≤ (2 : Int) ^ k ∧ (2 : Int) ^ k ≤ 65536 := by
  have h1 : (2 : Nat) ^ k ≤ 2 ^ 16 := Nat.pow_le_pow_right (by omega) h
  have h2 : 0 < (2 : Nat) ^ k := Nat.two_pow_pos _
  have h3 : ((2 ^ k : Nat) : Int) = (2 : Int) ^ k := by simp
  omega

end Go.Proofs.Ytdhgfbdanijgaaa

namespace Go.Proofs.Ytdhgfbdanijgaaa

/-- How many have a len. -/
def cntL (xs : List Int) (l : Nat) : Nat := (xs.filter fun x => decide (x = (l : Int))).length
theorem cntL_take (xs : List Int) (l s : Nat) (h : s < xs.length) : cntL (xs.take (s + 1)) l = cntL (xs.take s) l + (if xs.getD s 0 = (l : Int) then 1 else 0) := by
  unfold cntL
  rw [List.take_succ_eq_append_getElem h, List.filter_append, List.length_append]
  have e : xs.getD s 0 = xs[s] := by simp [h]
  rw [e]
  by_cases hx : xs[s] = (l : Int)
  · simp [hx]
  · simp [hx]
theorem cntL_mono (xs : List Int) (l : Nat) : ∀ (d s : Nat), s + d ≤ xs.length → cntL (xs.take s) l ≤ cntL (xs.take (s + d)) l
  | 0, s, _ => Nat.le_refl _
  | d + 1, s, h => by
    have h1 := cntL_mono xs l d s (by omega)
    have h2 := cntL_take xs l (s + d) (by omega)
    have e : s + (d + 1) = s + d + 1 := by omega
    rw [e, h2]
    omega
theorem cntL_below (xs : List Int) (l s : Nat) (h : s < xs.length) (hx : xs.getD s 0 = (l : Int)) (t : Nat) (hst : s < t) (ht : t ≤ xs.length) : cntL (xs.take s) l < cntL (xs.take t) l := by
  have h1 := cntL_take xs l s h
  rw [if_pos hx] at h1
  have h2 := cntL_mono xs l (t - (s + 1)) (s + 1) (by omega)
  have e : s + 1 + (t - (s + 1)) = t := by omega
  rw [e] at h2
  omega
/-- The first code of each len. -/
def firstC (xs : List Int) : Nat → Nat
  | 0 => 0
  | l + 1 => 2 * (firstC xs l + (if l = 0 then 0 else cntL xs l))
theorem first_far (xs : List Int) (l : Nat) (hl : l ≠ 0) : ∀ d, 2 ^ (d + 1) * (firstC xs l + cntL xs l) ≤ firstC xs (l + (d + 1))
  | 0 => by
    show 2 ^ (0 + 1) * _ ≤ 2 * (firstC xs l + (if l = 0 then 0 else cntL xs l))
    rw [if_neg hl]
    simp
  | d + 1 => by
    have ih := first_far xs l hl d
    have e : firstC xs (l + (d + 1 + 1)) = 2 * (firstC xs (l + (d + 1)) + (if l + (d + 1) = 0 then 0 else cntL xs (l + (d + 1)))) := rfl
    rw [e, Nat.pow_succ, Nat.mul_comm _ 2, Nat.mul_assoc]
    omega
/-- A symbol's code. -/
def codeG (xs : List Int) (s : Nat) : Int × Int := if xs.getD s 0 = 0 then (0, 0) else (xs.getD s 0, ((firstC xs (xs.getD s 0).toNat + cntL (xs.take s) (xs.getD s 0).toNat : Nat) : Int))
def codesG (xs : List Int) : List (Int × Int) := if lensB xs then (List.range xs.length).map (codeG xs) else []

theorem lens_parts {xs : List Int} (h : lensB xs = true) : xs.length ≤ 256 ∧ (∀ i, i < xs.length → 0 ≤ xs.getD i 0 ∧ xs.getD i 0 ≤ 16) ∧ 0 < krS xs ∧ krS xs ≤ 65536 := by
  unfold lensB at h
  rw [Bool.and_eq_true, Bool.and_eq_true] at h
  have hk := of_decide_eq_true h.2
  exact ⟨of_decide_eq_true h.1.1, fun i hi => of_decide_eq_true (all_get h.1.2 i hi), hk.1, hk.2⟩
theorem codes_len {xs : List Int} (h : lensB xs = true) : (codesG xs).length = xs.length := by unfold codesG; rw [if_pos h]; simp
theorem codes_at {xs : List Int} (h : lensB xs = true) (s : Nat) (hs : s < xs.length) : (codesG xs).getD s (0, 0) = codeG xs s := by unfold codesG; rw [if_pos h]; simp [hs]
theorem code_len (xs : List Int) (s : Nat) : (codeG xs s).1 = xs.getD s 0 := by
  unfold codeG
  split
  · rename_i h; exact h.symm
  · rfl
/-- A symbol with a code: its len and its rank among those of its len. -/
theorem code_parts {xs : List Int} (h : lensB xs = true) {s : Nat} (hs : s < xs.length) (h0 : xs.getD s 0 ≠ 0) : ∃ l r : Nat, 1 ≤ l ∧ l ≤ 16 ∧ xs.getD s 0 = (l : Int) ∧ r = cntL (xs.take s) l ∧ r < cntL xs l ∧ codeG xs s = ((l : Int), ((firstC xs l + r : Nat) : Int)) := by
  have hb := (lens_parts h).2.1 s hs
  obtain ⟨l, hl⟩ := Int.eq_ofNat_of_zero_le hb.1
  have hr := cntL_below xs l s hs hl xs.length hs (Nat.le_refl _)
  rw [List.take_length] at hr
  refine ⟨l, _, by omega, by omega, hl, rfl, hr, ?_⟩
  unfold codeG
  rw [if_neg h0, hl]
  rfl
/-- No code begins another one. -/
theorem code_prefix {xs : List Int} (h : lensB xs = true) {i k : Nat} (hi : i < xs.length) (hk : k < xs.length) (hik : i ≠ k) (h0 : xs.getD i 0 ≠ 0) (d : Nat) (hd : xs.getD k 0 = xs.getD i 0 + (d : Int)) : (codeG xs k).2 / 2 ^ d ≠ (codeG xs i).2 := by
  have hbi := (lens_parts h).2.1 i hi
  obtain ⟨l, r, l1, l2, hl, hr, hrl, hc⟩ := code_parts h hi h0
  obtain ⟨m, q, m1, m2, hm, hq, hql, hc2⟩ := code_parts h hk (by omega)
  rw [hc, hc2]
  show ((firstC xs m + q : Nat) : Int) / 2 ^ d ≠ ((firstC xs l + r : Nat) : Int)
  have hmd : m = l + d := by omega
  cases d with
  | zero =>
    obtain rfl : m = l := by omega
    have e : ((firstC xs m + q : Nat) : Int) / 2 ^ 0 = ((firstC xs m + q : Nat) : Int) := by simp
    rw [e]
    have hne : r ≠ q := by
      rcases Nat.lt_or_gt_of_ne hik with h1 | h1
      · have := cntL_below xs m i hi hl k h1 (by omega)
        omega
      · have := cntL_below xs m k hk hm i h1 (by omega)
        omega
    omega
  | succ d =>
    have hf := first_far xs l (by omega) d
    rw [← hmd] at hf
    have hp : 0 < 2 ^ (d + 1) := Nat.two_pow_pos _
    have h1 : firstC xs l + cntL xs l ≤ (firstC xs m + q) / 2 ^ (d + 1) := by
      rw [Nat.le_div_iff_mul_le hp, Nat.mul_comm]
      omega
    have e : ((firstC xs m + q : Nat) : Int) / 2 ^ (d + 1) = (((firstC xs m + q) / 2 ^ (d + 1) : Nat) : Int) := by
      rw [Int.natCast_ediv]
      simp
    rw [e]
    omega

/-- What lens up to l take together. -/
def krTo (xs : List Int) : Nat → Nat
  | 0 => 0
  | l + 1 => krTo xs l + cntL xs (l + 1) * 2 ^ (16 - (l + 1))
theorem first_kr (xs : List Int) : ∀ l, l ≤ 16 → (firstC xs l + (if l = 0 then 0 else cntL xs l)) * 2 ^ (16 - l) = krTo xs l
  | 0, _ => by simp [firstC, krTo]
  | l + 1, h => by
    have ih := first_kr xs l (by omega)
    have e : 2 ^ (16 - l) = 2 * 2 ^ (16 - (l + 1)) := by
      have : 16 - l = (16 - (l + 1)) + 1 := by omega
      rw [this, Nat.pow_succ, Nat.mul_comm]
    rw [if_neg (by omega), krTo, ← ih, e, Nat.add_mul]
    congr 1
    show 2 * _ * _ = _
    rw [← Nat.mul_assoc, Nat.mul_comm 2]
theorem krTo_cons (x : Int) (xs : List Int) (hx : 0 ≤ x) : ∀ l, krTo (x :: xs) l = krTo xs l + (if 0 < x ∧ x ≤ (l : Int) then 2 ^ (16 - x.toNat) else 0)
  | 0 => by
    rw [if_neg (by omega)]; rfl
  | l + 1 => by
    have ih := krTo_cons x xs hx l
    have e : cntL (x :: xs) (l + 1) = cntL xs (l + 1) + (if x = ((l + 1 : Nat) : Int) then 1 else 0) := by
      unfold cntL
      by_cases h : x = ((l + 1 : Nat) : Int)
      · simp [h]
      · rw [List.filter_cons, if_neg (by simpa using h), if_neg h]
        rfl
    rw [krTo, krTo, ih, e, Nat.add_mul]
    by_cases h1 : x = ((l + 1 : Nat) : Int)
    · rw [if_pos h1, if_neg (by omega), if_pos (by omega)]
      have : x.toNat = l + 1 := by omega
      rw [this]; omega
    · rw [if_neg h1]
      by_cases h2 : 0 < x ∧ x ≤ (l : Int)
      · rw [if_pos h2, if_pos (by omega)]; omega
      · rw [if_neg h2, if_neg (by omega)]; omega
theorem krTo_le : ∀ (xs : List Int) (l : Nat), (∀ x ∈ xs, 0 ≤ x) → krTo xs l ≤ krS xs
  | [], l, _ => by
    have : krTo [] l = 0 := by
      induction l with
      | zero => rfl
      | succ l ih => rw [krTo, ih]; simp [cntL]
    omega
  | x :: xs, l, h => by
    have ih := krTo_le xs l (fun y hy => h y (by simp [hy]))
    rw [krTo_cons x xs (h x (by simp)) l]
    have e : krS (x :: xs) = kr x + krS xs := rfl
    rw [e]
    unfold kr
    by_cases h1 : 0 < x ∧ x ≤ (l : Int)
    · rw [if_pos h1, if_pos h1.1]; omega
    · rw [if_neg h1]; omega
/-- Codes fit into their lens. -/
theorem codes_fit {xs : List Int} (h : lensB xs = true) (l : Nat) (l1 : 1 ≤ l) (l2 : l ≤ 16) : firstC xs l + cntL xs l ≤ 2 ^ l := by
  obtain ⟨_, hb, _, hk⟩ := lens_parts h
  have h1 := first_kr xs l l2
  rw [if_neg (by omega)] at h1
  have h2 := krTo_le xs l (fun x hx => by
    obtain ⟨i, hi, rfl⟩ := List.getElem_of_mem hx
    have := (hb i hi).1
    have e : xs.getD i 0 = xs[i] := by simp [hi]
    rw [e] at this
    exact this)
  have e : 2 ^ l * 2 ^ (16 - l) = 65536 := by
    rw [← Nat.pow_add]
    have : l + (16 - l) = 16 := by omega
    rw [this]
  have hp : 0 < 2 ^ (16 - l) := Nat.two_pow_pos _
  apply Nat.le_of_mul_le_mul_right _ hp
  omega
theorem code_fits {xs : List Int} (h : lensB xs = true) {s : Nat} (hs : s < xs.length) : 0 ≤ (codeG xs s).2 ∧ (codeG xs s).2 < 2 ^ (codeG xs s).1.toNat := by
  by_cases h0 : xs.getD s 0 = 0
  · unfold codeG
    rw [if_pos h0]
    decide
  · obtain ⟨l, r, l1, l2, _, _, hr, hc⟩ := code_parts h hs h0
    rw [hc]
    have := codes_fit h l l1 l2
    show 0 ≤ ((firstC xs l + r : Nat) : Int) ∧ ((firstC xs l + r : Nat) : Int) < 2 ^ ((l : Int)).toNat
    rw [Int.toNat_natCast]
    have e : ((2 ^ l : Nat) : Int) = (2 : Int) ^ l := by simp
    omega

end Go.Proofs.Ytdhgfbdanijgaaa

namespace Go.Proofs.Ytdhgfbdanijgaaa
open Go.RowKit

theorem inRange8 (n lo hi : Int) (t : Bool) (ht : Hid (decide (lo ≤ n ∧ n ≤ hi) = t)) (w : World) :
    Calls Try.prog 26 #[.int .i64 n, .int .i64 lo, .int .i64 hi] w fun e w' => e = .returned (.bool t) ∧ w' = w := by
  by_cases h1 : lo ≤ n
  · by_cases h2 : n ≤ hi
    · have e : t = true := by rw [← unhide ht]; simp [h1, h2]
      subst e
      go_enter Try.func26, Try.ntmps26
      go_wp2
      go_ret
      exact ⟨by simp, rfl⟩
    · have e : t = false := by rw [← unhide ht]; simp [h2]
      subst e
      go_enter Try.func26, Try.ntmps26
      go_wp2
      go_ret
      exact ⟨by simp, rfl⟩
  · have e : t = false := by rw [← unhide ht]; simp [h1]
    subst e
    have hd : decide (lo ≤ n) = false := by simpa using h1
    go_enter Try.func26, Try.ntmps26
    go_wp2
    go_ret
    exact ⟨rfl, rfl⟩

def numB (m x : Int) : Bool := decide (0 ≤ x ∧ x ≤ m)
def perB (m : Int) (xs : List Int) : Bool := decide (xs.length ≤ 256) && xs.all (numB m) && xs.any (fun x => decide (0 < x))
theorem sym_freqs (fs : List Int) : perB 1000000 fs = freqsB fs := rfl
theorem kr_pos {xs : List Int} : 0 < krS xs ↔ xs.any (fun x => decide (0 < x)) = true := by
  induction xs with
  | nil => simp [krS, sumF]
  | cons x xs ih =>
    have e : krS (x :: xs) = kr x + krS xs := rfl
    rw [e, List.any_cons, Bool.or_eq_true, ← ih, decide_eq_true_eq]
    unfold kr
    by_cases h : 0 < x
    · rw [if_pos h]
      have : 0 < 2 ^ (16 - x.toNat) := Nat.two_pow_pos _
      exact ⟨fun _ => .inl h, fun _ => by omega⟩
    · rw [if_neg h]
      exact ⟨fun h2 => .inr (by omega), fun h2 => by rcases h2 with h2 | h2 <;> omega⟩
theorem sym_lens (xs : List Int) : lensB xs = (perB 16 xs && decide (krS xs ≤ 65536)) := by
  have e : xs.any (fun x => decide (0 < x)) = decide (0 < krS xs) := by
    cases h : xs.any (fun x => decide (0 < x)) with
    | true => exact (decide_eq_true (kr_pos.2 h)).symm
    | false => exact (decide_eq_false (fun h2 => by rw [kr_pos.1 h2] at h; simp at h)).symm
  unfold lensB perB
  rw [e, Bool.and_assoc, Bool.and_assoc, Bool.and_assoc]
  congr 1
  congr 1
  rw [Bool.decide_and]

set_option maxHeartbeats 1600000 in
theorem implPer (ao : Option Addr) (n cap : Nat) (xs : List Int) (w : World) (hr : Rd .i64 w ao n xs) (hn1 : n ≤ 1048576) (M : Int) (b : Bool) (HB : Hid (perB M xs = b)) :
    Calls Try.prog 19 #[.slice ao n cap, .int .i64 M] w fun e w' => e = .returned (.bool b) ∧ w' = w := by
  have hl := hr.1
  have HR := hide hr
  clear hr
  by_cases hn : n ≤ 256
  · have hd : decide ((256 : Int) < (n : Int)) = false := decide_eq_false (by omega)
    go_enter Try.func19, Try.ntmps19
    go_wp2
    go_loopw [5, 13] (fun s i wr => ∃ (k : Nat) (t : Bool), k ≤ n ∧ i = .int .i64 k ∧ s = .bool t ∧ Hid ((xs.take k).all (numB M) = true) ∧ Hid ((xs.take k).any (fun x => decide (0 < x)) = t) ∧ wr = w) (fun _ i _ => n - (intOf i).toNat)
    case atStart => exact ⟨0, false, Nat.zero_le _, rfl, rfl, rfl, rfl, rfl⟩
    case round =>
      obtain ⟨k, t, hk, rfl, rfl, ha, hs, rfl⟩ := hrel
      by_cases hlt : k < n
      · obtain ⟨bb, off, rfl, hc⟩ := (unhide HR).2 k hlt
        have hal := all_takeP (f := numB M) (xs := xs) (k := k) (by omega)
        have hno := all_noP (f := numB M) (xs := xs) (k := k) (by omega)
        have hany : (xs.take (k + 1)).any (fun x => decide (0 < x)) = (t || decide (0 < xs.getD k 0)) := by
          have hk2 : k < xs.length := by omega
          rw [List.take_succ_eq_append_getElem hk2, List.any_append, unhide hs]
          simp [hk2]
        generalize xs.getD k 0 = x at *
        cases hx : numB M x with
        | true =>
          have HD : Hid (decide (0 ≤ x ∧ x ≤ M) = true) := hx
          have hA : (xs.take (k + 1)).all (numB M) = true := by rw [hal, unhide ha, hx]; rfl
          have HA := hide hA
          obtain ⟨u, hu⟩ : ∃ u, decide (0 < x) = u := ⟨_, rfl⟩
          rw [hu] at hany
          have HAN := hide hany
          clear hA ha hal hno hx hs hany
          cases t with
          | true =>
            go_wp2_with fail
            refine (inRange8 x 0 M true HD wr).mono ?_
            rintro e w1 ⟨rfl, rfl⟩
            go_wp2
            go_roundw
            case rel => exact ⟨k + 1, true, by omega, by go_num, rfl, HA, HAN, trivial⟩
            case measure => simp [intOf]; omega
          | false =>
            go_wp2_with fail
            refine (inRange8 x 0 M true HD wr).mono ?_
            rintro e w1 ⟨rfl, rfl⟩
            go_wp2
            go_roundw
            case rel => exact ⟨k + 1, u, by omega, by go_num, by first | rfl | (rw [← hu]), HA, HAN, trivial⟩
            case measure => simp [intOf]; omega
        | false =>
          have HD : Hid (decide (0 ≤ x ∧ x ≤ M) = false) := hx
          have hb : b = false := by rw [← unhide HB, perB, hno hx, Bool.and_false, Bool.false_and]
          subst hb
          clear ha hal hno hx hs hany
          go_wp2_with fail
          refine (inRange8 x 0 M false HD wr).mono ?_
          rintro e w1 ⟨rfl, rfl⟩
          go_wp2
          go_ret
          exact ⟨rfl, rfl⟩
      · obtain rfl : k = n := by omega
        have hb : b = t := by
          have h := unhide ha
          have h2 := unhide hs
          rw [← hl, List.take_length] at h h2
          rw [← unhide HB, perB, h, hl, decide_eq_true hn, h2]
          simp
        subst hb
        go_wp2
        go_ret
        exact ⟨rfl, rfl⟩
  · have hb : b = false := by rw [← unhide HB, perB, hl, decide_eq_false hn]; rfl
    subst hb
    have hd : decide ((256 : Int) < (n : Int)) = true := decide_eq_true (by omega)
    go_enter Try.func19, Try.ntmps19
    go_wp2
    go_ret
    exact ⟨rfl, rfl⟩

set_option maxHeartbeats 1600000 in
theorem implTaken (ao : Option Addr) (n cap : Nat) (xs : List Int) (w : World) (hr : Rd .i64 w ao n xs) (hn : n ≤ 256) (HB : Hid (∀ i, i < n → 0 ≤ xs.getD i 0 ∧ xs.getD i 0 ≤ 16)) :
    Calls Try.prog 20 #[.slice ao n cap] w fun e w' => e = .returned (.int .i64 (krS xs : Nat)) ∧ w' = w := by
  have hl := hr.1
  have HR := hide hr
  clear hr
  have HEND : Hid (krS (xs.take n) = krS xs) := by unfold Hid; rw [← hl, List.take_length]
  obtain ⟨Z, HZ⟩ : ∃ Z, Hid (krS xs = Z) := ⟨_, rfl⟩
  rw [unhide HZ] at HEND
  rw [unhide HZ]
  go_enter Try.func20, Try.ntmps20
  go_wp2
  go_loopw [3, 8] (fun s i wr => ∃ (k t : Nat), k ≤ n ∧ t ≤ 16777216 ∧ i = .int .i64 k ∧ s = .int .i64 t ∧ Hid (krS (xs.take k) = t) ∧ wr = w) (fun _ i _ => n - (intOf i).toNat)
  case atStart => exact ⟨0, 0, Nat.zero_le _, Nat.zero_le _, rfl, rfl, rfl, rfl⟩
  case round =>
    obtain ⟨k, t, hk, ht, rfl, rfl, hs, rfl⟩ := hrel
    by_cases hlt : k < n
    · obtain ⟨bb, off, rfl, hc⟩ := (unhide HR).2 k hlt
      have hkr := krS_take (xs := xs) (k := k) (by omega)
      have hbd := krS_bound (xs.take (k + 1))
      have hbl : (xs.take (k + 1)).length = k + 1 := by simp; omega
      rw [hkr, unhide hs, hbl] at hbd
      have hx2 := unhide HB k hlt
      generalize xs.getD k 0 = x at *
      obtain ⟨l, rfl⟩ := Int.eq_ofNat_of_zero_le hx2.1
      by_cases h0 : 0 < l
      · have hd0 : decide ((0 : Int) < (l : Int)) = true := decide_eq_true (by omega)
        have hkl : kr (l : Int) = 2 ^ (16 - l) := by unfold kr; rw [if_pos (by omega), Int.toNat_natCast]
        have HS2 : Hid (krS (xs.take (k + 1)) = t + 2 ^ (16 - l)) := by unfold Hid; rw [hkr, unhide hs, hkl]
        have hkk : ((16 : Int) - (l : Int)).toNat = 16 - l := by omega
        have e4 := i64_in ((16 : Int) - (l : Int)) (by omega)
        have hp := pow_fit8 (k := 16 - l) (by omega)
        have hpc : ((2 ^ (16 - l) : Nat) : Int) = (2 : Int) ^ (16 - l) := by simp
        rw [hkl] at hbd
        obtain ⟨P, hP⟩ : ∃ P : Nat, 2 ^ (16 - l) = P := ⟨_, rfl⟩
        rw [hP] at HS2 hpc hbd
        have e3 := i64_in ((P : Int)) (by omega)
        have e5 := i64_in ((t : Int) + (P : Int)) (by omega)
        have hpc2 : (2 : Int) ^ (16 - l) = (P : Int) := hpc.symm
        clear hs hkr hkl hP hpc hp
        go_wp2
        go_roundw
        case rel => exact ⟨k + 1, t + P, by omega, by omega, by go_num, by go_num, HS2, trivial⟩
        case measure => simp [intOf]; omega
      · obtain rfl : l = 0 := by omega
        have HS2 : Hid (krS (xs.take (k + 1)) = t) := by unfold Hid; rw [hkr, unhide hs]; rfl
        clear hs hkr hbd
        go_wp2
        go_roundw
        case rel => exact ⟨k + 1, t, by omega, by omega, by go_num, rfl, HS2, trivial⟩
        case measure => simp [intOf]; omega
    · obtain rfl : k = n := by omega
      have e : t = Z := by rw [← unhide hs]; exact unhide HEND
      subst e
      go_wp2
      go_ret
      exact ⟨rfl, rfl⟩

set_option maxHeartbeats 1600000 in
theorem implLensOk (ao : Option Addr) (n cap : Nat) (xs : List Int) (w : World) (hr : Rd .i64 w ao n xs) (hn : n ≤ 1048576) (b : Bool) (HB : Hid (lensB xs = b)) :
    Calls Try.prog 10 #[.slice ao n cap] w fun e w' => e = .returned (.bool b) ∧ w' = w := by
  obtain ⟨b1, HB1⟩ : ∃ b, Hid (perB 16 xs = b) := ⟨_, rfl⟩
  have hb := sym_lens xs
  rw [unhide HB, unhide HB1] at hb
  cases b1 with
  | false =>
    rw [Bool.false_and] at hb
    subst hb
    go_enter Try.func10, Try.ntmps10
    go_wp2_with fail
    refine (implPer ao n cap xs w hr hn 16 false HB1).mono ?_
    rintro e w1 ⟨rfl, rfl⟩
    go_wp2
    go_ret
    exact ⟨rfl, rfl⟩
  | true =>
    have hl := hr.1
    have hp := unhide HB1
    unfold perB at hp
    rw [Bool.and_eq_true, Bool.and_eq_true] at hp
    have hn2 : n ≤ 256 := by have := of_decide_eq_true hp.1.1; omega
    have HA : Hid (∀ i, i < n → 0 ≤ xs.getD i 0 ∧ xs.getD i 0 ≤ 16) := fun i hi => of_decide_eq_true (all_get hp.1.2 i (by omega))
    rw [Bool.true_and] at hb
    have hbd := krS_bound xs
    have HT := fun w' (h : Rd .i64 w' ao n xs) => implTaken ao n cap xs w' h hn2 HA
    obtain ⟨Z, HZ⟩ : ∃ Z, krS xs = Z := ⟨_, rfl⟩
    rw [HZ] at hb hbd HT
    have hd : decide ((Z : Int) ≤ 65536) = b := by rw [hb]; exact decide_eq_decide.2 ⟨fun h => by omega, fun h => by omega⟩
    clear hb HZ hp hl
    have HR := hide hr
    go_enter Try.func10, Try.ntmps10
    go_wp2_with fail
    refine (implPer ao n cap xs w hr hn 16 true HB1).mono ?_
    rintro e w1 ⟨rfl, rfl⟩
    go_wp2_with fail
    refine (HT _ (unhide HR)).mono ?_
    rintro e w1 ⟨rfl, rfl⟩
    go_wp2
    go_ret
    exact ⟨by first | rfl | rw [hd], rfl⟩

end Go.Proofs.Ytdhgfbdanijgaaa

namespace Go.Proofs.Ytdhgfbdanijgaaa
open Go.RowKit

theorem lawBig (ao : Option Addr) (n cap : Nat) (t : Bool) (w : World) (h : Hid (decide ((1048576 : Int) < (n : Int)) = t)) :
    Calls Try.prog 4 #[.slice ao n cap] w fun e w' => e = .returned (.bool t) ∧ w = w' := by
  go_enter Try.func4, Try.ntmps4
  go_wp2
  go_ret
  exact ⟨ret_bool (by rw [← unhide h]), rfl⟩

set_option maxHeartbeats 800000 in
theorem lawPick (ao : Option Addr) (n cap a : Nat) (k : Int) (zs : List Int) (w : World) (hr : Rd .u8 w ao n zs) (hb : ∀ i, 0 ≤ zs.getD i 0 ∧ zs.getD i 0 ≤ 255) (hn : n ≤ 1048576) (ha : a ≤ 1000000) (hk : 2 ≤ k) (hk3 : k ≤ 2147483648) :
    Calls Try.prog 5 #[.slice ao n cap, .int .i64 a, .int .i64 k] w fun e w' => (∃ x : Int, e = .returned (.int .i64 x) ∧ 0 ≤ x ∧ x < k) ∧ w = w' := by
  obtain ⟨hl, hc⟩ := hr
  by_cases hn0 : n = 0
  · subst hn0
    go_enter Try.func5, Try.ntmps5
    go_wp2
    go_ret
    exact ⟨⟨0, rfl, by omega, by omega⟩, rfl⟩
  · have h0 : ((n : Int) == 0) = false := by simp; omega
    have h2 : decide (k < 2) = false := by simp; omega
    go_enter Try.func5, Try.ntmps5
    go_wp2
    go_loop [7, 8] (fun v i => ∃ (x : Int) (j : Nat), j ≤ 3 ∧ i = .int .i64 j ∧ v = .int .i64 x ∧ 0 ≤ x ∧ x ≤ 253215 ∧ (j ≤ 2 → x ≤ 8160) ∧ (j ≤ 1 → x ≤ 255) ∧ (j ≤ 0 → x ≤ 0)) (fun _ i => 3 - (intOf i).toNat)
    case atStart => exact ⟨0, 0, by omega, rfl, rfl, by omega, by omega, by omega, by omega, by omega⟩
    case round =>
      obtain ⟨x, j, hj, rfl, rfl, hx0, hx1, hx2, hx3, hx4⟩ := hrel
      by_cases hlt : j < 3
      · have hm : (a + j) % n < n := Nat.mod_lt _ (by omega)
        obtain ⟨b, off, rfl, hcb⟩ := hc ((a + j) % n) hm
        have hbb := hb ((a + j) % n)
        generalize zs.getD ((a + j) % n) 0 = y at hcb hbb
        obtain ⟨hy0, hy1⟩ := hbb
        have hmi : (((a : Int) + (j : Int)) % (n : Int)) < (n : Int) := Int.emod_lt_of_pos _ (by omega)
        have hmi0 : 0 ≤ (((a : Int) + (j : Int)) % (n : Int)) := Int.emod_nonneg _ (by omega)
        have H2 := hide hx2
        have H3 := hide hx3
        have H4 := hide hx4
        have hx8 : x ≤ 8160 := hx2 (by omega)
        clear hc hb hx2 hx3 hx4
        go_wp2
        go_round
        case rel => exact ⟨31 * x + y, j + 1, by omega, by go_num, rfl, by omega, by omega, by have := unhide H3; omega, by have := unhide H4; omega, by omega⟩
        case measure => simp [intOf]; omega
      · go_wp2
        go_ret
        exact ⟨⟨(x + (a : Int)) % k, rfl, Int.emod_nonneg _ (by omega), Int.emod_lt_of_pos _ (by omega)⟩, rfl⟩

/-- What a new row of cells holds. -/
theorem cells_new (w : World) (cs : List Value) (t : TypeId) : ∀ j u, cs[j]? = some u → (w.alloc (.cells cs.toArray t)).cell? ((⟨w.heap.size, 0, none⟩ : Addr).add j) = some u := by
  intro j u h
  rw [Addr.add_lit, Nat.zero_add, cell_of_row _ w.heap.size j _ _ (0, 0) (heap_alloc_new w _)]
  simpa using h

end Go.Proofs.Ytdhgfbdanijgaaa

namespace Go.Proofs.Ytdhgfbdanijgaaa
open Go.RowKit

theorem okFrom_nines : ∀ (n : Nat) (was : Int), okFrom was (List.replicate n (9, [])) = true
  | 0, _ => rfl
  | n + 1, was => by
    rw [List.replicate_succ, okFrom, okFrom_nines n]
    simp [segOk1, kindOf, fitsK]
theorem okS_nines (n : Nat) : okS (List.replicate n (9, [])) = decide (n ≤ 300) := by
  unfold okS
  rw [okFrom_nines, List.length_replicate, Bool.and_true]
theorem okS_data (n : Nat) : okS [(9, List.replicate n 0)] = decide (n ≤ 20000) := by
  simp [okS, okFrom, segOk1, kindOf, fitsK]

/-- The cells of segments of mark 9 without data. -/
def nines : Nat → List Value
  | 0 => []
  | n + 1 => Value.int .i64 9 :: Value.slice none 0 0 :: nines n
theorem nines_next : ∀ n, nines n ++ [Value.int .i64 9, Value.slice none 0 0] = nines (n + 1)
  | 0 => rfl
  | n + 1 => by
    rw [nines, List.cons_append, List.cons_append, nines_next n]
    rfl
theorem nines_len : ∀ n, (nines n).length = n * 2
  | 0 => rfl
  | n + 1 => by rw [nines, List.length_cons, List.length_cons, nines_len n]; omega
theorem nines_get : ∀ n i, i < n → (nines n)[i * 2]? = some (Value.int .i64 9) ∧ (nines n)[i * 2 + 1]? = some (Value.slice none 0 0)
  | 0, i, h => by omega
  | n + 1, 0, _ => ⟨rfl, rfl⟩
  | n + 1, i + 1, h => by
    have := nines_get n i (by omega)
    rw [show (i + 1) * 2 = i * 2 + 2 by omega]
    exact this
theorem nines_rd {w : World} {base : Nat} {ao : Option Addr} {n c : Nat} (h : w.ownsRow base 31 2 (.slice ao n c) n (nines n)) : RdS w ao n (List.replicate n (9, [])) := by
  refine ⟨by simp, fun i hi => ?_⟩
  obtain ⟨g, rfl, _, _⟩ := own_at h (by omega)
  have e := nines_get n i hi
  refine ⟨g, 0, none, 0, rfl, ?_, ?_, ?_, fun _ => rfl⟩
  · rw [Nat.zero_add, h.cellAt (i * 2) (by omega), e.1]; simp [hi]
  · rw [Nat.zero_add, h.cellAt (i * 2 + 1) (by omega), e.2]; simp [hi]
  · have e2 : ((List.replicate n ((9 : Int), ([] : List Int))).getD i (0, [])).2 = [] := by simp [hi]
    rw [e2]
    exact ⟨rfl, fun j hj => by simp at hj⟩
theorem infoSegL : (Try.prog.info? 31).map (fun i => (i.zero, i.size, i.bytes)) = some (some (.agg #[.int .i64 0, .slice none 0 0]), 2, 32) := by kernel_rfl
theorem infoIntL : (Try.prog.info? 3).map (fun i => (i.zero, i.size, i.bytes)) = some (some (.int .i64 0), 1, 8) := by kernel_rfl
theorem infoByteL : (Try.prog.info? 5).map (fun i => (i.zero, i.size, i.bytes)) = some (some (.int .u8 0), 1, 1) := by kernel_rfl
theorem append_nine {w : World} {ops : Array Oper} {rest : List Oper} {o : Oper} {a : Act} {Q : Exit → Act → World → Prop} (hgd : o.guard = none) (s x : Operand)
    (ho : o.op = .call { callee := .builtin .append, args := #[s, x], argTypes := #[29, 29] })
    (base : Nat) (v : Value) (n : Nat) (hs : a.eval s = v) (hown : w.ownsRow base 31 2 v n (nines n)) (hx : a.eval x = .slice (some ⟨w.heap.size, 0, none⟩) 1 1) (hn : n ≤ 1000) (hbase : base ≤ w.heap.size)
    (h : ∀ v' w', w'.ownsRow base 31 2 v' (n + 1) (nines (n + 1)) → w.grownBy w' v.ownBlock → wpList Try.prog ops Q rest (a.put o.dst v') w') :
    wpList Try.prog ops Q (o :: rest) a (w.alloc (.cells #[.int .i64 9, .slice none 0 0] 31)) := by
  obtain ⟨i0, hi, hz0, hz1, hz2⟩ := info_parts infoSegL
  refine wpList_append_own _ hgd s x 29 ho base 31 i0 _ 2 32 Try.underlying29 hi hz0 hz1 hz2 rfl (by decide) v n _ hs (hown.alloc _) ⟨w.heap.size, 0, none⟩ 1 1 [.int .i64 9, .slice none 0 0] hx rfl (World.news_of_block (cs := #[.int .i64 9, .slice none 0 0]) (t := 31) (fr := (0, 0)) (heap_alloc_new w _)) ?_ (by unfold maxLen; omega) (by omega) (by simp; omega) ?_
  · intro u hu
    simp at hu
    rcases hu with rfl | rfl <;> rfl
  · intro v' w' h1 h2 _
    exact h v' w' (by rw [← nines_next]; exact h1) ⟨h2.os, h2.tape, h2.output, by have h := h2.size; simp at h; omega, fun k hk hr => (h2.block k (by simp; omega) hr).trans (Below.heap_alloc _ _ _ hk)⟩

/-- A field that lies made. -/
theorem rdF_lit (w : World) (a : Int) (t : TypeId) : RdF (w.alloc (.cells #[.int .i64 a, .int .i64 0] t)) (some ⟨w.heap.size, 0, none⟩) 1 [(a, 0)] := by
  refine ⟨rfl, fun i hi => ?_⟩
  obtain rfl : i = 0 := by omega
  refine ⟨w.heap.size, 0, rfl, ?_, ?_⟩ <;> (rw [cell_of_row _ _ _ _ _ (0, 0) (heap_alloc_new w _)]; rfl)
/-- Components that lie made. -/
def litC (xs : List Int) (i j : Nat) : Int := xs.getD (i * 4 + j) 0
theorem rdC_lit (w : World) (xs : List Int) (cs : Array Value) (hc : cs = (xs.map (Value.int .i64)).toArray) (n : Nat) (hn : xs.length = n * 4) (t : TypeId) : RdC (w.alloc (.cells cs t)) (some ⟨w.heap.size, 0, none⟩) n (litC xs) := by
  subst hc
  intro i hi
  refine ⟨w.heap.size, 0, rfl, fun j hj => ?_⟩
  have h9 : i * 4 + j < xs.length := by omega
  rw [cell_of_row _ _ _ _ _ (0, 0) (heap_alloc_new w _)]
  simp [litC, h9]
/-- A segment with data that lies made. -/
theorem rdS_lit (w : World) (g : Nat) (n : Nat) (hr : Rd .u8 w (some ⟨g, 0, none⟩) n (List.replicate n 0)) (t : TypeId) : RdS (w.alloc (.cells #[.int .i64 9, .slice (some ⟨g, 0, none⟩) n n] t)) (some ⟨w.heap.size, 0, none⟩) 1 [(9, List.replicate n 0)] := by
  refine ⟨rfl, fun i hi => ?_⟩
  obtain rfl : i = 0 := by omega
  refine ⟨w.heap.size, 0, some ⟨g, 0, none⟩, n, rfl, ?_, ?_, ?_, fun e => by simp at e⟩
  · rw [cell_of_row _ _ _ _ _ (0, 0) (heap_alloc_new w _)]; rfl
  · rw [cell_of_row _ _ _ _ _ (0, 0) (heap_alloc_new w _)]; simp
  · have e : (([(9, List.replicate n 0)] : List (Int × List Int)).getD 0 (0, [])).2 = List.replicate n 0 := rfl
    rw [e, List.length_replicate]
    exact hr.grown (World.grownBy_alloc _ _ _)
/-- Coefficients of one block that lie made. -/
theorem rd3_lit (w : World) (g : Nat) (b : List Int) (n : Nat) (hn : b.length = n) (hr : Rd .i64 w (some ⟨g, 0, none⟩) n b) (t1 t2 : TypeId) : Rd3 ((w.alloc (.cells #[.slice (some ⟨g, 0, none⟩) n n] t1)).alloc (.cells #[.slice (some ⟨w.heap.size, 0, none⟩) 1 1] t2)) (.slice (some ⟨w.heap.size + 1, 0, none⟩) 1 1) [[b]] := by
  have g1 := World.grownBy_alloc w (.cells #[.slice (some ⟨g, 0, none⟩) n n] t1) none
  have g2 := World.grownBy_alloc (w.alloc (.cells #[.slice (some ⟨g, 0, none⟩) n n] t1)) (.cells #[.slice (some ⟨w.heap.size, 0, none⟩) 1 1] t2) none
  have e1 : (w.alloc (.cells #[.slice (some ⟨g, 0, none⟩) n n] t1)).heap.size = w.heap.size + 1 := by simp
  have c2 := heap_alloc_new (w.alloc (.cells #[.slice (some ⟨g, 0, none⟩) n n] t1)) (.cells #[.slice (some ⟨w.heap.size, 0, none⟩) 1 1] t2)
  rw [e1] at c2
  refine ⟨some ⟨w.heap.size + 1, 0, none⟩, 1, rfl, fun i hi => ?_⟩
  obtain rfl : i = 0 := by simpa using hi
  refine ⟨w.heap.size + 1, 0, .slice (some ⟨w.heap.size, 0, none⟩) 1 1, rfl, by rw [cell_of_row _ _ _ _ _ (0, 0) c2]; rfl, ?_⟩
  refine ⟨some ⟨w.heap.size, 0, none⟩, 1, rfl, fun j hj => ?_⟩
  obtain rfl : j = 0 := by simpa using hj
  have c1 : (w.alloc (.cells #[.slice (some ⟨g, 0, none⟩) n n] t1)).cell? ⟨w.heap.size, 0 + 0, none⟩ = some (.slice (some ⟨g, 0, none⟩) n n) := by
    rw [cell_of_row _ _ _ _ _ (0, 0) (heap_alloc_new w _)]; rfl
  refine ⟨w.heap.size, 0, .slice (some ⟨g, 0, none⟩) n n, rfl, g2.cell c1 (by simp), ?_⟩
  subst hn
  exact ⟨some ⟨g, 0, none⟩, b.length, rfl, (hr.grown g1).grown g2⟩
theorem rep_get (n : Nat) (x : Int) (j : Nat) (hj : j < n) : (List.replicate n x).getD j 0 = x := by simp [hj]
def bL (m : Int) : List Int := (List.replicate 64 0).set 9 (-16383 - m)
def lensL (n : Nat) : List Int := (List.replicate n 0).set 0 1
def tabL (m : Int) : List Int := (List.replicate 64 1023).set 7 (1023 + m)
theorem f_at : okF [(16, 0)] = true := by decide
theorem f_past : okF [(17, 0)] = false := by decide
theorem fr_at : frameB 8 256 64 0 1 (litC [0, 1, 1, 0]) = true := by decide
theorem fr_past : frameB 8 257 64 0 1 (litC [0, 1, 1, 0]) = false := by decide
theorem ft_at : frameB 12 128 128 0 2 (litC [0, 4, 2, 0, 1, 1, 2, 0]) = true := by decide
theorem ft_past : frameB 12 128 129 0 2 (litC [0, 4, 2, 0, 1, 1, 2, 0]) = false := by decide
theorem fc_at : frameB 8 8 8 0 1 (litC [0, 1, 1, 0]) = true := by decide
theorem c_at : coefsOkF true 8 8 1 (litC [0, 1, 1, 0]) [[bL 0]] = true := by kernel_rfl
theorem c_past : coefsOkF true 8 8 1 (litC [0, 1, 1, 0]) [[bL 1]] = false := by kernel_rfl
theorem l_at : lensB (lensL 256) = true := by kernel_rfl
theorem l_past : lensB (lensL 257) = false := by kernel_rfl
theorem t_at : numsB 1 1023 (tabL 0) = true := by kernel_rfl
theorem t_past : numsB 1 1023 (tabL 1) = false := by kernel_rfl
end Go.Proofs.Ytdhgfbdanijgaaa

namespace Go.Proofs.Ytdhgfbdanijgaaa
open Go.RowKit

def lenVl (v : Value) : Nat := match v with | .slice _ n _ => n | _ => 0
set_option maxRecDepth 100000 in
set_option maxHeartbeats 6400000 in
theorem lawLimits (ao : Option Addr) (n cap : Nat) (zs : List Int) (w : World) (hr : Rd .u8 w ao n zs) (hb : ∀ i, 0 ≤ zs.getD i 0 ∧ zs.getD i 0 ≤ 255) :
    Calls Try.prog 3 #[.slice ao n cap] w fun e w' => e = .returned (.bool true) ∧ Below w.heap.size w w' := by
  have HR := hide hr
  have HB := hide hb
  clear hr hb
  obtain ⟨bg, HBG⟩ : ∃ t, Hid (decide ((1048576 : Int) < (n : Int)) = t) := ⟨_, rfl⟩
  go_enter Try.func3, Try.ntmps3
  go_wp2_with fail
  refine (lawBig ao n cap bg w HBG).mono ?_
  rintro e w ⟨rfl, rfl⟩
  cases bg with
  | true =>
    go_wp2
    go_ret
    exact ⟨rfl, Below.refl _ _⟩
  | false =>
  have hn : n ≤ 1048576 := by have := of_decide_eq_false (unhide HBG); omega
  clear HBG
  go_wp2_with fail
  refine (lawPick ao n cap 1 2 zs w (unhide HR) (unhide HB) hn (by omega) (by omega) (by omega)).mono ?_
  rintro e w ⟨⟨x, rfl, hx0, hx1⟩, rfl⟩
  rcases (show x = 0 ∨ x = 1 by omega) with rfl | rfl
  · go_wp2_with fail
    refine (lawPick ao n cap 0 8 zs w (unhide HR) (unhide HB) hn (by omega) (by omega) (by omega)).mono ?_
    rintro e w ⟨⟨y, rfl, hy0, hy1⟩, rfl⟩
    clear HR HB
    rcases (show y = 0 ∨ y = 1 ∨ y = 2 ∨ y = 3 ∨ y = 4 ∨ y = 5 ∨ y = 6 ∨ y = 7 by omega) with rfl | rfl | rfl | rfl | rfl | rfl | rfl | rfl
    all_goals clear hy0 hy1 hx0 hx1
    · have HF := hide (rdF_lit w 16 27)
      have G0 := World.grownBy_alloc w (.cells #[.int .i64 16, .int .i64 0] 27) none
      have HG0 := hide G0
      clear G0
      go_wp2_with fail
      refine (implFieldsOk _ 1 1 [(16, 0)] _ (unhide HF) (by omega)).mono ?_
      rw [f_at]
      rintro e w1 ⟨rfl, g1⟩
      have HG := hide (grown_trans (unhide HG0) g1)
      clear g1
      go_wp2
      go_ret
      exact ⟨rfl, grown_below (unhide HG)⟩
    · have HO : Hid ((w.alloc (.cells #[] 31)).ownsRow w.heap.size 31 2 (.slice (some ⟨w.heap.size, 0, none⟩) 0 0) 0 (nines 0)) := World.ownsRow_lit w #[] 0 (Nat.le_refl _) (by unfold maxLen; omega) rfl
      have HG0 : Hid (w.grownBy (w.alloc (.cells #[] 31)) none) := World.grownBy_alloc _ _ _
      go_wp2
      go_loopw [5] (fun v wr => ∃ j : Nat, j ≤ 300 ∧ Hid (wr.ownsRow w.heap.size 31 2 v j (nines j)) ∧ Hid (w.grownBy wr none)) (fun v _ => 400 - lenVl v)
      case atStart => exact ⟨0, by omega, HO, HG0⟩
      case round =>
        clear HO HG0
        obtain ⟨j, hj, hO, hG⟩ := hrel
        obtain ⟨so, sc, rfl⟩ := own_form (unhide hO)
        by_cases hjl : j < 300
        · have hjI : (j : Int) < 300 := by omega
          have hd : decide ((j : Int) < 300) = true := decide_eq_true hjI
          go_wp2_with (at_builtin; refine append_nine rfl _ _ rfl w.heap.size (.slice so j sc) j rfl (unhide hO) (by first | rfl | simp [Act.eval]) (by omega) (unhide hG).size ?_)
          intro v2 w2 o2 g2
          obtain ⟨so2, sc2, rfl⟩ := own_form o2
          have HO2 := hide o2
          have HG2 := hide (grown_new (unhide hG) g2 (fun r e => ((unhide hO).lt r e).1))
          clear o2 g2 hO hG
          go_wp2
          go_roundw
          case rel => exact ⟨j + 1, by omega, HO2, HG2⟩
          case measure => simp [lenVl]; omega
        · obtain rfl : j = 300 := by omega
          have HS := hide (nines_rd (unhide hO))
          go_wp2_with fail
          refine (implSegsOk so 300 sc _ _ (unhide HS)).mono ?_
          rw [okS_nines]
          rintro e w1 ⟨rfl, g1⟩
          have HG := hide (grown_trans (unhide hG) g1)
          clear g1
          go_wp2
          go_ret
          exact ⟨rfl, grown_below (unhide HG)⟩
    · obtain ⟨i0, hi, hz0, hz1, hz2⟩ := info_parts infoByteL
      go_wp2_with (at_make; refine wpList_make_full _ rfl _ _ 22 rfl w.heap.size 5 i0 (.int .u8 0) 1 Try.underlying22 hi hz0 hz1 .i64 .i64 _ _ 20000 rfl rfl rfl rfl (by rw [hz2]; omega) (by unfold maxLen; omega) (Nat.le_refl _) ?_)
      intro w1 hown hgrow
      rw [show (madeCells #[Value.int .u8 0] 20000).toList = (List.replicate 20000 (0 : Int)).map (Value.int .u8) from by rw [List.map_replicate]; exact toList_madeCells_one _ _] at hown
      have HS := hide (rdS_lit w1 w.heap.size 20000 (own_rd hown) 31)
      have HG1 := hide (grown_alloc hgrow (.cells #[.int .i64 9, .slice (some ⟨w.heap.size, 0, none⟩) 20000 20000] 31))
      clear hown hgrow hi hz0 hz1 hz2
      go_wp2_with fail
      refine (implSegsOk _ 1 1 _ _ (unhide HS)).mono ?_
      rw [okS_data]
      rintro e w2 ⟨rfl, g2⟩
      have HG := hide (grown_trans (unhide HG1) g2)
      clear g2
      go_wp2
      go_ret
      exact ⟨rfl, grown_below (unhide HG)⟩
    · have HC := hide (rdC_lit w [0, 1, 1, 0] #[.int .i64 0, .int .i64 1, .int .i64 1, .int .i64 0] rfl 1 rfl 35)
      have HG0 : Hid (w.grownBy (w.alloc (.cells #[.int .i64 0, .int .i64 1, .int .i64 1, .int .i64 0] 35)) none) := World.grownBy_alloc _ _ _
      go_wp2_with fail
      refine (implFrameOk 8 256 64 0 _ 1 1 (litC [0, 1, 1, 0]) _ (unhide HC) (by omega) true fr_at).mono ?_
      rintro e w1 ⟨rfl, g1⟩
      have HG := hide (grown_trans (unhide HG0) g1)
      clear g1
      go_wp2
      go_ret
      exact ⟨rfl, grown_below (unhide HG)⟩
    · have HC := hide (rdC_lit w [0, 4, 2, 0, 1, 1, 2, 0] #[.int .i64 0, .int .i64 4, .int .i64 2, .int .i64 0, .int .i64 1, .int .i64 1, .int .i64 2, .int .i64 0] rfl 2 rfl 35)
      have HG0 : Hid (w.grownBy (w.alloc (.cells #[.int .i64 0, .int .i64 4, .int .i64 2, .int .i64 0, .int .i64 1, .int .i64 1, .int .i64 2, .int .i64 0] 35)) none) := World.grownBy_alloc _ _ _
      go_wp2_with fail
      refine (implFrameOk 12 128 128 0 _ 2 2 (litC [0, 4, 2, 0, 1, 1, 2, 0]) _ (unhide HC) (by omega) true ft_at).mono ?_
      rintro e w1 ⟨rfl, g1⟩
      have HG := hide (grown_trans (unhide HG0) g1)
      clear g1
      go_wp2
      go_ret
      exact ⟨rfl, grown_below (unhide HG)⟩
    · have HC := hide (rdC_lit w [0, 1, 1, 0] #[.int .i64 0, .int .i64 1, .int .i64 1, .int .i64 0] rfl 1 rfl 35)
      have HG0 : Hid (w.grownBy (w.alloc (.cells #[.int .i64 0, .int .i64 1, .int .i64 1, .int .i64 0] 35)) none) := World.grownBy_alloc _ _ _
      obtain ⟨i0, hi, hz0, hz1, hz2⟩ := info_parts infoIntL
      go_wp2_with (at_make; refine wpList_make_full _ rfl _ _ 39 rfl 0 3 i0 (.int .i64 0) 1 Try.underlying39 hi hz0 hz1 .i64 .i64 64 64 64 rfl rfl rfl rfl (by rw [hz2]; omega) (by unfold maxLen; omega) (Nat.zero_le _) ?_)
      intro w1 hown hgrow
      rw [show (madeCells #[Value.int .i64 0] 64).toList = (List.replicate 64 (0 : Int)).map (Value.int .i64) from by rw [List.map_replicate]; exact toList_madeCells_one _ _] at hown
      have hbx := heap_alloc_new (w.alloc (.cells #[.int .i64 0, .int .i64 1, .int .i64 1, .int .i64 0] 35)) (.cells #[.int .i64 8, .int .i64 8, .int .i64 8, .int .i64 0, .slice (some ⟨w.heap.size, 0, none⟩) 1 1] 38)
      rw [show (w.alloc (.cells #[.int .i64 0, .int .i64 1, .int .i64 1, .int .i64 0] 35)).heap.size = w.heap.size + 1 by simp] at hbx
      have bx1 := (hgrow.block (w.heap.size + 1) (by simp) (by simp)).trans hbx
      have HC1 := hide (((unhide HC).grown (World.grownBy_alloc (w.alloc (.cells #[.int .i64 0, .int .i64 1, .int .i64 1, .int .i64 0] 35)) (.cells #[.int .i64 8, .int .i64 8, .int .i64 8, .int .i64 0, .slice (some ⟨w.heap.size, 0, none⟩) 1 1] 38) none)).grown hgrow)
      have HG1 := hide (grown_trans (grown_trans (unhide HG0) (World.grownBy_alloc (w.alloc (.cells #[.int .i64 0, .int .i64 1, .int .i64 1, .int .i64 0] 35)) (.cells #[.int .i64 8, .int .i64 8, .int .i64 8, .int .i64 0, .slice (some ⟨w.heap.size, 0, none⟩) 1 1] 38) none)) hgrow)
      have hs1 : w.heap.size + 1 + 1 < w1.heap.size := (hown.lt _ rfl).2
      have st := hown.stored 9 (.int .i64 (-16383))
      have gs := grown_set w1 (w.heap.size + 1 + 1) 9 (.int .i64 (-16383))
      have c0 : ∃ v, w1.cell? ⟨w.heap.size + 1 + 1, 9, none⟩ = some v := ⟨_, by rw [hown.cellAt 9 (by omega)]; rfl⟩
      obtain ⟨v0, c0⟩ := c0
      have f0 := hown.frozenAt 9
      rw [← List.map_set] at st
      rw [show (List.replicate 64 (0 : Int)).set 9 (-16383) = bL 0 from rfl] at st
      have HC2 : Hid (RdC (w1.setCell ⟨w.heap.size + 1 + 1, 9, none⟩ (.int .i64 (-16383))) (some ⟨w.heap.size, 0, none⟩) 1 (litC [0, 1, 1, 0])) := fun i hi => by
        obtain ⟨b, off, e, hc⟩ := (unhide HC1) i hi
        obtain ⟨rfl, rfl⟩ : w.heap.size = b ∧ 0 = off := by simpa using e
        exact ⟨_, _, rfl, fun j hj => gs.cell (hc j hj) (by simp <;> omega)⟩
      have bx2 := (gs.block (w.heap.size + 1) (by omega) (by simp)).trans bx1
      have HR3 := rd3_lit _ (w.heap.size + 1 + 1) (bL 0) 64 rfl (own_rd st.1) 39 41
      rw [show (w1.setCell ⟨w.heap.size + 1 + 1, 9, none⟩ (.int .i64 (-16383))).heap.size = w1.heap.size by simp] at HR3
      have HR3 := hide HR3
      have HG2 := hide (grown_new (unhide HG1) gs (fun r e => by simp at e; omega))
      have k0 : (w1.setCell ⟨w.heap.size + 1 + 1, 9, none⟩ (.int .i64 (-16383))).cell? ⟨w.heap.size + 1, 0, none⟩ = some (.int .i64 8) := by rw [cell_of_row _ _ 0 _ _ (0, 0) bx2]; rfl
      have k1 : (w1.setCell ⟨w.heap.size + 1 + 1, 9, none⟩ (.int .i64 (-16383))).cell? ⟨w.heap.size + 1, 1, none⟩ = some (.int .i64 8) := by rw [cell_of_row _ _ 1 _ _ (0, 0) bx2]; rfl
      have k2 : (w1.setCell ⟨w.heap.size + 1 + 1, 9, none⟩ (.int .i64 (-16383))).cell? ⟨w.heap.size + 1, 2, none⟩ = some (.int .i64 8) := by rw [cell_of_row _ _ 2 _ _ (0, 0) bx2]; rfl
      have k3 : (w1.setCell ⟨w.heap.size + 1 + 1, 9, none⟩ (.int .i64 (-16383))).cell? ⟨w.heap.size + 1, 3, none⟩ = some (.int .i64 0) := by rw [cell_of_row _ _ 3 _ _ (0, 0) bx2]; rfl
      have k4 : (w1.setCell ⟨w.heap.size + 1 + 1, 9, none⟩ (.int .i64 (-16383))).cell? ⟨w.heap.size + 1, 4, none⟩ = some (.slice (some ⟨w.heap.size, 0, none⟩) 1 1) := by rw [cell_of_row _ _ 4 _ _ (0, 0) bx2]; rfl
      clear hown hgrow hbx bx1 st gs bx2 hi hz0 hz1 hz2 HC HC1 HG0 HG1
      go_wp2_with fail
      refine (giveCoefsOk 8 8 8 0 (some ⟨w.heap.size, 0, none⟩) 1 1 (litC [0, 1, 1, 0]) _ [[bL 0]] _ (((unhide HC2).grown (World.grownBy_alloc _ _ _)).grown (World.grownBy_alloc _ _ _)) (by omega) (unhide HR3) (by decide) true true fc_at c_at).mono ?_
      rintro e w2 ⟨rfl, g2⟩
      have HG := hide (grown_trans (grown_alloc (grown_alloc (unhide HG2) _) _) g2)
      clear g2
      go_wp2
      go_ret
      exact ⟨rfl, grown_below (unhide HG)⟩
    · obtain ⟨i0, hi, hz0, hz1, hz2⟩ := info_parts infoIntL
      go_wp2_with (at_make; refine wpList_make_full _ rfl _ _ 39 rfl w.heap.size 3 i0 (.int .i64 0) 1 Try.underlying39 hi hz0 hz1 .i64 .i64 _ _ 256 rfl rfl rfl rfl (by rw [hz2]; omega) (by unfold maxLen; omega) (Nat.le_refl _) ?_)
      intro w1 hown hgrow
      rw [show (madeCells #[Value.int .i64 0] 256).toList = (List.replicate 256 (0 : Int)).map (Value.int .i64) from by rw [List.map_replicate]; exact toList_madeCells_one _ _] at hown
      have st := hown.stored 0 (.int .i64 1)
      have c0 : ∃ v, w1.cell? ⟨w.heap.size, 0, none⟩ = some v := ⟨_, by rw [hown.cellAt 0 (by omega)]; rfl⟩
      obtain ⟨v0, c0⟩ := c0
      have f0 := hown.frozenAt 0
      rw [← List.map_set] at st
      have HL := hide (own_rd st.1)
      have HG1 := hide (grown_new hgrow (grown_set w1 w.heap.size 0 (.int .i64 1)) (fun r e => by simp at e; omega))
      clear hown hgrow hi hz0 hz1 hz2 st
      go_wp2_with fail
      refine (implLensOk _ 256 256 (lensL 256) _ (unhide HL) (by omega) true l_at).mono ?_
      rintro e w2 ⟨rfl, rfl⟩
      have HG := HG1
      go_wp2
      go_ret
      exact ⟨rfl, grown_below (unhide HG)⟩
    · obtain ⟨i0, hi, hz0, hz1, hz2⟩ := info_parts infoIntL
      go_wp2_with (at_make; refine wpList_make_full _ rfl _ _ 39 rfl w.heap.size 3 i0 (.int .i64 0) 1 Try.underlying39 hi hz0 hz1 .i64 .i64 64 64 64 rfl rfl rfl rfl (by rw [hz2]; omega) (by unfold maxLen; omega) (Nat.le_refl _) ?_)
      intro w1 hown hgrow
      obtain ⟨Q, HQ⟩ : ∃ Q, Hid (List.replicate 64 (1023 : Int) = Q) := ⟨_, rfl⟩
      have HQL : Hid (Q.length = 64) := by rw [← unhide HQ]; rfl
      have HQA : Hid (∀ j, j < 64 → Q.getD j 0 = 1023) := fun j hj => by rw [← unhide HQ]; exact rep_get 64 1023 j hj
      have HO : Hid (w1.ownsRow w.heap.size 3 1 (.slice (some ⟨w.heap.size, 0, none⟩) 64 64) 64 (part .i64 Q 0)) := by rw [part_zero, unhide HQL]; have e : (madeCells #[Value.int .i64 0] 64).toList = List.replicate 64 (.int .i64 0) := toList_madeCells_one _ _; rw [← e]; exact hown
      have HG1 := hide hgrow
      clear hown hgrow hi hz0 hz1 hz2
      go_wp2
      go_loopw [10] (fun iv wr => ∃ j : Nat, j ≤ 64 ∧ iv = .int .i64 j ∧ Hid (wr.ownsRow w.heap.size 3 1 (.slice (some ⟨w.heap.size, 0, none⟩) 64 64) 64 (part .i64 Q j)) ∧ Hid (w.grownBy wr none)) (fun iv _ => 64 - (intOf iv).toNat)
      case atStart => exact ⟨0, by omega, by go_num, HO, HG1⟩
      case round =>
        clear HO HG1
        obtain ⟨j, hj, rfl, hO, hG⟩ := hrel
        by_cases hjl : j < 64
        · have hjI : (j : Int) < 64 := by omega
          have e9 := i64_in ((j : Int) + 1) (by omega)
          have st := (unhide hO).stored j (.int .i64 1023)
          have hps := part_set .i64 Q j (by rw [unhide HQL]; exact hjl)
          rw [unhide HQA j hjl] at hps
          rw [hps] at st
          have c0 : ∃ v, wr.cell? ⟨w.heap.size, j, none⟩ = some v := ⟨_, by rw [(unhide hO).cellAt j (by omega)]; exact List.getElem?_eq_getElem (by rw [part_len .i64 Q j (by rw [unhide HQL]; omega), unhide HQL]; exact hjl)⟩
          obtain ⟨v0, c0⟩ := c0
          have f0 := (unhide hO).frozenAt j
          have HO2 := hide st.1
          have HG2 := hide (grown_new (unhide hG) (grown_set wr w.heap.size j (.int .i64 1023)) (fun r e => by simp at e; omega))
          clear st hps hO hG
          go_wp2
          go_roundw
          case rel => exact ⟨j + 1, by omega, by go_num, HO2, HG2⟩
          case measure => simp [intOf]; omega
        · obtain rfl : j = 64 := by omega
          have hp : part .i64 Q 64 = Q.map (Value.int .i64) := by have h := part_all .i64 Q; rw [unhide HQL] at h; exact h
          rw [hp] at hO
          have st := (unhide hO).stored 7 (.int .i64 1023)
          have c0 : ∃ v, wr.cell? ⟨w.heap.size, 7, none⟩ = some v := ⟨_, by rw [(unhide hO).cellAt 7 (by omega)]; exact List.getElem?_eq_getElem (by rw [List.length_map, unhide HQL]; omega)⟩
          obtain ⟨v0, c0⟩ := c0
          have f0 := (unhide hO).frozenAt 7
          rw [← List.map_set] at st
          have hq9 : Q.set 7 1023 = tabL 0 := by rw [← unhide HQ]; rfl
          rw [hq9] at st
          have HL := hide (own_rd st.1)
          have HG := hide (grown_new (unhide hG) (grown_set wr w.heap.size 7 (.int .i64 1023)) (fun r e => by simp at e; omega))
          clear st hO hG hp hq9
          go_wp2_with fail
          refine (implTableOk _ 64 64 (tabL 0) _ (unhide HL) true t_at).mono ?_
          rintro e w2 ⟨rfl, g2⟩
          have HG3 := hide (grown_trans (unhide HG) g2)
          clear g2
          go_wp2
          go_ret
          exact ⟨rfl, grown_below (unhide HG3)⟩
  · go_wp2_with fail
    refine (lawPick ao n cap 0 8 zs w (unhide HR) (unhide HB) hn (by omega) (by omega) (by omega)).mono ?_
    rintro e w ⟨⟨y, rfl, hy0, hy1⟩, rfl⟩
    clear HR HB
    rcases (show y = 0 ∨ y = 1 ∨ y = 2 ∨ y = 3 ∨ y = 4 ∨ y = 5 ∨ y = 6 ∨ y = 7 by omega) with rfl | rfl | rfl | rfl | rfl | rfl | rfl | rfl
    all_goals clear hy0 hy1 hx0 hx1
    · have HF := hide (rdF_lit w 17 27)
      have G0 := World.grownBy_alloc w (.cells #[.int .i64 17, .int .i64 0] 27) none
      have HG0 := hide G0
      clear G0
      go_wp2_with fail
      refine (implFieldsOk _ 1 1 [(17, 0)] _ (unhide HF) (by omega)).mono ?_
      rw [f_past]
      rintro e w1 ⟨rfl, g1⟩
      have HG := hide (grown_trans (unhide HG0) g1)
      clear g1
      go_wp2
      go_ret
      exact ⟨rfl, grown_below (unhide HG)⟩
    · have HO : Hid ((w.alloc (.cells #[] 31)).ownsRow w.heap.size 31 2 (.slice (some ⟨w.heap.size, 0, none⟩) 0 0) 0 (nines 0)) := World.ownsRow_lit w #[] 0 (Nat.le_refl _) (by unfold maxLen; omega) rfl
      have HG0 : Hid (w.grownBy (w.alloc (.cells #[] 31)) none) := World.grownBy_alloc _ _ _
      go_wp2
      go_loopw [5] (fun v wr => ∃ j : Nat, j ≤ 301 ∧ Hid (wr.ownsRow w.heap.size 31 2 v j (nines j)) ∧ Hid (w.grownBy wr none)) (fun v _ => 400 - lenVl v)
      case atStart => exact ⟨0, by omega, HO, HG0⟩
      case round =>
        clear HO HG0
        obtain ⟨j, hj, hO, hG⟩ := hrel
        obtain ⟨so, sc, rfl⟩ := own_form (unhide hO)
        by_cases hjl : j < 301
        · have hjI : (j : Int) < 301 := by omega
          have hd : decide ((j : Int) < 301) = true := decide_eq_true hjI
          go_wp2_with (at_builtin; refine append_nine rfl _ _ rfl w.heap.size (.slice so j sc) j rfl (unhide hO) (by first | rfl | simp [Act.eval]) (by omega) (unhide hG).size ?_)
          intro v2 w2 o2 g2
          obtain ⟨so2, sc2, rfl⟩ := own_form o2
          have HO2 := hide o2
          have HG2 := hide (grown_new (unhide hG) g2 (fun r e => ((unhide hO).lt r e).1))
          clear o2 g2 hO hG
          go_wp2
          go_roundw
          case rel => exact ⟨j + 1, by omega, HO2, HG2⟩
          case measure => simp [lenVl]; omega
        · obtain rfl : j = 301 := by omega
          have HS := hide (nines_rd (unhide hO))
          go_wp2_with fail
          refine (implSegsOk so 301 sc _ _ (unhide HS)).mono ?_
          rw [okS_nines]
          rintro e w1 ⟨rfl, g1⟩
          have HG := hide (grown_trans (unhide hG) g1)
          clear g1
          go_wp2
          go_ret
          exact ⟨rfl, grown_below (unhide HG)⟩
    · obtain ⟨i0, hi, hz0, hz1, hz2⟩ := info_parts infoByteL
      go_wp2_with (at_make; refine wpList_make_full _ rfl _ _ 22 rfl w.heap.size 5 i0 (.int .u8 0) 1 Try.underlying22 hi hz0 hz1 .i64 .i64 _ _ 20001 rfl rfl rfl rfl (by rw [hz2]; omega) (by unfold maxLen; omega) (Nat.le_refl _) ?_)
      intro w1 hown hgrow
      rw [show (madeCells #[Value.int .u8 0] 20001).toList = (List.replicate 20001 (0 : Int)).map (Value.int .u8) from by rw [List.map_replicate]; exact toList_madeCells_one _ _] at hown
      have HS := hide (rdS_lit w1 w.heap.size 20001 (own_rd hown) 31)
      have HG1 := hide (grown_alloc hgrow (.cells #[.int .i64 9, .slice (some ⟨w.heap.size, 0, none⟩) 20001 20001] 31))
      clear hown hgrow hi hz0 hz1 hz2
      go_wp2_with fail
      refine (implSegsOk _ 1 1 _ _ (unhide HS)).mono ?_
      rw [okS_data]
      rintro e w2 ⟨rfl, g2⟩
      have HG := hide (grown_trans (unhide HG1) g2)
      clear g2
      go_wp2
      go_ret
      exact ⟨rfl, grown_below (unhide HG)⟩
    · have HC := hide (rdC_lit w [0, 1, 1, 0] #[.int .i64 0, .int .i64 1, .int .i64 1, .int .i64 0] rfl 1 rfl 35)
      have HG0 : Hid (w.grownBy (w.alloc (.cells #[.int .i64 0, .int .i64 1, .int .i64 1, .int .i64 0] 35)) none) := World.grownBy_alloc _ _ _
      go_wp2_with fail
      refine (implFrameOk 8 257 64 0 _ 1 1 (litC [0, 1, 1, 0]) _ (unhide HC) (by omega) false fr_past).mono ?_
      rintro e w1 ⟨rfl, g1⟩
      have HG := hide (grown_trans (unhide HG0) g1)
      clear g1
      go_wp2
      go_ret
      exact ⟨rfl, grown_below (unhide HG)⟩
    · have HC := hide (rdC_lit w [0, 4, 2, 0, 1, 1, 2, 0] #[.int .i64 0, .int .i64 4, .int .i64 2, .int .i64 0, .int .i64 1, .int .i64 1, .int .i64 2, .int .i64 0] rfl 2 rfl 35)
      have HG0 : Hid (w.grownBy (w.alloc (.cells #[.int .i64 0, .int .i64 4, .int .i64 2, .int .i64 0, .int .i64 1, .int .i64 1, .int .i64 2, .int .i64 0] 35)) none) := World.grownBy_alloc _ _ _
      go_wp2_with fail
      refine (implFrameOk 12 128 129 0 _ 2 2 (litC [0, 4, 2, 0, 1, 1, 2, 0]) _ (unhide HC) (by omega) false ft_past).mono ?_
      rintro e w1 ⟨rfl, g1⟩
      have HG := hide (grown_trans (unhide HG0) g1)
      clear g1
      go_wp2
      go_ret
      exact ⟨rfl, grown_below (unhide HG)⟩
    · have HC := hide (rdC_lit w [0, 1, 1, 0] #[.int .i64 0, .int .i64 1, .int .i64 1, .int .i64 0] rfl 1 rfl 35)
      have HG0 : Hid (w.grownBy (w.alloc (.cells #[.int .i64 0, .int .i64 1, .int .i64 1, .int .i64 0] 35)) none) := World.grownBy_alloc _ _ _
      obtain ⟨i0, hi, hz0, hz1, hz2⟩ := info_parts infoIntL
      go_wp2_with (at_make; refine wpList_make_full _ rfl _ _ 39 rfl 0 3 i0 (.int .i64 0) 1 Try.underlying39 hi hz0 hz1 .i64 .i64 64 64 64 rfl rfl rfl rfl (by rw [hz2]; omega) (by unfold maxLen; omega) (Nat.zero_le _) ?_)
      intro w1 hown hgrow
      rw [show (madeCells #[Value.int .i64 0] 64).toList = (List.replicate 64 (0 : Int)).map (Value.int .i64) from by rw [List.map_replicate]; exact toList_madeCells_one _ _] at hown
      have hbx := heap_alloc_new (w.alloc (.cells #[.int .i64 0, .int .i64 1, .int .i64 1, .int .i64 0] 35)) (.cells #[.int .i64 8, .int .i64 8, .int .i64 8, .int .i64 0, .slice (some ⟨w.heap.size, 0, none⟩) 1 1] 38)
      rw [show (w.alloc (.cells #[.int .i64 0, .int .i64 1, .int .i64 1, .int .i64 0] 35)).heap.size = w.heap.size + 1 by simp] at hbx
      have bx1 := (hgrow.block (w.heap.size + 1) (by simp) (by simp)).trans hbx
      have HC1 := hide (((unhide HC).grown (World.grownBy_alloc (w.alloc (.cells #[.int .i64 0, .int .i64 1, .int .i64 1, .int .i64 0] 35)) (.cells #[.int .i64 8, .int .i64 8, .int .i64 8, .int .i64 0, .slice (some ⟨w.heap.size, 0, none⟩) 1 1] 38) none)).grown hgrow)
      have HG1 := hide (grown_trans (grown_trans (unhide HG0) (World.grownBy_alloc (w.alloc (.cells #[.int .i64 0, .int .i64 1, .int .i64 1, .int .i64 0] 35)) (.cells #[.int .i64 8, .int .i64 8, .int .i64 8, .int .i64 0, .slice (some ⟨w.heap.size, 0, none⟩) 1 1] 38) none)) hgrow)
      have hs1 : w.heap.size + 1 + 1 < w1.heap.size := (hown.lt _ rfl).2
      have st := hown.stored 9 (.int .i64 (-16384))
      have gs := grown_set w1 (w.heap.size + 1 + 1) 9 (.int .i64 (-16384))
      have c0 : ∃ v, w1.cell? ⟨w.heap.size + 1 + 1, 9, none⟩ = some v := ⟨_, by rw [hown.cellAt 9 (by omega)]; rfl⟩
      obtain ⟨v0, c0⟩ := c0
      have f0 := hown.frozenAt 9
      rw [← List.map_set] at st
      rw [show (List.replicate 64 (0 : Int)).set 9 (-16384) = bL 1 from rfl] at st
      have HC2 : Hid (RdC (w1.setCell ⟨w.heap.size + 1 + 1, 9, none⟩ (.int .i64 (-16384))) (some ⟨w.heap.size, 0, none⟩) 1 (litC [0, 1, 1, 0])) := fun i hi => by
        obtain ⟨b, off, e, hc⟩ := (unhide HC1) i hi
        obtain ⟨rfl, rfl⟩ : w.heap.size = b ∧ 0 = off := by simpa using e
        exact ⟨_, _, rfl, fun j hj => gs.cell (hc j hj) (by simp <;> omega)⟩
      have bx2 := (gs.block (w.heap.size + 1) (by omega) (by simp)).trans bx1
      have HR3 := rd3_lit _ (w.heap.size + 1 + 1) (bL 1) 64 rfl (own_rd st.1) 39 41
      rw [show (w1.setCell ⟨w.heap.size + 1 + 1, 9, none⟩ (.int .i64 (-16384))).heap.size = w1.heap.size by simp] at HR3
      have HR3 := hide HR3
      have HG2 := hide (grown_new (unhide HG1) gs (fun r e => by simp at e; omega))
      have k0 : (w1.setCell ⟨w.heap.size + 1 + 1, 9, none⟩ (.int .i64 (-16384))).cell? ⟨w.heap.size + 1, 0, none⟩ = some (.int .i64 8) := by rw [cell_of_row _ _ 0 _ _ (0, 0) bx2]; rfl
      have k1 : (w1.setCell ⟨w.heap.size + 1 + 1, 9, none⟩ (.int .i64 (-16384))).cell? ⟨w.heap.size + 1, 1, none⟩ = some (.int .i64 8) := by rw [cell_of_row _ _ 1 _ _ (0, 0) bx2]; rfl
      have k2 : (w1.setCell ⟨w.heap.size + 1 + 1, 9, none⟩ (.int .i64 (-16384))).cell? ⟨w.heap.size + 1, 2, none⟩ = some (.int .i64 8) := by rw [cell_of_row _ _ 2 _ _ (0, 0) bx2]; rfl
      have k3 : (w1.setCell ⟨w.heap.size + 1 + 1, 9, none⟩ (.int .i64 (-16384))).cell? ⟨w.heap.size + 1, 3, none⟩ = some (.int .i64 0) := by rw [cell_of_row _ _ 3 _ _ (0, 0) bx2]; rfl
      have k4 : (w1.setCell ⟨w.heap.size + 1 + 1, 9, none⟩ (.int .i64 (-16384))).cell? ⟨w.heap.size + 1, 4, none⟩ = some (.slice (some ⟨w.heap.size, 0, none⟩) 1 1) := by rw [cell_of_row _ _ 4 _ _ (0, 0) bx2]; rfl
      clear hown hgrow hbx bx1 st gs bx2 hi hz0 hz1 hz2 HC HC1 HG0 HG1
      go_wp2_with fail
      refine (giveCoefsOk 8 8 8 0 (some ⟨w.heap.size, 0, none⟩) 1 1 (litC [0, 1, 1, 0]) _ [[bL 1]] _ (((unhide HC2).grown (World.grownBy_alloc _ _ _)).grown (World.grownBy_alloc _ _ _)) (by omega) (unhide HR3) (by decide) true false fc_at c_past).mono ?_
      rintro e w2 ⟨rfl, g2⟩
      have HG := hide (grown_trans (grown_alloc (grown_alloc (unhide HG2) _) _) g2)
      clear g2
      go_wp2
      go_ret
      exact ⟨rfl, grown_below (unhide HG)⟩
    · obtain ⟨i0, hi, hz0, hz1, hz2⟩ := info_parts infoIntL
      go_wp2_with (at_make; refine wpList_make_full _ rfl _ _ 39 rfl w.heap.size 3 i0 (.int .i64 0) 1 Try.underlying39 hi hz0 hz1 .i64 .i64 _ _ 257 rfl rfl rfl rfl (by rw [hz2]; omega) (by unfold maxLen; omega) (Nat.le_refl _) ?_)
      intro w1 hown hgrow
      rw [show (madeCells #[Value.int .i64 0] 257).toList = (List.replicate 257 (0 : Int)).map (Value.int .i64) from by rw [List.map_replicate]; exact toList_madeCells_one _ _] at hown
      have st := hown.stored 0 (.int .i64 1)
      have c0 : ∃ v, w1.cell? ⟨w.heap.size, 0, none⟩ = some v := ⟨_, by rw [hown.cellAt 0 (by omega)]; rfl⟩
      obtain ⟨v0, c0⟩ := c0
      have f0 := hown.frozenAt 0
      rw [← List.map_set] at st
      have HL := hide (own_rd st.1)
      have HG1 := hide (grown_new hgrow (grown_set w1 w.heap.size 0 (.int .i64 1)) (fun r e => by simp at e; omega))
      clear hown hgrow hi hz0 hz1 hz2 st
      go_wp2_with fail
      refine (implLensOk _ 257 257 (lensL 257) _ (unhide HL) (by omega) false l_past).mono ?_
      rintro e w2 ⟨rfl, rfl⟩
      have HG := HG1
      go_wp2
      go_ret
      exact ⟨rfl, grown_below (unhide HG)⟩
    · obtain ⟨i0, hi, hz0, hz1, hz2⟩ := info_parts infoIntL
      go_wp2_with (at_make; refine wpList_make_full _ rfl _ _ 39 rfl w.heap.size 3 i0 (.int .i64 0) 1 Try.underlying39 hi hz0 hz1 .i64 .i64 64 64 64 rfl rfl rfl rfl (by rw [hz2]; omega) (by unfold maxLen; omega) (Nat.le_refl _) ?_)
      intro w1 hown hgrow
      obtain ⟨Q, HQ⟩ : ∃ Q, Hid (List.replicate 64 (1023 : Int) = Q) := ⟨_, rfl⟩
      have HQL : Hid (Q.length = 64) := by rw [← unhide HQ]; rfl
      have HQA : Hid (∀ j, j < 64 → Q.getD j 0 = 1023) := fun j hj => by rw [← unhide HQ]; exact rep_get 64 1023 j hj
      have HO : Hid (w1.ownsRow w.heap.size 3 1 (.slice (some ⟨w.heap.size, 0, none⟩) 64 64) 64 (part .i64 Q 0)) := by rw [part_zero, unhide HQL]; have e : (madeCells #[Value.int .i64 0] 64).toList = List.replicate 64 (.int .i64 0) := toList_madeCells_one _ _; rw [← e]; exact hown
      have HG1 := hide hgrow
      clear hown hgrow hi hz0 hz1 hz2
      go_wp2
      go_loopw [10] (fun iv wr => ∃ j : Nat, j ≤ 64 ∧ iv = .int .i64 j ∧ Hid (wr.ownsRow w.heap.size 3 1 (.slice (some ⟨w.heap.size, 0, none⟩) 64 64) 64 (part .i64 Q j)) ∧ Hid (w.grownBy wr none)) (fun iv _ => 64 - (intOf iv).toNat)
      case atStart => exact ⟨0, by omega, by go_num, HO, HG1⟩
      case round =>
        clear HO HG1
        obtain ⟨j, hj, rfl, hO, hG⟩ := hrel
        by_cases hjl : j < 64
        · have hjI : (j : Int) < 64 := by omega
          have e9 := i64_in ((j : Int) + 1) (by omega)
          have st := (unhide hO).stored j (.int .i64 1023)
          have hps := part_set .i64 Q j (by rw [unhide HQL]; exact hjl)
          rw [unhide HQA j hjl] at hps
          rw [hps] at st
          have c0 : ∃ v, wr.cell? ⟨w.heap.size, j, none⟩ = some v := ⟨_, by rw [(unhide hO).cellAt j (by omega)]; exact List.getElem?_eq_getElem (by rw [part_len .i64 Q j (by rw [unhide HQL]; omega), unhide HQL]; exact hjl)⟩
          obtain ⟨v0, c0⟩ := c0
          have f0 := (unhide hO).frozenAt j
          have HO2 := hide st.1
          have HG2 := hide (grown_new (unhide hG) (grown_set wr w.heap.size j (.int .i64 1023)) (fun r e => by simp at e; omega))
          clear st hps hO hG
          go_wp2
          go_roundw
          case rel => exact ⟨j + 1, by omega, by go_num, HO2, HG2⟩
          case measure => simp [intOf]; omega
        · obtain rfl : j = 64 := by omega
          have hp : part .i64 Q 64 = Q.map (Value.int .i64) := by have h := part_all .i64 Q; rw [unhide HQL] at h; exact h
          rw [hp] at hO
          have st := (unhide hO).stored 7 (.int .i64 1024)
          have c0 : ∃ v, wr.cell? ⟨w.heap.size, 7, none⟩ = some v := ⟨_, by rw [(unhide hO).cellAt 7 (by omega)]; exact List.getElem?_eq_getElem (by rw [List.length_map, unhide HQL]; omega)⟩
          obtain ⟨v0, c0⟩ := c0
          have f0 := (unhide hO).frozenAt 7
          rw [← List.map_set] at st
          have hq9 : Q.set 7 1024 = tabL 1 := by rw [← unhide HQ]; rfl
          rw [hq9] at st
          have HL := hide (own_rd st.1)
          have HG := hide (grown_new (unhide hG) (grown_set wr w.heap.size 7 (.int .i64 1024)) (fun r e => by simp at e; omega))
          clear st hO hG hp hq9
          go_wp2_with fail
          refine (implTableOk _ 64 64 (tabL 1) _ (unhide HL) false t_past).mono ?_
          rintro e w2 ⟨rfl, g2⟩
          have HG3 := hide (grown_trans (unhide HG) g2)
          clear g2
          go_wp2
          go_ret
          exact ⟨rfl, grown_below (unhide HG3)⟩
end Go.Proofs.Ytdhgfbdanijgaaa
