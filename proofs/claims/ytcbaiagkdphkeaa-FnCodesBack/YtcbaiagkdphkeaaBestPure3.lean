/-
  Lens and freqs of symbols, as mathematics: what may be, the order of the symbols, the best lens, what lens cost.
-/
import Derived.Test.YtcbaiagkdphkeaaBestPure2
namespace Go.Proofs.Ytcbaiagkdphkeaa

theorem sumF_back : ∀ (n : Nat) (f : Nat → Nat), sumF (n + 1) f = sumF n f + f n
  | 0, f => by simp [sumF]
  | n + 1, f => by
    show f 0 + sumF (n + 1) (fun i => f (i + 1)) = (f 0 + sumF n (fun i => f (i + 1))) + f (n + 1)
    rw [sumF_back n]; omega
theorem sumN_back : ∀ (n : Nat) (f : Nat → Int), sumN (n + 1) f = sumN n f + f n
  | 0, f => by simp [sumN]
  | n + 1, f => by
    show f 0 + sumN (n + 1) (fun i => f (i + 1)) = (f 0 + sumN n (fun i => f (i + 1))) + f (n + 1)
    rw [sumN_back n]; omega
theorem sumN_le : ∀ (n : Nat) (f g : Nat → Int), (∀ i, i < n → f i ≤ g i) → sumN n f ≤ sumN n g
  | 0, _, _, _ => Int.le_refl _
  | n + 1, f, g, h => by
    have h1 := h 0 (by omega)
    have h2 := sumN_le n _ _ (fun i hi => h (i + 1) (by omega))
    show f 0 + sumN n (fun i => f (i + 1)) ≤ g 0 + sumN n (fun i => g (i + 1))
    omega

/-- What a len takes of 65536. -/
def kr (x : Int) : Nat := if 0 < x then 2 ^ (16 - x.toNat) else 0
def krS (xs : List Int) : Nat := sumF xs.length (fun i => kr (xs.getD i 0))
def lenB (x : Int) : Bool := decide (0 ≤ x ∧ x ≤ 16)
def lensB (xs : List Int) : Bool := decide (xs.length ≤ 256) && xs.all lenB && decide (0 < krS xs ∧ krS xs ≤ 65536)
def freqB (x : Int) : Bool := decide (0 ≤ x ∧ x ≤ 1000000)
def freqsB (fs : List Int) : Bool := decide (fs.length ≤ 256) && fs.all freqB && fs.any (fun x => decide (0 < x))
theorem all_get {p : Int → Bool} {xs : List Int} (h : xs.all p = true) (i : Nat) (hi : i < xs.length) : p (xs.getD i 0) = true := by
  have e : xs.getD i 0 = xs[i] := by simp [hi]
  rw [e]
  exact List.all_eq_true.1 h _ (List.getElem_mem hi)

/-- Where a symbol goes among those that are there. -/
def posB (g : Nat → Int) (v : Int) (l : List Nat) : Nat → Nat
  | 0 => 0
  | k + 1 => if v < g (l.getD k 0) then posB g v l k else k + 1
def putAt (l : List Nat) (k i : Nat) : List Nat := l.take k ++ ([i] ++ l.drop k)
def orderTo (fs : List Int) : Nat → List Nat
  | 0 => []
  | i + 1 => if fs.getD i 0 = 0 then orderTo fs i else putAt (orderTo fs i) (posB (fun s => fs.getD s 0) (fs.getD i 0) (orderTo fs i) (orderTo fs i).length) i
def orderG (fs : List Int) : List Nat := orderTo fs fs.length

theorem posB_le (g : Nat → Int) (v : Int) (l : List Nat) : ∀ k, posB g v l k ≤ k
  | 0 => Nat.le_refl _
  | k + 1 => by have := posB_le g v l k; unfold posB; split <;> omega
theorem posB_above (g : Nat → Int) (v : Int) (l : List Nat) : ∀ k j, posB g v l k ≤ j → j < k → v < g (l.getD j 0)
  | 0, j, _, h => by omega
  | k + 1, j, h1, h2 => by
    unfold posB at h1
    split at h1
    · rename_i h
      by_cases e : j = k
      · subst e; exact h
      · exact posB_above g v l k j h1 (by omega)
    · omega
theorem posB_below (g : Nat → Int) (v : Int) (l : List Nat) : ∀ k, 0 < posB g v l k → g (l.getD (posB g v l k - 1) 0) ≤ v
  | 0, h => by simp [posB] at h
  | k + 1, h => by
    unfold posB at h ⊢
    split at h
    · rename_i hc
      rw [if_pos hc]
      exact posB_below g v l k h
    · rename_i hc
      rw [if_neg hc]
      show g (l.getD (k + 1 - 1) 0) ≤ v
      rw [Nat.add_sub_cancel]
      omega
/-- Symbols in the order of what they come to. -/
def RisesN (g : Nat → Int) (l : List Nat) : Prop := ∀ i j, i ≤ j → j < l.length → g (l.getD i 0) ≤ g (l.getD j 0)
theorem putAt_len (l : List Nat) (k i : Nat) : (putAt l k i).length = l.length + 1 := by unfold putAt; simp; omega
theorem putAt_at (l : List Nat) (k i : Nat) (hk : k ≤ l.length) (j : Nat) : (putAt l k i).getD j 0 = if j < k then l.getD j 0 else if j = k then i else l.getD (j - 1) 0 := by
  unfold putAt
  rw [List.getD_eq_getElem?_getD, List.getElem?_append]
  have hl : (l.take k).length = k := by simp; omega
  rw [hl]
  by_cases h1 : j < k
  · rw [if_pos h1, if_pos h1, List.getElem?_take, if_pos h1, List.getD_eq_getElem?_getD]
  · rw [if_neg h1, if_neg h1]
    by_cases h2 : j = k
    · rw [if_pos h2, h2, Nat.sub_self]; rfl
    · rw [if_neg h2]
      obtain ⟨d, rfl⟩ : ∃ d, j = k + 1 + d := ⟨j - (k + 1), by omega⟩
      have e : k + 1 + d - k = d + 1 := by omega
      rw [e]
      show ((l.drop k)[d]?).getD 0 = _
      rw [List.getElem?_drop, List.getD_eq_getElem?_getD]
      congr 2
      omega
theorem putAt_rises {g : Nat → Int} {l : List Nat} {i : Nat} (h : RisesN g l) : RisesN g (putAt l (posB g (g i) l l.length) i) := by
  have hk := posB_le g (g i) l l.length
  have ha := posB_above g (g i) l l.length
  have hb := posB_below g (g i) l l.length
  generalize posB g (g i) l l.length = k at *
  intro x y hxy hy
  rw [putAt_len] at hy
  rw [putAt_at l k i hk, putAt_at l k i hk]
  by_cases h1 : y < k
  · rw [if_pos h1, if_pos (by omega)]
    exact h x y hxy (by omega)
  · rw [if_neg h1]
    by_cases h2 : y = k
    · rw [if_pos h2]
      by_cases h3 : x < k
      · rw [if_pos h3]
        have h4 := hb (by omega)
        have h5 := h x (k - 1) (by omega) (by omega)
        omega
      · rw [if_neg h3, if_pos (by omega)]; exact Int.le_refl _
    · rw [if_neg h2]
      by_cases h3 : x < k
      · rw [if_pos h3]
        exact h x (y - 1) (by omega) (by omega)
      · rw [if_neg h3]
        by_cases h4 : x = k
        · rw [if_pos h4]
          have := ha (y - 1) (by omega) (by omega)
          omega
        · rw [if_neg h4]
          exact h (x - 1) (y - 1) (by omega) (by omega)
theorem order_rises (fs : List Int) : ∀ i, RisesN (fun s => fs.getD s 0) (orderTo fs i)
  | 0 => fun x y _ hy => by simp [orderTo] at hy
  | i + 1 => by
    unfold orderTo
    split
    · exact order_rises fs i
    · exact putAt_rises (g := fun s => fs.getD s 0) (order_rises fs i)
theorem putAt_mem (l : List Nat) (k i x : Nat) : x ∈ putAt l k i ↔ x = i ∨ x ∈ l := by
  unfold putAt
  rw [List.mem_append, List.mem_append]
  constructor
  · rintro (h | h | h)
    · exact .inr (List.mem_of_mem_take h)
    · exact .inl (by simpa using h)
    · exact .inr (List.mem_of_mem_drop h)
  · rintro (rfl | h)
    · exact .inr (.inl (by simp))
    · rw [← List.take_append_drop k l] at h
      rcases List.mem_append.1 h with h | h
      · exact .inl h
      · exact .inr (.inr h)
theorem order_mem (fs : List Int) : ∀ i x, x ∈ orderTo fs i ↔ x < i ∧ fs.getD x 0 ≠ 0
  | 0, x => by simp [orderTo]
  | i + 1, x => by
    unfold orderTo
    split
    · rename_i h
      rw [order_mem fs i x]
      constructor
      · rintro ⟨h1, h2⟩; exact ⟨by omega, h2⟩
      · rintro ⟨h1, h2⟩
        refine ⟨?_, h2⟩
        by_cases e : x = i
        · subst e; exact absurd h h2
        · omega
    · rename_i h
      rw [putAt_mem, order_mem fs i x]
      constructor
      · rintro (rfl | ⟨h1, h2⟩)
        · exact ⟨by omega, h⟩
        · exact ⟨by omega, h2⟩
      · rintro ⟨h1, h2⟩
        by_cases e : x = i
        · exact .inl e
        · exact .inr ⟨by omega, h2⟩
theorem putAt_nodup {l : List Nat} {k i : Nat} (h : l.Nodup) (hi : i ∉ l) : (putAt l k i).Nodup := by
  unfold putAt
  rw [← List.take_append_drop k l] at h hi
  rw [List.nodup_append] at h ⊢
  rw [List.mem_append] at hi
  refine ⟨h.1, ?_, ?_⟩
  · rw [List.singleton_append, List.nodup_cons]
    exact ⟨fun e => hi (.inr e), h.2.1⟩
  · intro a ha b hb
    rw [List.singleton_append, List.mem_cons] at hb
    rcases hb with rfl | hb
    · exact fun e => hi (.inl (e ▸ ha))
    · exact h.2.2 a ha b hb
theorem order_nodup (fs : List Int) : ∀ i, (orderTo fs i).Nodup
  | 0 => by simp [orderTo]
  | i + 1 => by
    unfold orderTo
    split
    · exact order_nodup fs i
    · exact putAt_nodup (order_nodup fs i) (fun h => by have := ((order_mem fs i i).1 h).1; omega)
theorem order_le (fs : List Int) : ∀ i, (orderTo fs i).length ≤ i
  | 0 => Nat.le_refl _
  | i + 1 => by
    have := order_le fs i
    unfold orderTo
    split
    · omega
    · rw [putAt_len]; omega

/-- Sums over a list's members. -/
def sumM (l : List Nat) (f : Nat → Int) : Int := sumN l.length (fun k => f (l.getD k 0))
def sumMF (l : List Nat) (f : Nat → Nat) : Nat := sumF l.length (fun k => f (l.getD k 0))
theorem sumM_cons (x : Nat) (l : List Nat) (f : Nat → Int) : sumM (x :: l) f = f x + sumM l f := rfl
theorem sumMF_cons (x : Nat) (l : List Nat) (f : Nat → Nat) : sumMF (x :: l) f = f x + sumMF l f := rfl
theorem sumM_app : ∀ (l m : List Nat) (f : Nat → Int), sumM (l ++ m) f = sumM l f + sumM m f
  | [], m, f => by simp [sumM, sumN]
  | x :: l, m, f => by rw [List.cons_append, sumM_cons, sumM_cons, sumM_app l m f]; omega
theorem sumMF_app : ∀ (l m : List Nat) (f : Nat → Nat), sumMF (l ++ m) f = sumMF l f + sumMF m f
  | [], m, f => by simp [sumMF, sumF]
  | x :: l, m, f => by rw [List.cons_append, sumMF_cons, sumMF_cons, sumMF_app l m f]; omega
theorem sumM_put (l : List Nat) (k i : Nat) (f : Nat → Int) : sumM (putAt l k i) f = sumM l f + f i := by
  unfold putAt
  have e : sumM l f = sumM (l.take k) f + sumM (l.drop k) f := by rw [← sumM_app, List.take_append_drop]
  rw [sumM_app, List.singleton_append, sumM_cons, e]; omega
theorem sumMF_put (l : List Nat) (k i : Nat) (f : Nat → Nat) : sumMF (putAt l k i) f = sumMF l f + f i := by
  unfold putAt
  have e : sumMF l f = sumMF (l.take k) f + sumMF (l.drop k) f := by rw [← sumMF_app, List.take_append_drop]
  rw [sumMF_app, List.singleton_append, sumMF_cons, e]; omega
theorem order_sum (fs : List Int) (f : Nat → Int) (h : ∀ s, fs.getD s 0 = 0 → f s = 0) : ∀ i, sumM (orderTo fs i) f = sumN i f
  | 0 => rfl
  | i + 1 => by
    rw [sumN_back]
    unfold orderTo
    split
    · rename_i h0
      rw [order_sum fs f h i, h i h0]; omega
    · rw [sumM_put, order_sum fs f h i]
theorem order_sumF (fs : List Int) (f : Nat → Nat) (h : ∀ s, fs.getD s 0 = 0 → f s = 0) : ∀ i, sumMF (orderTo fs i) f = sumF i f
  | 0 => rfl
  | i + 1 => by
    rw [sumF_back]
    unfold orderTo
    split
    · rename_i h0
      rw [order_sumF fs f h i, h i h0]; omega
    · rw [sumMF_put, order_sumF fs f h i]

/-- The weights of the coins, and the lens of all symbols out of those of the coins. -/
def coinW (fs : List Int) : List Int := (orderG fs).map fun s => fs.getD s 0
def spread (n : Nat) (order : List Nat) (ls : List Int) : List Int := (List.range n).map fun s => sumN order.length fun k => if order.getD k 0 = s then ls.getD k 0 else 0
def bestG (fs : List Int) : List Int :=
  if freqsB fs then spread fs.length (orderG fs) (if (orderG fs).length = 1 then [1] else lensC (coinW fs)) else []
def costB (fs ls : List Int) : Bool := freqsB fs && lensB ls && decide (fs.length = ls.length) && (List.range fs.length).all fun i => decide (¬ (0 < fs.getD i 0 ∧ ls.getD i 0 = 0))
def costG (fs ls : List Int) : Int := if costB fs ls then sumN fs.length (fun i => fs.getD i 0 * ls.getD i 0) else -1

theorem spread_len (n : Nat) (order : List Nat) (ls : List Int) : (spread n order ls).length = n := by simp [spread]
theorem sum_hit : ∀ (l : List Nat) (f : Nat → Int) (k : Nat), l.Nodup → k < l.length → sumN l.length (fun j => if l.getD j 0 = l.getD k 0 then f j else 0) = f k
  | x :: l, f, 0, hn, _ => by
    show (if x = x then f 0 else 0) + sumN l.length (fun j => if l.getD j 0 = x then f (j + 1) else 0) = f 0
    rw [if_pos rfl]
    have : sumN l.length (fun j => if l.getD j 0 = x then f (j + 1) else 0) = sumN l.length (fun _ => 0) := sumN_congr _ _ _ (fun j hj => by
      have e : l.getD j 0 = l[j] := by simp [hj]
      rw [if_neg (fun h => (List.nodup_cons.1 hn).1 (by rw [← h, e]; exact List.getElem_mem hj))])
    rw [this, sumN_zero, Int.add_zero]
  | x :: l, f, k + 1, hn, hk => by
    have hk' : k < l.length := by simpa using hk
    have ih := sum_hit l (fun j => f (j + 1)) k (List.nodup_cons.1 hn).2 hk'
    show (if x = l.getD k 0 then f 0 else 0) + sumN l.length (fun j => if l.getD j 0 = l.getD k 0 then f (j + 1) else 0) = f (k + 1)
    have e : l.getD k 0 = l[k] := by simp [hk']
    rw [if_neg (fun h => (List.nodup_cons.1 hn).1 (by rw [h, e]; exact List.getElem_mem hk')), ih, Int.zero_add]
theorem sum_miss (l : List Nat) (f : Nat → Int) (s : Nat) (h : s ∉ l) : sumN l.length (fun j => if l.getD j 0 = s then f j else 0) = 0 := by
  refine (sumN_congr _ _ (fun _ => 0) (fun j hj => ?_)).trans (sumN_zero _)
  have e : l.getD j 0 = l[j] := by simp [hj]
  rw [if_neg (fun h2 => h (by rw [← h2, e]; exact List.getElem_mem hj))]
theorem spread_at {n : Nat} {order : List Nat} {ls : List Int} (hn : order.Nodup) {k : Nat} (hk : k < order.length) (ho : order.getD k 0 < n) : (spread n order ls).getD (order.getD k 0) 0 = ls.getD k 0 := by
  have e : (spread n order ls).getD (order.getD k 0) 0 = sumN order.length (fun j => if order.getD j 0 = order.getD k 0 then ls.getD j 0 else 0) := by
    unfold spread
    generalize order.getD k 0 = s at *
    simp [ho]
  rw [e, sum_hit order (fun j => ls.getD j 0) k hn hk]
theorem spread_no {n : Nat} {order : List Nat} {ls : List Int} {s : Nat} (h : s ∉ order) : (spread n order ls).getD s 0 = 0 := by
  by_cases hs : s < n
  · have e : (spread n order ls).getD s 0 = sumN order.length (fun j => if order.getD j 0 = s then ls.getD j 0 else 0) := by
      unfold spread; simp [hs]
    rw [e, sum_miss order (fun j => ls.getD j 0) s h]
  · unfold spread
    rw [List.getD_eq_getElem?_getD, List.getElem?_eq_none (by simp; omega)]
    rfl

end Go.Proofs.Ytcbaiagkdphkeaa
