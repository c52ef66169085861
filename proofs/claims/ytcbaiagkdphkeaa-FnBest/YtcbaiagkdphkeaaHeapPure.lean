/-
  A heap, as mathematics: what goes up and what goes down in it.
-/
import Derived.Test.YtcbaiagkdphkeaaBestPure3
import Derived.Test.YtcbaiagkdphkeaaRows
namespace Go.Proofs.Ytcbaiagkdphkeaa
open Go.RowKit

/-- A thing of the program as it lies in memory: what it weighs, where its symbols are, and when it came. -/
structure Hp where
  w : Int
  co : Option Addr
  cap : Nat
  ss : List Int
  c : Int
instance : Inhabited Hp := ⟨⟨0, none, 0, [], 0⟩⟩

def ltH (a b : Hp) : Bool := decide (a.w < b.w ∨ (a.w = b.w ∧ a.c < b.c))
theorem ltH_asymm {a b : Hp} (h : ltH a b = true) : ltH b a = false := by
  simp only [ltH, decide_eq_true_eq, decide_eq_false_iff_not] at *; omega
theorem ltH_trans {a b c : Hp} (h1 : ltH a b = true) (h2 : ltH b c = true) : ltH a c = true := by
  simp only [ltH, decide_eq_true_eq] at *; omega
theorem ltH_neg {a b c : Hp} (h1 : ltH a b = false) (h2 : ltH b c = false) : ltH a c = false := by
  simp only [ltH, decide_eq_false_iff_not] at *; omega

def at_ (L : List Hp) (k : Nat) : Hp := L.getD k default
def swapL (L : List Hp) (i j : Nat) : List Hp := (L.set i (at_ L j)).set j (at_ L i)
theorem swapL_len (L : List Hp) (i j : Nat) : (swapL L i j).length = L.length := by simp [swapL]
theorem swapL_at (L : List Hp) (i j k : Nat) (hi : i < L.length) (hj : j < L.length) : at_ (swapL L i j) k = if k = j then at_ L i else if k = i then at_ L j else at_ L k := by
  unfold swapL at_
  simp only [List.getD_eq_getElem?_getD, List.getElem?_set]
  by_cases h1 : k = j
  · subst h1; simp [hj]
  · by_cases h2 : k = i
    · subst h2; simp [hi, Ne.symm h1, h1]
    · simp [Ne.symm h1, Ne.symm h2, h1, h2]
theorem swapL_perm (L : List Hp) (i j : Nat) (hi : i < L.length) (hj : j < L.length) : (swapL L i j).Perm L := by
  have e1 : at_ L i = L[i] := by simp [at_, hi]
  have e2 : at_ L j = L[j] := by simp [at_, hj]
  unfold swapL
  rw [e1, e2]
  exact List.set_set_perm hi hj

/-- No thing is less than the one above it, among the first n. -/
def HeapN (L : List Hp) (n : Nat) : Prop := ∀ k, 0 < k → k < n → ltH (at_ L k) (at_ L ((k - 1) / 2)) = false
/-- So but at j, which may go up. -/
def HeapUp (L : List Hp) (n j : Nat) : Prop :=
  (∀ k, 0 < k → k < n → k ≠ j → ltH (at_ L k) (at_ L ((k - 1) / 2)) = false) ∧
  ∀ k, 0 < k → k < n → (k - 1) / 2 = j → 0 < j → ltH (at_ L k) (at_ L ((j - 1) / 2)) = false
/-- So but below i, which may go down. -/
def HeapDn (L : List Hp) (n i : Nat) : Prop :=
  (∀ k, 0 < k → k < n → (k - 1) / 2 ≠ i → ltH (at_ L k) (at_ L ((k - 1) / 2)) = false) ∧
  ∀ k, 0 < k → k < n → (k - 1) / 2 = i → 0 < i → ltH (at_ L k) (at_ L ((i - 1) / 2)) = false

theorem heap_up_top {L : List Hp} {n : Nat} (h : HeapUp L n 0) : HeapN L n := fun k h0 hk => h.1 k h0 hk (by omega)
theorem heap_up_end {L : List Hp} {n j : Nat} (h : HeapUp L n j) (hl : ltH (at_ L j) (at_ L ((j - 1) / 2)) = false) : HeapN L n := fun k h0 hk => by
  by_cases e : k = j
  · subst e; exact hl
  · exact h.1 k h0 hk e
theorem heap_up_step {L : List Hp} {n j : Nat} (h : HeapUp L n j) (hn : n ≤ L.length) (hj : j < n) (h0 : 0 < j) (hl : ltH (at_ L j) (at_ L ((j - 1) / 2)) = true) : HeapUp (swapL L ((j - 1) / 2) j) n ((j - 1) / 2) := by
  obtain ⟨i, hi⟩ : ∃ i, i = (j - 1) / 2 := ⟨_, rfl⟩
  rw [← hi] at hl ⊢
  have hsw := fun k => swapL_at L i j k (by omega) (by omega)
  refine ⟨fun k h1 h2 h3 => ?_, fun k h1 h2 h3 h4 => ?_⟩
  · rw [hsw, hsw]
    by_cases e : k = j
    · subst e
      rw [if_pos rfl, ← hi, if_neg (by omega), if_pos rfl]
      exact ltH_asymm hl
    · rw [if_neg e, if_neg h3]
      by_cases e2 : (k - 1) / 2 = j
      · rw [if_pos e2, hi]
        exact h.2 k h1 h2 e2 h0
      · rw [if_neg e2]
        by_cases e3 : (k - 1) / 2 = i
        · rw [if_pos e3]
          have hk := h.1 k h1 h2 e
          rw [e3] at hk
          cases hc : ltH (at_ L k) (at_ L j) with
          | false => rfl
          | true => rw [ltH_trans hc hl] at hk; simp at hk
        · rw [if_neg e3]
          exact h.1 k h1 h2 e
  · rw [hsw, hsw]
    have hp : ltH (at_ L i) (at_ L ((i - 1) / 2)) = false := h.1 i (by omega) (by omega) (by omega)
    rw [if_neg (show (i - 1) / 2 ≠ j by omega), if_neg (show (i - 1) / 2 ≠ i by omega)]
    by_cases e : k = j
    · rw [if_pos e]; exact hp
    · rw [if_neg e, if_neg (show k ≠ i by omega)]
      have hk := h.1 k h1 h2 e
      rw [h3] at hk
      exact ltH_neg hk hp

theorem heap_dn_end {L : List Hp} {n i : Nat} (h : HeapDn L n i) (hl : n ≤ 2 * i + 1) : HeapN L n := fun k h0 hk => h.1 k h0 hk (by omega)
theorem heap_dn_stop {L : List Hp} {n i : Nat} (h : HeapDn L n i) (h1 : ltH (at_ L (2 * i + 1)) (at_ L i) = false) (h2 : 2 * i + 2 < n → ltH (at_ L (2 * i + 2)) (at_ L i) = false) : HeapN L n := fun k h0 hk => by
  by_cases e : (k - 1) / 2 = i
  · rcases (show k = 2 * i + 1 ∨ k = 2 * i + 2 by omega) with rfl | rfl
    · rw [e]; exact h1
    · rw [e]; exact h2 hk
  · exact h.1 k h0 hk e
theorem heap_dn_step {L : List Hp} {n i j : Nat} (h : HeapDn L n i) (hn : n ≤ L.length) (hj : j < n) (hji : j = 2 * i + 1 ∨ j = 2 * i + 2) (hl : ltH (at_ L j) (at_ L i) = true) (ho : ∀ k, 0 < k → k < n → (k - 1) / 2 = i → ltH (at_ L k) (at_ L j) = false) : HeapDn (swapL L i j) n j := by
  have hsw := fun k => swapL_at L i j k (by omega) (by omega)
  refine ⟨fun k h1 h2 h3 => ?_, fun k h1 h2 h3 h4 => ?_⟩
  · rw [hsw, hsw, if_neg h3]
    by_cases e : k = j
    · subst e
      rw [if_pos rfl, if_pos (by omega)]
      exact ltH_asymm hl
    · rw [if_neg e]
      by_cases e2 : k = i
      · subst e2
        rw [if_pos rfl, if_neg (by omega)]
        exact h.2 j (by omega) hj (by omega) (by omega)
      · rw [if_neg e2]
        by_cases e3 : (k - 1) / 2 = i
        · rw [if_pos e3]; exact ho k h1 h2 e3
        · rw [if_neg e3]; exact h.1 k h1 h2 e3
  · rw [hsw, hsw, if_neg (show k ≠ j by omega), if_neg (show k ≠ i by omega), if_neg (show (j - 1) / 2 ≠ j by omega), if_pos (by omega)]
    have := h.1 k h1 h2 (by omega)
    rwa [h3] at this

theorem heap_root {L : List Hp} {n : Nat} (h : HeapN L n) : ∀ k, k < n → ltH (at_ L k) (at_ L 0) = false := by
  intro k
  induction k using Nat.strongRecOn with
  | ind k ih =>
    intro hk
    by_cases h0 : k = 0
    · subst h0; simp [ltH]
    · exact ltH_neg (h k (by omega) hk) (ih ((k - 1) / 2) (by omega) (by omega))
theorem heap_congr {L M : List Hp} {n : Nat} (h : HeapN L n) (e : ∀ k, k < n → at_ M k = at_ L k) : HeapN M n := fun k h0 hk => by
  rw [e k hk, e _ (by omega)]; exact h k h0 hk
/-- One more behind a heap may go up. -/
theorem heap_add {L : List Hp} (h : HeapN L L.length) (x : Hp) : HeapUp (L ++ [x]) (L.length + 1) L.length := by
  have e : ∀ k, k < L.length → at_ (L ++ [x]) k = at_ L k := fun k hk => by simp [at_, List.getElem?_append, hk]
  refine ⟨fun k h0 hk hne => ?_, fun k h0 hk hp _ => by omega⟩
  rw [e k (by omega), e _ (by omega)]
  exact h k h0 (by omega)
/-- The last one in the first one's place may go down. -/
theorem heap_take {L : List Hp} {n : Nat} (h : HeapN L (n + 1)) (hl : L.length = n + 1) : HeapDn (swapL L 0 n) n 0 := by
  have hsw := fun k => swapL_at L 0 n k (by omega) (by omega)
  refine ⟨fun k h0 hk hne => ?_, fun k h0 hk hp h => by omega⟩
  rw [hsw, hsw, if_neg (by omega), if_neg (by omega), if_neg (by omega), if_neg hne]
  exact h k h0 (by omega)

end Go.Proofs.Ytcbaiagkdphkeaa
