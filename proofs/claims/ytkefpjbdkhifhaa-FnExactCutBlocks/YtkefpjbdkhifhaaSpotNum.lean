/-
  Which spot of an area has which number.
-/
import Derived.Test.YtkefpjbdkhifhaaSpots
namespace Go.Proofs.Ytkefpjbdkhifhaa
open Go.RowKit Go.Shelf

theorem sCol_at (r : Nat) : ∀ (k j : Nat), j < k → (sCol r k)[j]? = some (r, j)
  | 0, j, h => by omega
  | k + 1, j, h => by
    rw [sCol]
    by_cases e : j < k
    · rw [List.getElem?_append_left (by rw [sCol_len]; exact e)]
      exact sCol_at r k j e
    · obtain rfl : j = k := by omega
      rw [List.getElem?_append_right (by rw [sCol_len]; exact Nat.le_refl _), sCol_len, Nat.sub_self]
      rfl
theorem sTo_at (W : Nat) : ∀ (H i : Nat) (x : Nat × Nat), (sTo W H)[i]? = some x → x.1 * W + x.2 = i ∧ x.1 < H ∧ x.2 < W
  | 0, i, x, h => by simp [sTo] at h
  | r + 1, i, x, h => by
    rw [sTo] at h
    by_cases e : i < r * W
    · rw [List.getElem?_append_left (by rw [sTo_len]; exact e)] at h
      obtain ⟨h1, h2, h3⟩ := sTo_at W r i x h
      exact ⟨h1, by omega, h3⟩
    · rw [List.getElem?_append_right (by rw [sTo_len]; omega), sTo_len] at h
      have hj : i - r * W < W := by
        have := (List.getElem?_eq_some_iff.1 h).1
        rwa [sCol_len] at this
      rw [sCol_at r W _ hj] at h
      have e2 : (r, i - r * W) = x := Option.some.inj h
      subst e2
      exact ⟨by show r * W + (i - r * W) = i; omega, by show r < r + 1; omega, hj⟩
theorem spot_num {W H : Nat} {pre : List (Nat × Nat)} {x : Nat × Nat} (h : pre ++ [x] <+: sTo W H) : x.1 * W + x.2 = pre.length ∧ x.1 < H ∧ x.2 < W := by
  obtain ⟨rest, e⟩ := h
  refine sTo_at W H pre.length x ?_
  rw [← e, List.append_assoc, List.getElem?_append_right (Nat.le_refl _), Nat.sub_self]
  rfl
theorem spot_less {W H : Nat} {pre : List (Nat × Nat)} {x : Nat × Nat} (h : pre ++ [x] <+: sTo W H) : pre.length < H * W := by
  have := h.length_le
  rw [sTo_len] at this
  simp at this
  omega

end Go.Proofs.Ytkefpjbdkhifhaa
