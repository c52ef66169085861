/-
  Rows of structs of so many cells each, told by their places.
-/
import Derived.Test.YtgknninkfdgebaaKit
namespace Go.Proofs.Ytgknninkfdgebaa
open Go.RowKit

/-- The cells of n structs of k cells each: cell j of struct i is f i j. -/
def rowsK (n k : Nat) (f : Nat → Nat → Value) : List Value := (List.range (n * k)).map (fun c => f (c / k) (c % k))
theorem rowsK_len (n k : Nat) (f : Nat → Nat → Value) : (rowsK n k f).length = n * k := by simp [rowsK]
theorem cell_place {k i j : Nat} (hj : j < k) : (i * k + j) / k = i ∧ (i * k + j) % k = j := by
  constructor
  · rw [Nat.mul_comm, Nat.mul_add_div (by omega), Nat.div_eq_of_lt hj, Nat.add_zero]
  · rw [Nat.mul_comm, Nat.mul_add_mod, Nat.mod_eq_of_lt hj]
theorem place_lt {n k i j : Nat} (hi : i < n) (hj : j < k) : i * k + j < n * k := by
  have h : (i + 1) * k ≤ n * k := Nat.mul_le_mul_right k hi
  rw [Nat.add_mul, Nat.one_mul] at h
  omega
theorem rowsK_get (n k : Nat) (f : Nat → Nat → Value) (i j : Nat) (hi : i < n) (hj : j < k) : (rowsK n k f)[i * k + j]? = some (f i j) := by
  unfold rowsK
  rw [List.getElem?_map, List.getElem?_range (place_lt hi hj), Option.map_some, (cell_place hj).1, (cell_place hj).2]
theorem rowsK_congr {n k : Nat} {f g : Nat → Nat → Value} (h : ∀ i j, i < n → j < k → f i j = g i j) : rowsK n k f = rowsK n k g := by
  unfold rowsK
  apply List.map_congr_left
  intro c hc
  have hc' := List.mem_range.1 hc
  have hk : 0 < k := by
    rcases Nat.eq_zero_or_pos k with e | e
    · subst e; simp at hc'
    · exact e
  exact h _ _ (Nat.div_lt_of_lt_mul (by rw [Nat.mul_comm]; exact hc')) (Nat.mod_lt _ hk)
/-- One cell changed. -/
theorem rowsK_set (n k : Nat) (f : Nat → Nat → Value) (i j : Nat) (u : Value) (hj : j < k) : (rowsK n k f).set (i * k + j) u = rowsK n k (fun a b => if a = i ∧ b = j then u else f a b) := by
  apply List.ext_getElem?
  intro c
  rw [List.getElem?_set]
  by_cases hc : c < n * k
  · have hk : 0 < k := by omega
    have hd : c = (c / k) * k + c % k := by have := Nat.div_add_mod c k; rw [Nat.mul_comm] at this; omega
    have hi' : c / k < n := Nat.div_lt_of_lt_mul (by rw [Nat.mul_comm]; exact hc)
    have hm : c % k < k := Nat.mod_lt _ hk
    have e1 : (rowsK n k f)[c]? = some (f (c / k) (c % k)) := by
      have := rowsK_get n k f (c / k) (c % k) hi' hm
      rwa [← hd] at this
    have e2 : (rowsK n k (fun a b => if a = i ∧ b = j then u else f a b))[c]? = some (if c / k = i ∧ c % k = j then u else f (c / k) (c % k)) := by
      have := rowsK_get n k (fun a b => if a = i ∧ b = j then u else f a b) (c / k) (c % k) hi' hm
      rwa [← hd] at this
    rw [e1, e2, rowsK_len]
    by_cases h : i * k + j = c
    · subst h
      rw [if_pos rfl, if_pos hc, if_pos (cell_place hj)]
    · rw [if_neg h, if_neg (fun e => h (by rw [← e.1, ← e.2]; exact hd.symm))]
  · rw [List.getElem?_eq_none (by rw [rowsK_len]; omega), List.getElem?_eq_none (by rw [rowsK_len]; omega), rowsK_len]
    split
    · rw [if_neg (by omega)]
    · rfl
/-- What is made anew. -/
theorem madeK (z : Array Value) (n : Nat) (hz : 0 < z.size) : (madeCells z (n * z.size)).toList = rowsK n z.size (fun _ b => z.getD b default) := by
  apply List.ext_getElem?
  intro c
  by_cases hc : c < n * z.size
  · have hm : c % z.size < z.size := Nat.mod_lt _ hz
    simp [madeCells, rowsK, hc, hm]
  · simp [madeCells, rowsK, hc]

theorem own_sameAt {w w' : World} {base : Nat} {e : TypeId} {size : Nat} {v : Value} {n : Nat} {xs : List Value} (h : w.ownsRow base e size v n xs) (hs : ∀ g, v.ownBlock = some g → w'.heap[g]? = w.heap[g]?) : w'.ownsRow base e size v n xs := by
  obtain ⟨h1, h2⟩ := h
  refine ⟨h1, ?_⟩
  rcases h2 with h2 | ⟨g, cap, cur, hv, hg, hh, r⟩
  · exact .inl h2
  · exact .inr ⟨g, cap, cur, hv, hg, by rw [hs g (by rw [hv]; rfl)]; exact hh, r⟩

/-- A world that is as it was outside of some rows, told by their numbers. -/
structure Kp (lo hi : Nat) (w w' : World) : Prop where
  os : w'.os = w.os
  tape : w'.tape = w.tape
  output : w'.output = w.output
  size : w.heap.size ≤ w'.heap.size
  block : ∀ k, k < w.heap.size → (k < lo ∨ hi ≤ k) → w'.heap[k]? = w.heap[k]?
theorem Kp.refl (lo hi : Nat) (w : World) : Kp lo hi w w := ⟨rfl, rfl, rfl, Nat.le_refl _, fun _ _ _ => rfl⟩
theorem Kp.trans {lo hi : Nat} {a b c : World} (h : Kp lo hi a b) (g : Kp lo hi b c) : Kp lo hi a c :=
  ⟨g.os.trans h.os, g.tape.trans h.tape, g.output.trans h.output, Nat.le_trans h.size g.size, fun k hk hr => (g.block k (Nat.lt_of_lt_of_le hk h.size) hr).trans (h.block k hk hr)⟩
theorem Kp.of {lo hi : Nat} {a b : World} {row : Option Nat} (h : a.grownBy b row) (hr : ∀ g, row = some g → lo ≤ g ∧ g < hi) : Kp lo hi a b :=
  ⟨h.os, h.tape, h.output, h.size, fun k hk hk' => h.block k hk (fun e => by have := hr k e.symm; omega)⟩
theorem Kp.new {lo hi : Nat} {a b c : World} (h : a.grownBy b none) (g : Kp lo hi b c) (hlo : a.heap.size ≤ lo) : a.grownBy c none :=
  ⟨g.os.trans h.os, g.tape.trans h.tape, g.output.trans h.output, Nat.le_trans h.size g.size, fun k hk _ => (g.block k (Nat.lt_of_lt_of_le hk h.size) (.inl (by omega))).trans (h.block k hk (by simp))⟩

end Go.Proofs.Ytgknninkfdgebaa
