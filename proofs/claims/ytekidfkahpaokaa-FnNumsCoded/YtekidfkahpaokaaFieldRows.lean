/-
  Rows of fields, as they lie in memory.
-/
import Derived.Test.YtekidfkahpaokaaRows
import Derived.Test.YtekidfkahpaokaaKit
namespace Go.Proofs.Ytekidfkahpaokaa
open Go.RowKit

/-- What is read through a slice of fields. -/
def RdF (w : World) (ao : Option Addr) (n : Nat) (fs : List (Int × Int)) : Prop :=
  fs.length = n ∧ ∀ i, i < n → ∃ b off, ao = some ⟨b, off, none⟩ ∧ w.cell? ⟨b, off + i * 2, none⟩ = some (.int .i64 (fs.getD i (0, 0)).1) ∧ w.cell? ⟨b, off + i * 2 + 1, none⟩ = some (.int .i64 (fs.getD i (0, 0)).2)

theorem RdF.grown {w w' : World} {ao : Option Addr} {n : Nat} {fs : List (Int × Int)} (h : RdF w ao n fs) (hg : w.grownBy w' none) : RdF w' ao n fs :=
  ⟨h.1, fun i hi => by obtain ⟨b, off, e, h1, h2⟩ := h.2 i hi; exact ⟨b, off, e, hg.cell h1 (by simp), hg.cell h2 (by simp)⟩⟩

/-- A slice of fields that came in, as the row's step hands it over. -/
theorem rdF_of_row {w : World} {x : Addr} {n : Nat} {V0 V1 : Nat → Value} (h : ∀ i, i < n → w.cell? (x.add (i * 2)) = some (V0 i) ∧ w.cell? (x.add (i * 2 + 1)) = some (V1 i) ∧ (∃ a, V0 i = .int .i64 a) ∧ ∃ b, V1 i = .int .i64 b) :
    RdF w (some x) n ((List.range n).map (fun i => (intOf (V0 i), intOf (V1 i)))) := by
  refine ⟨by simp, fun i hi => ?_⟩
  obtain ⟨b, off, spot⟩ := x
  have hspot : spot = none := by simpa [Addr.add] using World.cell?_spot (h 0 (by omega)).1
  subst hspot
  obtain ⟨h1, h2, ⟨a1, e1⟩, ⟨a2, e2⟩⟩ := h i hi
  rw [Addr.add_lit] at h1 h2
  refine ⟨b, off, rfl, ?_, ?_⟩
  · rw [h1, e1]; simp [hi, e1, intOf]
  · rw [Nat.add_assoc, h2, e2]; simp [hi, e2, intOf]

/-- The cells of a row of fields. -/
def flat (fs : List (Int × Int)) : List Value := fs.flatMap (fun f => [.int .i64 f.1, .int .i64 f.2])
theorem flat_cons (f : Int × Int) (fs : List (Int × Int)) : flat (f :: fs) = .int .i64 f.1 :: .int .i64 f.2 :: flat fs := by simp [flat]
theorem flat_append (fs gs : List (Int × Int)) : flat (fs ++ gs) = flat fs ++ flat gs := by simp [flat]
theorem flat_len (fs : List (Int × Int)) : (flat fs).length = fs.length * 2 := by
  induction fs with
  | nil => rfl
  | cons f r ih => rw [flat_cons]; simp [ih]; omega
theorem flat_get (fs : List (Int × Int)) : ∀ i, i < fs.length → (flat fs)[i * 2]? = some (.int .i64 (fs.getD i (0, 0)).1) ∧ (flat fs)[i * 2 + 1]? = some (.int .i64 (fs.getD i (0, 0)).2) := by
  induction fs with
  | nil => intro i hi; simp at hi
  | cons f r ih =>
    intro i hi
    rw [flat_cons]
    cases i with
    | zero => simp
    | succ j =>
      have h := ih j (by simpa using hi)
      have e1 : (j + 1) * 2 = j * 2 + 1 + 1 := by omega
      rw [e1]
      simpa using h

/-- What a copy of fields holds behind k rounds. -/
def partF (fs : List (Int × Int)) (k : Nat) : List Value := flat (fs.take k) ++ List.replicate ((fs.length - k) * 2) (.int .i64 0)
theorem partF_all (fs : List (Int × Int)) : partF fs fs.length = flat fs := by simp [partF]
theorem partF_zero (fs : List (Int × Int)) : partF fs 0 = List.replicate (fs.length * 2) (.int .i64 0) := by simp [partF, flat]
theorem partF_set (fs : List (Int × Int)) (k : Nat) (h : k < fs.length) : ((partF fs k).set (k * 2) (.int .i64 (fs.getD k (0, 0)).1)).set (k * 2 + 1) (.int .i64 (fs.getD k (0, 0)).2) = partF fs (k + 1) := by
  have hl : (flat (fs.take k)).length = k * 2 := by rw [flat_len, List.length_take]; omega
  unfold partF
  rw [List.take_succ_eq_append_getElem h, flat_append, List.append_assoc]
  rw [List.set_append_right _ _ (by omega), List.set_append_right _ _ (by omega), hl]
  congr 1
  have e : (fs.length - k) * 2 = (fs.length - (k + 1)) * 2 + 1 + 1 := by omega
  rw [e, List.replicate_succ, List.replicate_succ]
  have e2 : k * 2 + 1 - k * 2 = 1 := by omega
  rw [Nat.sub_self, e2]
  simp [flat, h]

theorem own_rdF {w : World} {base : Nat} {e : TypeId} {ao : Option Addr} {n cap : Nat} {fs : List (Int × Int)} (h : w.ownsRow base e 2 (.slice ao n cap) n (flat fs)) : RdF w ao n fs := by
  have hl : fs.length = n := by have := h.1; rw [flat_len] at this; omega
  refine ⟨hl, fun i hi => ?_⟩
  obtain ⟨g, rfl, _, _⟩ := own_at h (by omega)
  have hg := flat_get fs i (by omega)
  refine ⟨g, 0, rfl, ?_, ?_⟩
  · rw [Nat.zero_add, h.cellAt _ (by omega)]; exact hg.1
  · rw [Nat.zero_add, h.cellAt _ (by omega)]; exact hg.2

theorem madeFields (n : Nat) : (madeCells #[Value.int .i64 0, Value.int .i64 0] (n * 2)).toList = List.replicate (n * 2) (.int .i64 0) := by
  apply List.ext_getElem?
  intro j
  by_cases hj : j < n * 2
  · have : j % 2 = 0 ∨ j % 2 = 1 := by omega
    rcases this with h | h <;> simp [madeCells, hj, h]
  · simp [madeCells, hj]

end Go.Proofs.Ytekidfkahpaokaa
