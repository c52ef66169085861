/-
  Blocks and tables that are ok, in the specification.
-/
import Derived.Test.YtoeehfjbnbbijajDoorTabImpl2
import Derived.Test.YtoeehfjbnbbijajDoorBetween
namespace Go.Proofs.YtoeehfjbnbbijajDoor
open Go.RowKit

theorem nums_all {lo hi : Int} {zs : List Int} (hz : zs.length = 64) (h : ∀ j, j < 64 → lo ≤ zs.getD j 0 ∧ zs.getD j 0 ≤ hi) : numsB lo hi zs = true := by
  simp only [numsB, hz, decide_true, Bool.true_and, List.all_eq_true, decide_eq_true_eq]
  intro n hn
  obtain ⟨i, hi', rfl⟩ := List.getElem_of_mem hn
  have h2 : zs.getD i 0 = zs[i] := by simp [hi']
  rw [← h2]
  exact h i (by omega)
theorem nums_at {lo hi : Int} {zs : List Int} (h : numsB lo hi zs = true) : zs.length = 64 ∧ ∀ j, j < 64 → lo ≤ zs.getD j 0 ∧ zs.getD j 0 ≤ hi := by
  simp only [numsB, Bool.and_eq_true, decide_eq_true_eq, List.all_eq_true] at h
  refine ⟨h.1, fun j hj => ?_⟩
  have hj' : j < zs.length := by omega
  have h2 : zs.getD j 0 = zs[j] := by simp [hj']
  rw [h2]
  exact h.2 _ (List.getElem_mem hj')

end Go.Proofs.YtoeehfjbnbbijajDoor
