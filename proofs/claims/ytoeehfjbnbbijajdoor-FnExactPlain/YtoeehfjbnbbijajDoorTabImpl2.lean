/-
  Lists as squares in the program, blocks and tables that are ok.
-/
import Derived.Test.YtoeehfjbnbbijajDoorTabImpl
import Derived.Deep.RegionHeld3
import Derived.Shelf.Abstract
namespace Go.Proofs.YtoeehfjbnbbijajDoor
open Go.RowKit Go.Shelf

theorem z64_one : (#[.int .i64 0, .int .i64 0, .int .i64 0, .int .i64 0, .int .i64 0, .int .i64 0, .int .i64 0, .int .i64 0, .int .i64 0, .int .i64 0, .int .i64 0, .int .i64 0, .int .i64 0, .int .i64 0, .int .i64 0, .int .i64 0, .int .i64 0, .int .i64 0, .int .i64 0, .int .i64 0, .int .i64 0, .int .i64 0, .int .i64 0, .int .i64 0, .int .i64 0, .int .i64 0, .int .i64 0, .int .i64 0, .int .i64 0, .int .i64 0, .int .i64 0, .int .i64 0, .int .i64 0, .int .i64 0, .int .i64 0, .int .i64 0, .int .i64 0, .int .i64 0, .int .i64 0, .int .i64 0, .int .i64 0, .int .i64 0, .int .i64 0, .int .i64 0, .int .i64 0, .int .i64 0, .int .i64 0, .int .i64 0, .int .i64 0, .int .i64 0, .int .i64 0, .int .i64 0, .int .i64 0, .int .i64 0, .int .i64 0, .int .i64 0, .int .i64 0, .int .i64 0, .int .i64 0, .int .i64 0, .int .i64 0, .int .i64 0, .int .i64 0, .int .i64 0] : Array Value).all (·.oneCell') = true := by rw [← sq_z64]; exact sq_one _

/-- A block that is ok, a table that is ok. -/
def numsB (lo hi : Int) (zs : List Int) : Bool := decide (zs.length = 64) && zs.all (fun n => decide (lo ≤ n ∧ n ≤ hi))
theorem clip_same {lo hi : Int} (h : lo ≤ hi) (zs : List Int) (hz : zs.length = 64) : (zs == made (fun k => min (max (zs.getD k 0) lo) hi)) = numsB lo hi zs := by
  rw [Bool.eq_iff_iff]
  simp only [numsB, hz, decide_true, Bool.true_and, beq_iff_eq, List.all_eq_true, decide_eq_true_eq]
  constructor
  · intro e n hn
    obtain ⟨i, hi', rfl⟩ := List.getElem_of_mem hn
    have h1 : zs.getD i 0 = (made (fun k => min (max (zs.getD k 0) lo) hi)).getD i 0 := by rw [← e]
    rw [made_at _ i (by omega)] at h1
    have h2 : zs.getD i 0 = zs[i] := by simp [hi']
    rw [h2] at h1
    omega
  · intro hall
    apply List.ext_getElem?
    intro i
    by_cases hi' : i < zs.length
    · have h1 := hall zs[i] (List.getElem_mem hi')
      rw [List.getElem?_eq_getElem hi', List.getElem?_eq_getElem (by rw [made_len]; omega)]
      simp only [made, List.getElem_map, List.getElem_range, Option.some.injEq]
      have h2 : zs.getD i 0 = zs[i] := by simp [hi']
      rw [h2]
      omega
    · rw [List.getElem?_eq_none (by omega), List.getElem?_eq_none (by rw [made_len]; omega)]

end Go.Proofs.YtoeehfjbnbbijajDoor
