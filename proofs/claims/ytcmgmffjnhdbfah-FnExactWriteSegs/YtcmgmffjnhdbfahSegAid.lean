/-
  Aids for the laws on segments: what came in, and what sizes say.
-/
import Derived.Test.YtcmgmffjnhdbfahSegRows
namespace Go.Proofs.Ytcmgmffjnhdbfah
open Go.RowKit

/-- A slice of segments that came in, as the row's step hands it over. -/
theorem rdS_of_row {w : World} {x : Addr} {n : Nat} {V0 V1 : Nat → Value} (h : ∀ i, i < n → w.cell? (x.add (i * 2)) = some (V0 i) ∧ w.cell? (x.add (i * 2 + 1)) = some (V1 i) ∧ (∃ a, V0 i = .int .i64 a) ∧
    ∃ dd dc zs, V1 i = .slice dd (List.length zs) dc ∧ Rd .u8 w dd zs.length zs ∧ (dd = none → dc = 0) ∧ zs.length ≤ maxLen ∧ ∀ j, 0 ≤ zs.getD j 0 ∧ zs.getD j 0 ≤ 255) :
    ∃ ss, RdS w (some x) n ss ∧ (∀ i, i < n → (ss.getD i (0, [])).2.length ≤ maxLen) ∧ ∀ i, i < n → ∀ j, 0 ≤ (ss.getD i (0, [])).2.getD j 0 ∧ (ss.getD i (0, [])).2.getD j 0 ≤ 255 := by
  have hch : ∀ i, ∃ q : Int × List Int, i < n → V0 i = .int .i64 q.1 ∧ ∃ dd dc, V1 i = .slice dd q.2.length dc ∧ Rd .u8 w dd q.2.length q.2 ∧ (dd = none → dc = 0) ∧ q.2.length ≤ maxLen ∧ ∀ j, 0 ≤ q.2.getD j 0 ∧ q.2.getD j 0 ≤ 255 := by
    intro i
    by_cases hi : i < n
    · obtain ⟨_, _, ⟨a, ha⟩, dd, dc, zs, h1, h2, h3, h4, h5⟩ := h i hi
      exact ⟨(a, zs), fun _ => ⟨ha, dd, dc, h1, h2, h3, h4, h5⟩⟩
    · exact ⟨(0, []), fun h => absurd h hi⟩
  obtain ⟨q, hq⟩ := Classical.axiomOfChoice hch
  have e : ∀ i, i < n → ((List.range n).map q).getD i (0, []) = q i := fun i hi => by simp [hi]
  refine ⟨(List.range n).map q, ⟨by simp, fun i hi => ?_⟩, fun i hi => ?_, fun i hi => ?_⟩
  · obtain ⟨b, off, spot⟩ := x
    have hspot : spot = none := by simpa [Addr.add] using World.cell?_spot (h 0 (by omega)).1
    subst hspot
    obtain ⟨h1, h2, _⟩ := h i hi
    rw [Addr.add_lit] at h1 h2
    obtain ⟨e1, dd, dc, e2, h3, h4, _⟩ := hq i hi
    rw [e i hi]
    exact ⟨b, off, dd, dc, rfl, by rw [h1, e1], by rw [Nat.add_assoc, h2, e2], h3, h4⟩
  · rw [e i hi]
    obtain ⟨_, _, _, _, _, _, h5, _⟩ := hq i hi
    exact h5
  · rw [e i hi]
    obtain ⟨_, _, _, _, _, _, _, h6⟩ := hq i hi
    exact h6

end Go.Proofs.Ytcmgmffjnhdbfah
