/-
  A list of items that came in, as the row's step hands it over.
-/
import Derived.Test.YtmomfopbdpgcgabRunSpec3
import Derived.OpenShut
import Derived.Deep.SlicePairs
namespace Go.Proofs.Ytmomfopbdpgcgab
open Go.RowKit Go.ChangeShapes Go.WideShapes Go.Deep

set_option maxRecDepth 100000 in
theorem items_open {H : Type} {enc : TypeId × Value → H} {W : World} {base : Nat} {spare : Nat → Bool} {held : Bool} {ao : Option Addr} {n cap : Nat} {d : DataW H} {ps : List MemPlace}
    (h : DataW.Trod enc Try.prog W base spare held 22 (.slice ao n cap) d ps) : ∃ I : List It, RdT W ao n I ∧ n ≤ maxLen := by
  have ci : Try.prog.cellsOf 3 = 1 := by kernel_rfl
  have ce : Try.prog.cellsOf 40 = 3 := by kernel_rfl
  obtain ⟨fuel, hf⟩ := h
  rcases open_slice Try.underlying22 hf with ⟨hcs, _⟩ | ⟨a, len, cap', m, k, D, Pl, hcs, _, hle, hmx, hmm, _, hall⟩
  · simp [Value.cells] at hcs
    obtain ⟨rfl, rfl, rfl⟩ := hcs
    exact ⟨[], ⟨rfl, fun i hi => absurd hi (by omega)⟩, by unfold maxLen; omega⟩
  · simp [Value.cells] at hcs
    obtain ⟨rfl, rfl, rfl⟩ := hcs
    have hlm : n ≤ m := by rw [hmm]; split <;> omega
    have hch : ∀ i, ∃ q : It, i < n → W.cell? (a.add (i * 3)) = some (.int .i64 q.1) ∧ W.cell? (a.add (i * 3 + 1)) = some (.int .i64 q.2.1) ∧ W.cell? (a.add (i * 3 + 2)) = some (.int .i64 q.2.2) := by
      intro i
      by_cases hi : i < n
      · obtain ⟨cs', h1, h2⟩ := hall i (by omega)
        rw [ce] at h1
        obtain ⟨_, hlen', hcell⟩ := World.cells?_some h1
        obtain ⟨ys, k', _, _, _, hyl, hfe⟩ := DataW.trod_struct Try.underlying40 h2
        obtain ⟨y0, y1, y2, rfl⟩ : ∃ y0 y1 y2, ys = [y0, y1, y2] := by
          match ys, hyl with
          | [y0, y1, y2], _ => exact ⟨y0, y1, y2, rfl⟩
        match cs', hlen' with
        | [v0, v1, v2], _ =>
          have f0 := hfe 0 _ rfl
          have f1 := hfe 1 _ rfl
          have f2 := hfe 2 _ rfl
          simp [ci] at f0 f1 f2
          obtain ⟨q0, e0, _, _⟩ := DataW.trod_int Try.underlying3 f0
          obtain ⟨q1, e1, _, _⟩ := DataW.trod_int Try.underlying3 f1
          obtain ⟨q2, e2, _, _⟩ := DataW.trod_int Try.underlying3 f2
          simp at e0 e1 e2
          subst e0 e1 e2
          have c0 := hcell 0 (by decide)
          have c1 := hcell 1 (by decide)
          have c2 := hcell 2 (by decide)
          rw [add_add] at c0 c1 c2
          exact ⟨(q0, q1, q2), fun _ => ⟨by simpa using c0, by simpa using c1, by simpa using c2⟩⟩
      · exact ⟨(0, 0, 0), fun h => absurd h hi⟩
    obtain ⟨C, hC⟩ := Classical.axiomOfChoice hch
    refine ⟨(List.range n).map C, ⟨by simp, fun i hi => ?_⟩, by omega⟩
    obtain ⟨b, off, spot⟩ := a
    have hspot : spot = none := by
      have := (hC 0 (by omega)).1
      simpa [Addr.add] using World.cell?_spot this
    subst hspot
    have e : ((List.range n).map C).getD i (0, 0, 0) = C i := by simp [hi]
    rw [e]
    obtain ⟨c0, c1, c2⟩ := hC i hi
    rw [Addr.add_lit] at c0 c1 c2
    exact ⟨b, off, rfl, c0, by rw [Nat.add_assoc]; exact c1, by rw [Nat.add_assoc]; exact c2⟩

end Go.Proofs.Ytmomfopbdpgcgab
