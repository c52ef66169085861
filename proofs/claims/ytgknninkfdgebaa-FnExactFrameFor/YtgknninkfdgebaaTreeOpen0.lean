/-
  Rows that came in, as the row's step hands them over.
-/
import Derived.Test.YtgknninkfdgebaaDeepC
import Derived.OpenShut
import Derived.Deep.SlicePairs
import Derived.Deep.Slices
namespace Go.Proofs.Ytgknninkfdgebaa
open Go.RowKit Go.ChangeShapes Go.WideShapes Go.Deep

def OpenC {α : Type} (t : TypeId) (Q : World → Value → α → Prop) : Prop :=
  ∀ (H : Type) (enc : TypeId × Value → H) (W : World) (base : Nat) (spare : Nat → Bool) (held : Bool) (fuel : Nat) (u : Value) (x : DataW H × List MemPlace), DataW.trod enc Try.prog W base spare held fuel t [u] = some x → ∃ a, Q W u a

theorem open_row {α : Type} {Q : World → Value → α → Prop} {t e : TypeId} (ht : Try.prog.underlying t = some (.slice e)) (hc : Try.prog.cellsOf e = 1) (he : OpenC e Q) : OpenC t (RdZ (RdR Q)) := by
  intro H enc W base spare held fuel u x h
  rcases open_slice1 ht hc h with ⟨hcs, _⟩ | ⟨a, len, cap, m, n, V, D, Pl, hcs, _, hl, hm, hmm, _, hall⟩
  · simp at hcs
    subst hcs
    exact ⟨[], ⟨none, 0, rfl, fun i hi => absurd hi (by simp)⟩, by unfold maxLen; simp⟩
  · simp at hcs
    subst hcs
    have hlm : len ≤ m := by rw [hmm]; split <;> omega
    obtain ⟨b, off, spot⟩ := a
    have hex : ∀ i, i < len → ∃ q, Q W (V i) q := fun i hi => he H enc W base spare held n (V i) _ (hall i (by omega)).2
    rcases Nat.eq_zero_or_pos len with h0 | h0
    · subst h0
      exact ⟨[], ⟨some ⟨b, off, spot⟩, cap, rfl, fun i hi => absurd hi (by simp)⟩, by unfold maxLen; simp⟩
    · have hspot : spot = none := by simpa [Addr.add] using World.cell?_spot (hall 0 (by omega)).1
      subst hspot
      obtain ⟨q0, _⟩ := hex 0 h0
      have hch : ∀ i, ∃ q : α, i < len → Q W (V i) q := fun i => by
        by_cases hi : i < len
        · obtain ⟨q, hq⟩ := hex i hi; exact ⟨q, fun _ => hq⟩
        · exact ⟨q0, fun h => absurd h hi⟩
      obtain ⟨q, hq⟩ := Classical.axiomOfChoice hch
      refine ⟨(List.range len).map q, ⟨some ⟨b, off, none⟩, cap, by simp, fun i hi => ?_⟩, by simp; omega⟩
      have hi' : i < len := by simpa using hi
      refine ⟨b, off, V i, rfl, ?_, ?_⟩
      · have := (hall i (by omega)).1
        rw [Addr.add_lit] at this
        exact this
      · simp; exact hq i hi'

theorem open_intRow {t : TypeId} (ht : Try.prog.underlying t = some (.slice 3)) : OpenC t (RdZ (RdI .i64)) := by
  intro H enc W base spare held fuel u x h
  rcases open_ints ht Try.underlying3 (by kernel_rfl) h with ⟨hcs, _⟩ | ⟨a, l, c, zs, hcs, _, hl, hm, hz, _, hcell, _⟩
  · simp at hcs
    subst hcs
    exact ⟨[], ⟨none, 0, rfl, rfl, fun i hi => absurd hi (by simp)⟩, by unfold maxLen; simp⟩
  · simp at hcs
    subst hcs
    have hzl : l ≤ zs.length := by rw [hz]; split <;> omega
    have hzt : (zs.take l).length = l := by simp; omega
    refine ⟨zs.take l, ⟨some a, c, by rw [hzt], ?_⟩, by rw [hzt]; omega⟩
    rw [hzt]
    refine ⟨hzt, fun i hi => ?_⟩
    obtain ⟨b, off, spot⟩ := a
    have hc0 := hcell i (by omega)
    have hspot : spot = none := by simpa [Addr.add] using World.cell?_spot (hcell 0 (by omega))
    subst hspot
    refine ⟨b, off, rfl, ?_⟩
    rw [Addr.add_lit] at hc0
    have e : (zs.take l).getD i 0 = zs.getD i 0 := by simp [hi]
    rw [e]
    exact hc0

end Go.Proofs.Ytgknninkfdgebaa
