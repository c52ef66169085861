/-
  The walks of the law's own comparing, marking and looking for marks, on rows of segments.
-/
import Derived.Test.YticecjodbhhcfaaDoorSegRows
namespace Go.Proofs.YticecjodbhhcfaaDoor
open Go.RowKit

/-- The mark that comes next behind i segments. -/
def posK (k : Int) (ln : Nat → Nat) : Nat → Int
  | 0 => k
  | i + 1 => posK k ln i + 1 + ln i
theorem posK_mono (k : Int) (ln : Nat → Nat) (i : Nat) : ∀ j, i ≤ j → posK k ln i ≤ posK k ln j := by
  intro j h
  induction j with
  | zero => obtain rfl : i = 0 := by omega
            exact Int.le_refl _
  | succ j ih =>
    by_cases e : i = j + 1
    · subst e; exact Int.le_refl _
    · have := ih (by omega)
      rw [posK]; omega
/-- Segments that are marked all over. -/
def markedS (k : Int) (ln : Nat → Nat) (n : Nat) : List (Int × List Int) := (List.range n).map (fun i => (posK k ln i, marks .u8 (posK k ln i + 1) (ln i)))
theorem markedS_get (k : Int) (ln : Nat → Nat) (n i : Nat) (h : i < n) : (markedS k ln n).getD i (0, []) = (posK k ln i, marks .u8 (posK k ln i + 1) (ln i)) := by simp [markedS, h]
theorem markedS_len (k : Int) (ln : Nat → Nat) (n : Nat) : (markedS k ln n).length = n := by simp [markedS]

theorem Dat.congr {w : World} {lo hi k : Nat} {ds ds' : Nat → List Int} {d : Nat → Value} (h : Dat w lo hi ds d k) (he : ∀ i, i < k → ds i = ds' i) : Dat w lo hi ds' d k := by
  intro i hi'
  rw [← he i hi']
  exact h i hi'
/-- Rows of two types are two rows. -/
theorem own_types {w : World} {b b' s s' n n' : Nat} {e e' : TypeId} {v v' : Value} {xs xs' : List Value} (h : w.ownsRow b e s v n xs) (h' : w.ownsRow b' e' s' v' n' xs') (hne : e ≠ e') : ∀ g g', v.ownBlock = some g → v'.ownBlock = some g' → g ≠ g' := by
  intro g g' hg hg' e0
  subst e0
  rcases h.2 with ⟨hv, _⟩ | ⟨q, _, _, hv, _, hh, _⟩
  · rw [hv] at hg; simp [Value.ownBlock] at hg
  · rcases h'.2 with ⟨hv', _⟩ | ⟨q', _, _, hv', _, hh', _⟩
    · rw [hv'] at hg'; simp [Value.ownBlock] at hg'
    · rw [hv] at hg; rw [hv'] at hg'
      simp [Value.ownBlock] at hg hg'
      subst hg; subst hg'
      rw [hh] at hh'
      simp at hh'
      exact hne hh'.2
/-- The data of one segment written anew. -/
theorem Dat.mark {w w' : World} {lo hi n k : Nat} {ds : Nat → List Int} {d : Nat → Value} {ys : List Int} (h : Dat w lo hi ds d n) (hk : k < n) (hg : w.grownBy w' (d k).ownBlock) (ho : w'.ownsRow lo 5 1 (d k) ys.length (ys.map (Value.int .u8))) : Dat w' lo hi (fun i => if i = k then ys else ds i) d n := by
  intro i hi'
  by_cases e : i = k
  · subst e
    simp only [if_true]
    exact ⟨ho, (h i hi').2⟩
  · simp only [if_neg e]
    refine ⟨own_beneath (h i hi').1 hg (fun g g' h1 h2 he => ?_), (h i hi').2⟩
    subst he
    rcases Nat.lt_or_ge i k with hlt | hge
    · exact ((h k hk).2 g h2).2 i hlt h1
    · exact ((h i hi').2 g h1).2 k (by omega) h2

end Go.Proofs.YticecjodbhhcfaaDoor
