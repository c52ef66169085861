/-
  Scripts, as mathematics: what is left, and the three that are made.
-/
import Derived.Test.YtnjcmlmgjoaeeaaScanSpec
namespace Go.Proofs.Ytnjcmlmgjoaeeaa

/-- A row of what was told last, from place k on m places: each has to be 'want', and becomes 'lo'. -/
def leftRow (want lo : Int) : Nat → Nat → List Int → Option (List Int)
  | _, 0, row => some row
  | k, m + 1, row => if row.getD k 0 = want then leftRow want lo (k + 1) m (row.set k lo) else none
/-- The rows of a scan's components, one behind the other. -/
def leftComps (want lo : Int) (k m : Nat) : List Int → List (List Int) → Option (List (List Int))
  | [], X => some X
  | c :: cs, X => match leftRow want lo k m (X.getD c.toNat []) with
    | some row => leftComps want lo k m cs (X.set c.toNat row)
    | none => none
def wantOf (a : Scn) : Int := if a.hi = 0 then -1 else a.hi
def leftScan (a : Scn) (X : List (List Int)) : Option (List (List Int)) := leftComps (wantOf a) a.lo a.fr.toNat (a.to - a.fr + 1).toNat a.cs X
/-- All scans of a script, each of which has to be one. -/
def leftAll (fb : Bool) (n : Nat) : List Scn → List (List Int) → Option (List (List Int))
  | [], X => some X
  | a :: s, X => if scanB fb n a then (match leftScan a X with | some Y => leftAll fb n s Y | none => none) else none
def nothing (n : Nat) : List (List Int) := List.replicate n (List.replicate 64 (-1))
def leftO (fb : Bool) (n : Nat) (s : List Scn) : Option (List (List Int)) := if fb && decide (s.length ≤ 40) then leftAll fb n s (nothing n) else none
def leftG (fb : Bool) (n : Nat) (s : List Scn) : List (List Int) := (leftO fb n s).getD []
def scriptB (fb : Bool) (n : Nat) (s : List Scn) : Bool := match leftO fb n s with | some X => X.all (fun row => row.all (fun x => x == 0)) | none => false

def allC (n : Nat) : List Int := (List.range n).map (fun i : Nat => (i : Int))
def eachC (n : Nat) (f : Int → List Scn) : List Scn := (allC n).flatMap f
/-- The three scripts. -/
def scriptG (fb : Bool) (n : Nat) (kind : Int) : List Scn :=
  if fb then
    (if kind = 0 then [⟨allC n, 0, 63, 0, 0⟩]
    else if kind = 1 then eachC n (fun i => [⟨[i], 0, 63, 0, 0⟩])
    else if kind = 2 then [⟨allC n, 0, 0, 0, 1⟩] ++ eachC n (fun i => [⟨[i], 1, 5, 0, 2⟩, ⟨[i], 6, 63, 0, 2⟩]) ++ eachC n (fun i => [⟨[i], 1, 63, 2, 1⟩]) ++ [⟨allC n, 0, 0, 1, 0⟩] ++ eachC n (fun i => [⟨[i], 1, 63, 1, 0⟩])
    else [])
  else []

theorem leftRow_len {want lo : Int} : ∀ (k m : Nat) (row row' : List Int), leftRow want lo k m row = some row' → row'.length = row.length
  | _, 0, row, row', h => by unfold leftRow at h; rw [Option.some.inj h]
  | k, m + 1, row, row', h => by
    unfold leftRow at h
    split at h
    · rw [leftRow_len (k + 1) m _ row' h, List.length_set]
    · exact absurd h (by simp)
theorem leftRow_at {want lo : Int} : ∀ (k m : Nat) (row row' : List Int), leftRow want lo k m row = some row' → k + m ≤ row.length → ∀ j, (j < k ∨ k + m ≤ j → row'.getD j 0 = row.getD j 0) ∧ (k ≤ j → j < k + m → row.getD j 0 = want ∧ row'.getD j 0 = lo)
  | k, 0, row, row', h, _, j => by
    unfold leftRow at h
    rw [Option.some.inj h]
    exact ⟨fun _ => rfl, fun h1 h2 => by omega⟩
  | k, m + 1, row, row', h, hl, j => by
    unfold leftRow at h
    split at h
    · rename_i hw
      obtain ⟨a1, a2⟩ := leftRow_at (k + 1) m _ row' h (by rw [List.length_set]; omega) j
      have hk : k < row.length := by omega
      refine ⟨fun hj => ?_, fun h1 h2 => ?_⟩
      · rw [a1 (by omega)]
        have : k ≠ j := by omega
        simp [this]
      · by_cases e : k = j
        · subst e
          refine ⟨hw, ?_⟩
          rw [a1 (by omega)]
          simp [hk]
        · obtain ⟨b1, b2⟩ := a2 (by omega) (by omega)
          refine ⟨?_, b2⟩
          rw [← b1]
          simp [e]
    · exact absurd h (by simp)

end Go.Proofs.Ytnjcmlmgjoaeeaa
