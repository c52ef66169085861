/-
  What is left of a script, step by step.
-/
import Derived.Test.YtnjcmlmgjoaeeaaScriptMath
namespace Go.Proofs.Ytnjcmlmgjoaeeaa

theorem leftRow_app (want lo : Int) : ∀ (m k d : Nat) (row : List Int), leftRow want lo k (m + d) row = (leftRow want lo k m row).bind (leftRow want lo (k + m) d)
  | 0, k, d, row => by rw [Nat.zero_add]; rfl
  | m + 1, k, d, row => by
    have e : m + 1 + d = (m + d) + 1 := by omega
    rw [e]
    simp only [leftRow]
    split
    · rw [leftRow_app want lo m (k + 1) d]
      have e2 : k + 1 + m = k + (m + 1) := by omega
      rw [e2]
    · rfl
theorem leftComps_app (want lo : Int) (k m : Nat) : ∀ (cs ds : List Int) (X : List (List Int)), leftComps want lo k m (cs ++ ds) X = (leftComps want lo k m cs X).bind (leftComps want lo k m ds)
  | [], ds, X => rfl
  | c :: cs, ds, X => by
    simp only [List.cons_append, leftComps]
    cases leftRow want lo k m (X.getD c.toNat []) with
    | none => rfl
    | some row => exact leftComps_app want lo k m cs ds _
/-- One place more. -/
theorem leftRow_next {want lo : Int} {k m : Nat} {row r : List Int} (h : leftRow want lo k m row = some r) (hw : r.getD (k + m) 0 = want) : leftRow want lo k (m + 1) row = some (r.set (k + m) lo) := by
  rw [leftRow_app, h]
  show leftRow want lo (k + m) 1 r = _
  simp only [leftRow, hw, if_true]
theorem leftRow_fails {want lo : Int} {k m M : Nat} {row r : List Int} (h : leftRow want lo k m row = some r) (hw : r.getD (k + m) 0 ≠ want) (hM : m < M) : leftRow want lo k M row = none := by
  obtain ⟨d, rfl⟩ : ∃ d, M = m + (d + 1) := ⟨M - m - 1, by omega⟩
  rw [leftRow_app, h]
  show leftRow want lo (k + m) (d + 1) r = none
  simp only [leftRow, hw, if_false]
theorem leftComps_next {want lo : Int} {k m : Nat} {cs : List Int} {X Y : List (List Int)} (j : Nat) (hj : j < cs.length) (h : leftComps want lo k m (cs.take j) X = some Y) {row : List Int} (hr : leftRow want lo k m (Y.getD (cs.getD j 0).toNat []) = some row) : leftComps want lo k m (cs.take (j + 1)) X = some (Y.set (cs.getD j 0).toNat row) := by
  have e : cs.getD j 0 = cs[j] := by simp [hj]
  rw [List.take_succ_eq_append_getElem hj, leftComps_app, h]
  rw [e] at hr ⊢
  show leftComps want lo k m [cs[j]] Y = _
  simp only [leftComps, hr]
theorem leftComps_fails {want lo : Int} {k m : Nat} {cs : List Int} {X Y : List (List Int)} (j : Nat) (hj : j < cs.length) (h : leftComps want lo k m (cs.take j) X = some Y) (hr : leftRow want lo k m (Y.getD (cs.getD j 0).toNat []) = none) : leftComps want lo k m cs X = none := by
  have e : cs.getD j 0 = cs[j] := by simp [hj]
  have e2 : cs = cs.take j ++ cs[j] :: cs.drop (j + 1) := by rw [List.getElem_cons_drop]; exact (List.take_append_drop j cs).symm
  rw [e] at hr
  rw [e2, leftComps_app, h]
  show leftComps want lo k m (cs[j] :: cs.drop (j + 1)) Y = none
  simp only [leftComps, hr]
theorem leftAll_next {fb : Bool} {n : Nat} {s : List Scn} {X Y Z : List (List Int)} (i : Nat) (hi : i < s.length) (h : leftAll fb n (s.take i) X = some Y) (hb : scanB fb n s[i] = true) (hs : leftScan s[i] Y = some Z) : leftAll fb n (s.take (i + 1)) X = some Z := by
  rw [List.take_succ_eq_append_getElem hi, leftAll_app, h]
  show leftAll fb n [s[i]] Y = _
  simp only [leftAll, hb, if_true, hs]
theorem leftAll_fails {fb : Bool} {n : Nat} {s : List Scn} {X Y : List (List Int)} (i : Nat) (hi : i < s.length) (h : leftAll fb n (s.take i) X = some Y) (hs : scanB fb n s[i] = false ∨ leftScan s[i] Y = none) : leftAll fb n s X = none := by
  have e2 : s = s.take i ++ s[i] :: s.drop (i + 1) := by rw [List.getElem_cons_drop]; exact (List.take_append_drop i s).symm
  rw [e2, leftAll_app, h]
  show leftAll fb n (s[i] :: s.drop (i + 1)) Y = none
  rcases hs with hs | hs
  · simp only [leftAll, hs, Bool.false_eq_true, if_false]
  · simp only [leftAll, hs, ite_self]

end Go.Proofs.Ytnjcmlmgjoaeeaa
