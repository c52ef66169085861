/-
  The walks of the program's SegsOk.
-/
import Derived.Test.YtcmgmffjnhdbfahDoorSegOkSpec
namespace Go.Proofs.YtcmgmffjnhdbfahDoor
open Go.RowKit

/-- The program's own numbers of the kinds: 1 run data, 2 a part, 3 a restart, 4 the end, 0 none. -/
def ikOf (m : Int) : Int := if m = 0 then 1 else if 0 < m ∧ m ≤ 239 then 2 else if 240 ≤ m ∧ m ≤ 247 then 3 else if m = 254 then 4 else 0
def toI (k : Int) : Int := if k = 1 then 2 else if k = 2 then 3 else if k = 3 then 1 else 0
def mayF (kind last : Int) : Bool := if kind = 1 then (decide (last = 2) || decide (last = 3)) else if kind = 3 then decide (last = 1) else decide (kind ≠ 0)
def cntOk (kind : Int) (n : Nat) : Bool := if kind = 1 then (decide (1 ≤ n) && decide (n ≤ 20000)) else if kind = 2 then decide (n ≤ 20000) else if kind = 3 then decide (n = 0) else false
theorem ikOf_cases (m : Int) : ikOf m = 0 ∨ ikOf m = 1 ∨ ikOf m = 2 ∨ ikOf m = 3 ∨ ikOf m = 4 := by
  unfold ikOf; repeat' split
  all_goals simp
theorem ikOf_kind (m : Int) : (kindOf m = 0 ∧ (ikOf m = 0 ∨ ikOf m = 4)) ∨ (kindOf m ≠ 0 ∧ ikOf m = toI (kindOf m)) := by
  unfold ikOf kindOf toI
  by_cases h0 : m = 0
  · simp [h0]
  · by_cases h1 : 1 ≤ m ∧ m ≤ 239
    · have h2 : 0 < m ∧ m ≤ 239 := by omega
      simp [h0, h1, h2]
    · have h2 : ¬ (0 < m ∧ m ≤ 239) := by omega
      by_cases h3 : 240 ≤ m ∧ m ≤ 247
      · simp only [if_neg h0, if_neg h1, if_neg h2, if_pos h3]; decide
      · simp only [if_neg h0, if_neg h1, if_neg h2, if_neg h3]
        left
        refine ⟨trivial, ?_⟩
        split <;> simp
theorem seg_may (was : Int) (hw : was = 0 ∨ was = 1 ∨ was = 2 ∨ was = 3) (s : Int × List Int) : segOk1 was s = (mayF (ikOf s.1) (toI was) && cntOk (ikOf s.1) s.2.length) := by
  have hk := kindOf_cases s.1
  have hi := ikOf_kind s.1
  unfold segOk1
  generalize kindOf s.1 = k at *
  generalize ikOf s.1 = i at *
  generalize s.2.length = n
  rcases hi with ⟨rfl, rfl | rfl⟩ | ⟨h0, rfl⟩
  · simp [fitsK, mayF]
  · simp [fitsK, mayF, cntOk]
  · rcases hk with rfl | rfl | rfl | rfl
    · exact absurd rfl h0
    · simp [fitsK, mayF, cntOk, toI]
    · rcases hw with rfl | rfl | rfl | rfl
      · simp [fitsK, mayF, cntOk, toI]
      · simp [fitsK, mayF, cntOk, toI]
      · simp [fitsK, mayF, cntOk, toI]
      · by_cases e : n = 0
        · simp [fitsK, mayF, cntOk, toI, e]
        · have : 0 < n := by omega
          simp [fitsK, mayF, cntOk, toI, e, this]
    · rcases hw with rfl | rfl | rfl | rfl
      · simp [fitsK, mayF, cntOk, toI]
      · by_cases e : n = 0
        · simp [fitsK, mayF, cntOk, toI, e]
        · have : 1 ≤ n := by omega
          simp [fitsK, mayF, cntOk, toI, e, this]
      · by_cases e : n = 0
        · simp [fitsK, mayF, cntOk, toI, e]
        · have : 1 ≤ n := by omega
          simp [fitsK, mayF, cntOk, toI, e, this]
      · simp [fitsK, mayF, cntOk, toI]

theorem implKind (m k : Int) (w : World) (hk : Hid (ikOf m = k)) : Calls Tryd.prog 38 #[.int .i64 m] w fun e w' => e = .returned (.int .i64 k) ∧ w = w' := by
  have hkk := unhide hk
  unfold ikOf at hkk
  clear hk
  by_cases h0 : m = 0
  · rw [if_pos h0] at hkk
    subst h0; subst hkk
    go_enter Tryd.func38, Tryd.ntmps38
    go_wp2
    go_ret
    exact ⟨rfl, rfl⟩
  · rw [if_neg h0] at hkk
    have hb0 : (m == 0) = false := by simpa using h0
    by_cases h1 : 0 < m ∧ m ≤ 239
    · rw [if_pos h1] at hkk
      subst hkk
      have hb1 : decide (0 < m) = true := decide_eq_true h1.1
      have hb2 : decide (m ≤ 239) = true := decide_eq_true h1.2
      clear h0 h1
      go_enter Tryd.func38, Tryd.ntmps38
      go_wp2
      go_ret
      exact ⟨rfl, rfl⟩
    · rw [if_neg h1] at hkk
      by_cases hp : 0 < m
      · have hb1 : decide (0 < m) = true := decide_eq_true hp
        have hb2 : decide (m ≤ 239) = false := decide_eq_false (by omega)
        have hb3 : decide (240 ≤ m) = true := decide_eq_true (by omega)
        by_cases h2 : m ≤ 247
        · rw [if_pos (by omega)] at hkk
          subst hkk
          have hb4 : decide (m ≤ 247) = true := decide_eq_true h2
          clear h0 h1 h2 hp
          go_enter Tryd.func38, Tryd.ntmps38
          go_wp2
          go_ret
          exact ⟨rfl, rfl⟩
        · rw [if_neg (by omega)] at hkk
          have hb4 : decide (m ≤ 247) = false := decide_eq_false h2
          by_cases h3 : m = 254
          · rw [if_pos h3] at hkk
            subst h3; subst hkk
            clear hb0 hb1 hb2 hb3 hb4 h0 h1 h2 hp
            go_enter Tryd.func38, Tryd.ntmps38
            go_wp2
            go_ret
            exact ⟨rfl, rfl⟩
          · rw [if_neg h3] at hkk
            subst hkk
            have hb5 : (m == 254) = false := by simpa using h3
            clear h0 h1 h2 hp h3
            go_enter Tryd.func38, Tryd.ntmps38
            go_wp2
            go_ret
            exact ⟨rfl, rfl⟩
      · have hb1 : decide (0 < m) = false := decide_eq_false hp
        have hb3 : decide (240 ≤ m) = false := decide_eq_false (by omega)
        have hb5 : (m == 254) = false := by simp; omega
        rw [if_neg (by omega), if_neg (by omega)] at hkk
        subst hkk
        clear h0 h1 hp
        go_enter Tryd.func38, Tryd.ntmps38
        go_wp2
        go_ret
        exact ⟨rfl, rfl⟩

theorem implMay (kind last : Int) (t : Bool) (w : World) (hk : kind = 0 ∨ kind = 1 ∨ kind = 2 ∨ kind = 3 ∨ kind = 4) (hl : last = 0 ∨ last = 1 ∨ last = 2 ∨ last = 3 ∨ last = 4) (ht : Hid (mayF kind last = t)) : Calls Tryd.prog 39 #[.int .i64 kind, .int .i64 last] w fun e w' => e = .returned (.bool t) ∧ w = w' := by
  have htt := unhide ht
  clear ht
  rcases hk with rfl | rfl | rfl | rfl | rfl <;> rcases hl with rfl | rfl | rfl | rfl | rfl
  all_goals
    simp [mayF] at htt
    subst htt
    go_enter Tryd.func39, Tryd.ntmps39
    go_wp2
    go_ret
    exact ⟨rfl, rfl⟩

theorem toI_cases (k : Int) : toI k = 0 ∨ toI k = 1 ∨ toI k = 2 ∨ toI k = 3 ∨ toI k = 4 := by
  unfold toI; repeat' split
  all_goals simp

end Go.Proofs.YtcmgmffjnhdbfahDoor
