/-
  Areas in the program: whether a plane may be as great as one, whether one covers another, and how one falls into blocks.
-/
import Derived.Test.YtkefpjbdkhifhaaToneRows
import Derived.Test.YtkefpjbdkhifhaaSampSpec
import Derived.Test.YtkefpjbdkhifhaaFrameImpl
import Derived.Test.YtkefpjbdkhifhaaGeoImpl
namespace Go.Proofs.Ytkefpjbdkhifhaa
open Go.RowKit

set_option maxHeartbeats 1600000 in
theorem isPlane (w h : Int) (t : Bool) (HT : Hid (sidesB w h = t)) (W : World) :
    Calls Try.prog 61 #[.agg #[.int .i64 w, .int .i64 h]] W fun e W' => e = .returned (.bool t) ∧ W.grownBy W' none := by
  obtain ⟨tw, HTW⟩ : ∃ y, Hid (decide (1 ≤ w ∧ w ≤ 1024) = y) := ⟨_, rfl⟩
  obtain ⟨th, HTH⟩ : ∃ y, Hid (decide (1 ≤ h ∧ h ≤ 1024) = y) := ⟨_, rfl⟩
  have HE : Hid (t = (tw && th && decide (w * h ≤ 131072))) := by unfold Hid; rw [← unhide HT, sidesB, unhide HTW, unhide HTH]
  go_enter Try.func61, Try.ntmps61
  go_wp2_with fail
  refine (inRange w 1 1024 tw HTW _).mono ?_
  rintro e W1 ⟨rfl, rfl⟩
  cases tw with
  | false =>
    obtain rfl : t = false := by rw [unhide HE]; rfl
    go_wp2
    go_ret
    exact ⟨rfl, grown_alloc (World.grownBy.refl _ _) _⟩
  | true =>
    go_wp2_with fail
    refine (inRange h 1 1024 th HTH _).mono ?_
    rintro e W1 ⟨rfl, rfl⟩
    cases th with
    | false =>
      obtain rfl : t = false := by rw [unhide HE]; rfl
      go_wp2
      go_ret
      exact ⟨rfl, grown_alloc (World.grownBy.refl _ _) _⟩
    | true =>
      have hw := of_decide_eq_true (unhide HTW)
      have hh := of_decide_eq_true (unhide HTH)
      obtain ⟨y, HY⟩ : ∃ y, Hid (decide (w * h ≤ 131072) = y) := ⟨_, rfl⟩
      rw [unhide HY] at HE
      obtain rfl : t = y := by rw [unhide HE]; rfl
      go_wp2_with fail
      refine (areaCount w h (by omega) (by omega) _).mono ?_
      rintro e W1 ⟨rfl, g1⟩
      have G1 := hide (grown_trans (grown_alloc (World.grownBy.refl _ _) _) g1)
      have e2 : decide (w * h ≤ 131072) = t := unhide HY
      clear g1
      go_wp2
      go_ret
      exact ⟨rfl, unhide G1⟩

set_option maxHeartbeats 1600000 in
theorem covers (a b c d : Int) (t : Bool) (HT : Hid ((decide (c ≤ a) && decide (d ≤ b)) = t)) (W : World) :
    Calls Try.prog 44 #[.agg #[.int .i64 a, .int .i64 b], .agg #[.int .i64 c, .int .i64 d]] W fun e W' => e = .returned (.bool t) ∧ W.grownBy W' none := by
  obtain ⟨t1, h1⟩ : ∃ y, decide (c ≤ a) = y := ⟨_, rfl⟩
  obtain ⟨t2, h2⟩ : ∃ y, decide (d ≤ b) = y := ⟨_, rfl⟩
  rw [h1, h2] at HT
  go_enter Try.func44, Try.ntmps44
  cases t1 with
  | false =>
    obtain rfl : t = false := by rw [← unhide HT]; rfl
    go_wp2
    go_ret
    exact ⟨rfl, grown_alloc (grown_alloc (World.grownBy.refl _ _) _) _⟩
  | true =>
    obtain rfl : t = t2 := by rw [← unhide HT]; rfl
    go_wp2
    go_ret
    exact ⟨rfl, grown_alloc (grown_alloc (World.grownBy.refl _ _) _) _⟩

end Go.Proofs.Ytkefpjbdkhifhaa
