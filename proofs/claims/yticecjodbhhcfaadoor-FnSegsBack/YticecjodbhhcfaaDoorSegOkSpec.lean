/-
  The walks of the specification's SegsOk.
-/
import Derived.Test.YticecjodbhhcfaaDoorSegRows
import Derived.Test.YticecjodbhhcfaaDoorBetween
namespace Go.Proofs.YticecjodbhhcfaaDoor
open Go.RowKit

/-- The kind of a segment: 1 a part, 2 a restart, 3 run data, 0 none. -/
def kindOf (m : Int) : Int := if m = 0 then 3 else if 1 ≤ m ∧ m ≤ 239 then 1 else if 240 ≤ m ∧ m ≤ 247 then 2 else 0
theorem kindOf_cases (m : Int) : kindOf m = 0 ∨ kindOf m = 1 ∨ kindOf m = 2 ∨ kindOf m = 3 := by
  unfold kindOf
  split
  · simp
  · split
    · simp
    · split <;> simp
/-- Whether a kind can come behind another one. -/
def fitsK (was now : Int) : Bool := if now = 1 then true else if now = 2 then decide (was = 3) else if now = 3 then decide (was = 1 ∨ was = 2) else false

theorem kind_bounds (m : Int) : (kindOf m = 1 → 1 ≤ m ∧ m ≤ 239) ∧ (kindOf m = 2 → 240 ≤ m ∧ m ≤ 247) := by
  unfold kindOf
  split
  · simp
  · split
    · rename_i h; simp; omega
    · split
      · rename_i h; simp; omega
      · simp

theorem specKind (m k : Int) (w : World) (hk : Hid (kindOf m = k)) : Calls Tryd.prog 20 #[.int .i64 m] w fun e w' => e = .returned (.int .i64 k) ∧ w = w' := by
  have hkk := unhide hk
  unfold kindOf at hkk
  clear hk
  by_cases h0 : m = 0
  · rw [if_pos h0] at hkk
    subst h0; subst hkk
    go_enter Tryd.func20, Tryd.ntmps20
    go_wp2
    go_ret
    exact ⟨rfl, rfl⟩
  · rw [if_neg h0] at hkk
    have hb0 : (m == 0) = false := by simpa using h0
    by_cases h1 : 1 ≤ m ∧ m ≤ 239
    · rw [if_pos h1] at hkk
      subst hkk
      have hb1 : Hid (decide (1 ≤ m ∧ m ≤ 239) = true) := decide_eq_true h1
      clear h0 h1
      go_enter Tryd.func20, Tryd.ntmps20
      go_wp2_with fail
      refine (between m 1 239 true hb1 _).mono ?_
      rintro e w1 ⟨rfl, rfl⟩
      go_wp2
      go_ret
      exact ⟨rfl, rfl⟩
    · rw [if_neg h1] at hkk
      have hb1 : Hid (decide (1 ≤ m ∧ m ≤ 239) = false) := decide_eq_false h1
      by_cases h2 : 240 ≤ m ∧ m ≤ 247
      · rw [if_pos h2] at hkk
        subst hkk
        have hb2 : Hid (decide (240 ≤ m ∧ m ≤ 247) = true) := decide_eq_true h2
        clear h0 h1 h2
        go_enter Tryd.func20, Tryd.ntmps20
        go_wp2_with fail
        refine (between m 1 239 false hb1 _).mono ?_
        rintro e w1 ⟨rfl, rfl⟩
        go_wp2_with fail
        refine (between m 240 247 true hb2 _).mono ?_
        rintro e w2 ⟨rfl, rfl⟩
        go_wp2
        go_ret
        exact ⟨rfl, rfl⟩
      · rw [if_neg h2] at hkk
        subst hkk
        have hb2 : Hid (decide (240 ≤ m ∧ m ≤ 247) = false) := decide_eq_false h2
        clear h0 h1 h2
        go_enter Tryd.func20, Tryd.ntmps20
        go_wp2_with fail
        refine (between m 1 239 false hb1 _).mono ?_
        rintro e w1 ⟨rfl, rfl⟩
        go_wp2_with fail
        refine (between m 240 247 false hb2 _).mono ?_
        rintro e w2 ⟨rfl, rfl⟩
        go_wp2
        go_ret
        exact ⟨rfl, rfl⟩

theorem specFits (was now : Int) (t : Bool) (w : World) (hn : now = 0 ∨ now = 1 ∨ now = 2 ∨ now = 3) (hw : was = 0 ∨ was = 1 ∨ was = 2 ∨ was = 3) (ht : Hid (fitsK was now = t)) : Calls Tryd.prog 25 #[.int .i64 was, .int .i64 now] w fun e w' => e = .returned (.bool t) ∧ w = w' := by
  have htt := unhide ht
  clear ht
  rcases hn with rfl | rfl | rfl | rfl <;> rcases hw with rfl | rfl | rfl | rfl
  all_goals
    simp [fitsK] at htt
    subst htt
    go_enter Tryd.func25, Tryd.ntmps25
    go_wp2
    go_ret
    exact ⟨rfl, rfl⟩

/-- Whether a segment is well behind a kind. -/
def segOk1 (was : Int) (s : Int × List Int) : Bool := fitsK was (kindOf s.1) && decide (s.2.length ≤ 20000) && !(decide (kindOf s.1 = 2) && decide (0 < s.2.length)) && !(decide (kindOf s.1 = 3) && decide (s.2.length = 0))
def okFrom : Int → List (Int × List Int) → Bool
  | _, [] => true
  | was, s :: r => segOk1 was s && okFrom (kindOf s.1) r
/-- What SegsOk answers. -/
def okS (ss : List (Int × List Int)) : Bool := decide (ss.length ≤ 300) && okFrom 0 ss
/-- The kind of the segment ahead of a place. -/
def wasK (ss : List (Int × List Int)) : Nat → Int
  | 0 => 0
  | k + 1 => kindOf (ss.getD k (0, [])).1
theorem wasK_cases (ss : List (Int × List Int)) (k : Nat) : wasK ss k = 0 ∨ wasK ss k = 1 ∨ wasK ss k = 2 ∨ wasK ss k = 3 := by
  cases k with
  | zero => exact .inl rfl
  | succ k => exact kindOf_cases _
theorem dropS (ss : List (Int × List Int)) (k : Nat) (h : k < ss.length) : ss.drop k = ss.getD k (0, []) :: ss.drop (k + 1) := by
  rw [List.drop_eq_getElem_cons h]; simp [h]
theorem okFrom_step {ss : List (Int × List Int)} {k : Nat} (h : okFrom 0 ss = okFrom (wasK ss k) (ss.drop k)) (hk : k < ss.length) : okFrom 0 ss = (segOk1 (wasK ss k) (ss.getD k (0, [])) && okFrom (wasK ss (k + 1)) (ss.drop (k + 1))) := by
  rw [h, dropS ss k hk, okFrom]; rfl

set_option maxHeartbeats 1600000 in
theorem specSegsOk (ao : Option Addr) (n cap : Nat) (ss : List (Int × List Int)) (w : World) (hr : RdS w ao n ss) :
    Calls Tryd.prog 10 #[.slice ao n cap] w fun e w' => e = .returned (.bool (okS ss)) ∧ w.grownBy w' none := by
  obtain ⟨hl, hc⟩ := hr
  by_cases hbig : n ≤ 300
  · have hdec : decide ((300 : Int) < (n : Int)) = false := by simp; omega
    have HS : Hid (okS ss = okFrom 0 ss) := by unfold Hid okS; rw [hl, decide_eq_true hbig]; rfl
    go_enter Tryd.func10, Tryd.ntmps10
    go_wp2
    go_loop [3, 4] (fun a i => ∃ k : Nat, k ≤ n ∧ i = .int .i64 k ∧ a = .int .i64 (wasK ss k) ∧ okFrom 0 ss = okFrom (wasK ss k) (ss.drop k)) (fun _ i => n - (intOf i).toNat)
    case atStart => exact ⟨0, Nat.zero_le _, rfl, rfl, rfl⟩
    case round =>
      obtain ⟨k, hk, rfl, rfl, hok⟩ := hrel
      by_cases hlt : k < n
      · obtain ⟨b, off, dd, dc, rfl, hc1, hc2, _⟩ := hc k hlt
        have HST := hide (okFrom_step hok (by omega))
        have hwc := wasK_cases ss k
        have HW : Hid (wasK ss (k + 1) = kindOf (ss.getD k (0, [])).1) := rfl
        clear hok hc
        obtain ⟨⟨mk, bk⟩, hf⟩ : ∃ f, ss.getD k (0, []) = f := ⟨_, rfl⟩
        rw [hf] at hc1 hc2 HST HW
        dsimp only at hc1 hc2 HW
        clear hf
        have hkc := kindOf_cases mk
        generalize wasK ss k = was at *
        have HWC := hide hwc
        have HKC := hide hkc
        have HLB : Hid (0 ≤ bk.length) := Nat.zero_le _
        clear hwc hkc
        obtain ⟨kd, hkd⟩ : ∃ kd, kindOf mk = kd := ⟨_, rfl⟩
        have HKD := hide hkd
        obtain ⟨t, ht⟩ : ∃ t, fitsK was kd = t := ⟨_, rfl⟩
        have HT := hide ht
        rw [hkd] at HKC
        have hseg : Hid (segOk1 was (mk, bk) = (t && decide (bk.length ≤ 20000) && !(decide (kd = 2) && decide (0 < bk.length)) && !(decide (kd = 3) && decide (bk.length = 0)))) := by unfold Hid segOk1; dsimp only; rw [hkd, ht]
        clear hkd ht
        go_wp2_with fail
        refine (specKind mk kd w HKD).mono ?_
        rintro e w1 ⟨rfl, rfl⟩
        go_wp2_with fail
        refine (specFits was kd t w (unhide HKC) (unhide HWC) HT).mono ?_
        rintro e w2 ⟨rfl, rfl⟩
        generalize hlk : bk.length = lk at *
        clear hlk
        have stop : Hid (segOk1 was (mk, bk) = false → okS ss = false) := fun h => by rw [unhide HS, unhide HST, h]; rfl
        have goon : Hid (segOk1 was (mk, bk) = true → okFrom 0 ss = okFrom (wasK ss (k + 1)) (ss.drop (k + 1))) := fun h => by rw [unhide HST, h]; rfl
        cases t
        · go_wp2
          go_ret
          exact ⟨by rw [unhide stop (by rw [unhide hseg]; rfl)]; rfl, World.grownBy.refl _ _⟩
        · by_cases hlong : lk ≤ 20000
          · have hlg : decide ((20000 : Int) < (lk : Int)) = false := by simp; omega
            have hkc := unhide HKC
            rcases hkc with rfl | rfl | rfl | rfl
            · go_wp2
              go_round
              case rel => exact ⟨k + 1, by omega, by go_num, by rw [unhide HW, unhide HKD], unhide goon (by rw [unhide hseg, decide_eq_true hlong]; rfl)⟩
              case measure => simp [intOf]; omega
            · go_wp2
              go_round
              case rel => exact ⟨k + 1, by omega, by go_num, by rw [unhide HW, unhide HKD], unhide goon (by rw [unhide hseg, decide_eq_true hlong]; rfl)⟩
              case measure => simp [intOf]; omega
            · by_cases hz : lk = 0
              · have hz1 : decide ((0 : Int) < (lk : Int)) = false := decide_eq_false (by omega)
                go_wp2
                go_round
                case rel => exact ⟨k + 1, by omega, by go_num, by rw [unhide HW, unhide HKD], unhide goon (by rw [unhide hseg, decide_eq_true hlong, hz]; rfl)⟩
                case measure => simp [intOf]; omega
              · have hz1 : decide ((0 : Int) < (lk : Int)) = true := decide_eq_true (by omega)
                have hz2 : 0 < lk := by omega
                go_wp2
                go_ret
                exact ⟨by rw [unhide stop (by rw [unhide hseg, decide_eq_true hlong, decide_eq_true hz2]; rfl)]; rfl, World.grownBy.refl _ _⟩
            · by_cases hz : lk = 0
              · have hz1 : ((lk : Int) == 0) = true := by simp; omega
                go_wp2
                go_ret
                exact ⟨by rw [unhide stop (by rw [unhide hseg, decide_eq_true hlong, hz]; rfl)]; rfl, World.grownBy.refl _ _⟩
              · have hz1 : ((lk : Int) == 0) = false := by simp; omega
                go_wp2
                go_round
                case rel => exact ⟨k + 1, by omega, by go_num, by rw [unhide HW, unhide HKD], unhide goon (by rw [unhide hseg, decide_eq_true hlong, decide_eq_false hz]; rfl)⟩
                case measure => simp [intOf]; omega
          · have hlg : decide ((20000 : Int) < (lk : Int)) = true := decide_eq_true (by omega)
            go_wp2
            go_ret
            exact ⟨by rw [unhide stop (by rw [unhide hseg, decide_eq_false hlong]; rfl)]; rfl, World.grownBy.refl _ _⟩
      · have hkn : k = n := by omega
        subst hkn
        rw [← hl, List.drop_length] at hok
        have H : Hid (okS ss = true) := by unfold Hid; rw [unhide HS, hok]; cases (wasK ss ss.length) <;> rfl
        clear hok
        go_wp2
        go_ret
        exact ⟨by rw [unhide H]; rfl, World.grownBy.refl _ _⟩
  · have hdec : decide ((300 : Int) < (n : Int)) = true := by simp; omega
    have HS : Hid (okS ss = false) := by unfold Hid okS; rw [hl, decide_eq_false hbig]; rfl
    go_enter Tryd.func10, Tryd.ntmps10
    go_wp2
    go_ret
    exact ⟨by rw [unhide HS]; rfl, World.grownBy.refl _ _⟩

end Go.Proofs.YticecjodbhhcfaaDoor
