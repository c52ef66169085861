/-
  The walks of the program's SegsOk.
-/
import Derived.Test.YticecjodbhhcfaaDoorSegOkSpec
namespace Go.Proofs.YticecjodbhhcfaaDoor
open Go.RowKit

/-- The program's own numbers of the kinds: 1 run data, 2 a part, 3 a restart, 4 the end, 0 none. -/
def ikOf (m : Int) : Int := if m = 0 then 1 else if 0 < m ∧ m ≤ 239 then 2 else if 240 ≤ m ∧ m ≤ 247 then 3 else if m = 254 then 4 else 0
def toI (k : Int) : Int := if k = 1 then 2 else if k = 2 then 3 else if k = 3 then 1 else 0
def mayF (kind last : Int) : Bool := if kind = 1 then (decide (last = 2) || decide (last = 3)) else if kind = 3 then decide (last = 1) else decide (kind ≠ 0)
def cntOk (kind : Int) (n : Nat) : Bool := if kind = 1 then (decide (1 ≤ n) && decide (n ≤ 20000)) else if kind = 2 then decide (n ≤ 20000) else if kind = 3 then decide (n = 0) else false
theorem ikOf_cases (m : Int) : ikOf m = 0 ∨ ikOf m = 1 ∨ ikOf m = 2 ∨ ikOf m = 3 ∨ ikOf m = 4 := by
  unfold ikOf; repeat' split
  all_goals simp
theorem ikOf_kind (m : Int) : (kindOf m = 0 ∧ (ikOf m = 0 ∨ ikOf m = 4)) ∨ (kindOf m ≠ 0 ∧ ikOf m = toI (kindOf m)) := by
  unfold ikOf kindOf toI
  by_cases h0 : m = 0
  · simp [h0]
  · by_cases h1 : 1 ≤ m ∧ m ≤ 239
    · have h2 : 0 < m ∧ m ≤ 239 := by omega
      simp [h0, h1, h2]
    · have h2 : ¬ (0 < m ∧ m ≤ 239) := by omega
      by_cases h3 : 240 ≤ m ∧ m ≤ 247
      · simp only [if_neg h0, if_neg h1, if_neg h2, if_pos h3]; decide
      · simp only [if_neg h0, if_neg h1, if_neg h2, if_neg h3]
        left
        refine ⟨trivial, ?_⟩
        split <;> simp
theorem seg_may (was : Int) (hw : was = 0 ∨ was = 1 ∨ was = 2 ∨ was = 3) (s : Int × List Int) : segOk1 was s = (mayF (ikOf s.1) (toI was) && cntOk (ikOf s.1) s.2.length) := by
  have hk := kindOf_cases s.1
  have hi := ikOf_kind s.1
  unfold segOk1
  generalize kindOf s.1 = k at *
  generalize ikOf s.1 = i at *
  generalize s.2.length = n
  rcases hi with ⟨rfl, rfl | rfl⟩ | ⟨h0, rfl⟩
  · simp [fitsK, mayF]
  · simp [fitsK, mayF, cntOk]
  · rcases hk with rfl | rfl | rfl | rfl
    · exact absurd rfl h0
    · simp [fitsK, mayF, cntOk, toI]
    · rcases hw with rfl | rfl | rfl | rfl
      · simp [fitsK, mayF, cntOk, toI]
      · simp [fitsK, mayF, cntOk, toI]
      · simp [fitsK, mayF, cntOk, toI]
      · by_cases e : n = 0
        · simp [fitsK, mayF, cntOk, toI, e]
        · have : 0 < n := by omega
          simp [fitsK, mayF, cntOk, toI, e, this]
    · rcases hw with rfl | rfl | rfl | rfl
      · simp [fitsK, mayF, cntOk, toI]
      · by_cases e : n = 0
        · simp [fitsK, mayF, cntOk, toI, e]
        · have : 1 ≤ n := by omega
          simp [fitsK, mayF, cntOk, toI, e, this]
      · by_cases e : n = 0
        · simp [fitsK, mayF, cntOk, toI, e]
        · have : 1 ≤ n := by omega
          simp [fitsK, mayF, cntOk, toI, e, this]
      · simp [fitsK, mayF, cntOk, toI]

theorem implKind (m k : Int) (w : World) (hk : Hid (ikOf m = k)) : Calls Tryd.prog 22 #[.int .i64 m] w fun e w' => e = .returned (.int .i64 k) ∧ w = w' := by
  have hkk := unhide hk
  unfold ikOf at hkk
  clear hk
  by_cases h0 : m = 0
  · rw [if_pos h0] at hkk
    subst h0; subst hkk
    go_enter Tryd.func22, Tryd.ntmps22
    go_wp2
    go_ret
    exact ⟨rfl, rfl⟩
  · rw [if_neg h0] at hkk
    have hb0 : (m == 0) = false := by simpa using h0
    by_cases h1 : 0 < m ∧ m ≤ 239
    · rw [if_pos h1] at hkk
      subst hkk
      have hb1 : decide (0 < m) = true := decide_eq_true h1.1
      have hb2 : decide (m ≤ 239) = true := decide_eq_true h1.2
      clear h0 h1
      go_enter Tryd.func22, Tryd.ntmps22
      go_wp2
      go_ret
      exact ⟨rfl, rfl⟩
    · rw [if_neg h1] at hkk
      by_cases hp : 0 < m
      · have hb1 : decide (0 < m) = true := decide_eq_true hp
        have hb2 : decide (m ≤ 239) = false := decide_eq_false (by omega)
        have hb3 : decide (240 ≤ m) = true := decide_eq_true (by omega)
        by_cases h2 : m ≤ 247
        · rw [if_pos (by omega)] at hkk
          subst hkk
          have hb4 : decide (m ≤ 247) = true := decide_eq_true h2
          clear h0 h1 h2 hp
          go_enter Tryd.func22, Tryd.ntmps22
          go_wp2
          go_ret
          exact ⟨rfl, rfl⟩
        · rw [if_neg (by omega)] at hkk
          have hb4 : decide (m ≤ 247) = false := decide_eq_false h2
          by_cases h3 : m = 254
          · rw [if_pos h3] at hkk
            subst h3; subst hkk
            clear hb0 hb1 hb2 hb3 hb4 h0 h1 h2 hp
            go_enter Tryd.func22, Tryd.ntmps22
            go_wp2
            go_ret
            exact ⟨rfl, rfl⟩
          · rw [if_neg h3] at hkk
            subst hkk
            have hb5 : (m == 254) = false := by simpa using h3
            clear h0 h1 h2 hp h3
            go_enter Tryd.func22, Tryd.ntmps22
            go_wp2
            go_ret
            exact ⟨rfl, rfl⟩
      · have hb1 : decide (0 < m) = false := decide_eq_false hp
        have hb3 : decide (240 ≤ m) = false := decide_eq_false (by omega)
        have hb5 : (m == 254) = false := by simp; omega
        rw [if_neg (by omega), if_neg (by omega)] at hkk
        subst hkk
        clear h0 h1 hp
        go_enter Tryd.func22, Tryd.ntmps22
        go_wp2
        go_ret
        exact ⟨rfl, rfl⟩

theorem implMay (kind last : Int) (t : Bool) (w : World) (hk : kind = 0 ∨ kind = 1 ∨ kind = 2 ∨ kind = 3 ∨ kind = 4) (hl : last = 0 ∨ last = 1 ∨ last = 2 ∨ last = 3 ∨ last = 4) (ht : Hid (mayF kind last = t)) : Calls Tryd.prog 23 #[.int .i64 kind, .int .i64 last] w fun e w' => e = .returned (.bool t) ∧ w = w' := by
  have htt := unhide ht
  clear ht
  rcases hk with rfl | rfl | rfl | rfl | rfl <;> rcases hl with rfl | rfl | rfl | rfl | rfl
  all_goals
    simp [mayF] at htt
    subst htt
    go_enter Tryd.func23, Tryd.ntmps23
    go_wp2
    go_ret
    exact ⟨rfl, rfl⟩

theorem implCount (kind : Int) (n : Nat) (t : Bool) (w : World) (hk : kind = 0 ∨ kind = 1 ∨ kind = 2 ∨ kind = 3 ∨ kind = 4) (ht : Hid (cntOk kind n = t)) : Calls Tryd.prog 24 #[.int .i64 kind, .int .i64 n] w fun e w' => e = .returned (.bool t) ∧ w = w' := by
  have htt := unhide ht
  clear ht
  have hd1 : decide ((1 : Int) ≤ (n : Int)) = decide (1 ≤ n) := decide_eq_decide.2 (by omega)
  have hd2 : decide ((n : Int) ≤ 20000) = decide (n ≤ 20000) := decide_eq_decide.2 (by omega)
  have hd3 : ((n : Int) == 0) = decide (n = 0) := by rw [Bool.eq_iff_iff]; simp
  have HT := hide htt
  clear htt
  rcases hk with rfl | rfl | rfl | rfl | rfl
  · go_enter Tryd.func24, Tryd.ntmps24
    go_wp2
    go_ret
    exact ⟨ret_bool (by have := unhide HT; simpa [cntOk] using this), rfl⟩
  · cases h1 : decide (1 ≤ n) with
    | false =>
      rw [h1] at hd1
      have HT1 : Hid (t = false) := by have := unhide HT; simp only [cntOk, h1] at this; exact this.symm
      clear h1 HT
      go_enter Tryd.func24, Tryd.ntmps24
      go_wp2
      go_ret
      exact ⟨ret_bool (by rw [unhide HT1]), rfl⟩
    | true =>
      rw [h1] at hd1
      have HT1 : Hid (t = decide (n ≤ 20000)) := by have := unhide HT; simp only [cntOk, h1] at this; exact this.symm
      clear h1 HT
      go_enter Tryd.func24, Tryd.ntmps24
      go_wp2
      go_ret
      exact ⟨ret_bool (by rw [unhide HT1]), rfl⟩
  · go_enter Tryd.func24, Tryd.ntmps24
    go_wp2
    go_ret
    exact ⟨ret_bool (by have := unhide HT; rw [← this]; rfl), rfl⟩
  · go_enter Tryd.func24, Tryd.ntmps24
    go_wp2
    go_ret
    exact ⟨ret_bool (by have := unhide HT; rw [← this]; rfl), rfl⟩
  · go_enter Tryd.func24, Tryd.ntmps24
    go_wp2
    go_ret
    exact ⟨ret_bool (by have := unhide HT; simpa [cntOk] using this), rfl⟩

theorem toI_cases (k : Int) : toI k = 0 ∨ toI k = 1 ∨ toI k = 2 ∨ toI k = 3 ∨ toI k = 4 := by
  unfold toI; repeat' split
  all_goals simp

set_option maxHeartbeats 1600000 in
theorem implSegsOk (ao : Option Addr) (n cap : Nat) (ss : List (Int × List Int)) (w : World) (hr : RdS w ao n ss) :
    Calls Tryd.prog 9 #[.slice ao n cap] w fun e w' => e = .returned (.bool (okS ss)) ∧ w.grownBy w' none := by
  obtain ⟨hl, hc⟩ := hr
  by_cases hbig : n ≤ 300
  · have hdec : decide ((300 : Int) < (n : Int)) = false := by simp; omega
    have HS : Hid (okS ss = okFrom 0 ss) := by unfold Hid okS; rw [hl, decide_eq_true hbig]; rfl
    go_enter Tryd.func9, Tryd.ntmps9
    go_wp2
    go_loopw [3, 12] (fun a i wr => ∃ k : Nat, k ≤ n ∧ i = .int .i64 k ∧ a = .int .i64 (toI (wasK ss k)) ∧ okFrom 0 ss = okFrom (wasK ss k) (ss.drop k) ∧ w.grownBy wr none) (fun _ i _ => n - (intOf i).toNat)
    case atStart => exact ⟨0, Nat.zero_le _, rfl, rfl, rfl, World.grownBy.refl _ _⟩
    case round =>
      obtain ⟨k, hk, rfl, rfl, hok, hgk⟩ := hrel
      by_cases hlt : k < n
      · obtain ⟨b, off, dd, dc, rfl, hc1, hc2, _⟩ := hc k hlt
        have HST := hide (okFrom_step hok (by omega))
        have hseg := seg_may (wasK ss k) (wasK_cases ss k) (ss.getD k (0, []))
        have hik := ikOf_kind (ss.getD k (0, [])).1
        have HW : Hid (wasK ss (k + 1) = kindOf (ss.getD k (0, [])).1) := rfl
        have hca := hgk.cell hc1 (by simp)
        have hcb := hgk.cell hc2 (by simp)
        clear hok hc hc1 hc2
        obtain ⟨⟨mk, bk⟩, hf⟩ : ∃ f, ss.getD k (0, []) = f := ⟨_, rfl⟩
        rw [hf] at hca hcb HST HW hseg hik
        dsimp only at hca hcb HW hseg hik
        clear hf
        have hkc := ikOf_cases mk
        have hlc := toI_cases (wasK ss k)
        have stop : Hid (segOk1 (wasK ss k) (mk, bk) = false → okS ss = false) := fun h => by rw [unhide HS, unhide HST, h]; rfl
        have goon : Hid (segOk1 (wasK ss k) (mk, bk) = true → okFrom 0 ss = okFrom (wasK ss (k + 1)) (ss.drop (k + 1))) := fun h => by rw [unhide HST, h]; rfl
        rw [hseg] at stop goon
        have nx : Hid (mayF (ikOf mk) (toI (wasK ss k)) = true → cntOk (ikOf mk) bk.length = true → ikOf mk = toI (wasK ss (k + 1))) := by
          intro h1 h2
          rcases hik with ⟨_, h3 | h3⟩ | ⟨_, h3⟩
          · rw [h3] at h1; simp [mayF] at h1
          · rw [h3] at h2; simp [cntOk] at h2
          · rw [unhide HW]; exact h3
        clear hseg hik HST HW
        generalize toI (wasK ss k) = last at *
        obtain ⟨ki, hki⟩ : ∃ ki, ikOf mk = ki := ⟨_, rfl⟩
        rw [hki] at hkc stop goon nx
        have HKI := hide hki
        have HKC := hide hkc
        have HLC := hide hlc
        obtain ⟨t, ht⟩ : ∃ t, mayF ki last = t := ⟨_, rfl⟩
        obtain ⟨u, hu⟩ : ∃ u, cntOk ki bk.length = u := ⟨_, rfl⟩
        rw [ht, hu] at stop goon nx
        have HT := hide ht
        have HU := hide hu
        clear hki hkc hlc ht hu
        generalize bk.length = lk at *
        go_wp2_with fail
        refine (implKind mk ki _ HKI).mono ?_
        rintro e w1 ⟨rfl, rfl⟩
        go_wp2_with fail
        refine (implMay ki last t _ (unhide HKC) (unhide HLC) HT).mono ?_
        rintro e w2 ⟨rfl, rfl⟩
        cases t
        · go_wp2
          go_ret
          exact ⟨by rw [unhide stop rfl]; rfl, grown_alloc hgk _⟩
        · go_wp2_with fail
          refine (implCount ki lk u _ (unhide HKC) HU).mono ?_
          rintro e w3 ⟨rfl, rfl⟩
          cases u
          · go_wp2
            go_ret
            exact ⟨by rw [unhide stop rfl]; rfl, grown_alloc hgk _⟩
          · go_wp2
            go_roundw
            case rel => exact ⟨k + 1, by omega, by go_num, by rw [unhide nx (by simp) (by simp)], unhide goon rfl, grown_alloc hgk _⟩
            case measure => simp [intOf]; omega
      · have hkn : k = n := by omega
        subst hkn
        rw [← hl, List.drop_length] at hok
        have H : Hid (okS ss = true) := by unfold Hid; rw [unhide HS, hok]; cases (wasK ss ss.length) <;> rfl
        clear hok
        go_wp2
        go_ret
        exact ⟨by rw [unhide H]; rfl, hgk⟩
  · have hdec : decide ((300 : Int) < (n : Int)) = true := by simp; omega
    have HS : Hid (okS ss = false) := by unfold Hid okS; rw [hl, decide_eq_false hbig]; rfl
    go_enter Tryd.func9, Tryd.ntmps9
    go_wp2
    go_ret
    exact ⟨by rw [unhide HS]; rfl, World.grownBy.refl _ _⟩

end Go.Proofs.YticecjodbhhcfaaDoor
